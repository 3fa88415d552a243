/- DERIVED. CONTRACTS of the laws' helpers over modes and activities: to, eq. -/
import Derived.Test.YtgbpomakomddjaaDats
import Derived.Test.YtgbpomakomddjaaCore
namespace Go.Proofs.Ytgbpomakomddjaa
open Go.RowKit

theorem ret_bool {a b : Bool} (h : a = b) : Ending.returned (.bool a) = .returned (.bool b) := by rw [h]

theorem dec_md (m n : Md) : decide (m = n) = (decide (m.du = n.du) && (decide (m.us = n.us) && decide (m.co = n.co))) := by
  rw [Bool.eq_iff_iff]
  simp [md_ext]

end Go.Proofs.Ytgbpomakomddjaa
