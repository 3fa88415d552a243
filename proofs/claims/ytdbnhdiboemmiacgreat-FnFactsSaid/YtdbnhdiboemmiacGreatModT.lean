/- DERIVED. CONTRACTS of the laws' helpers over modes and activities: to, eq. -/
import Derived.Test.YtdbnhdiboemmiacGreatDats
import Derived.Test.YtdbnhdiboemmiacGreatCore
namespace Go.Proofs.YtdbnhdiboemmiacGreat
open Go.RowKit

theorem ret_bool {a b : Bool} (h : a = b) : Ending.returned (.bool a) = .returned (.bool b) := by rw [h]

theorem dec_md (m n : Md) : decide (m = n) = (decide (m.du = n.du) && (decide (m.us = n.us) && decide (m.co = n.co))) := by
  rw [Bool.eq_iff_iff]
  simp [md_ext]

theorem infoMode : (Tryz.prog.info? 103).map (fun i => (i.zero, i.size, i.bytes)) = some (some (.agg #[.int .i64 0, .slice none 0 0, .slice none 0 0]), 3, 56) := by kernel_rfl

end Go.Proofs.YtdbnhdiboemmiacGreat
