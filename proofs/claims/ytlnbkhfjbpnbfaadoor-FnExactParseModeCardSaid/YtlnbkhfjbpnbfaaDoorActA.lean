/- DERIVED. CONTRACTS: ModeOk, of the model and of the program. -/
import Derived.Test.YtlnbkhfjbpnbfaaDoorMod
import Derived.Test.YtlnbkhfjbpnbfaaDoorActMath
import Derived.Test.YtlnbkhfjbpnbfaaDoorIn
import Derived.Test.YtlnbkhfjbpnbfaaDoorRdI
import Derived.Test.YtlnbkhfjbpnbfaaDoorBlk
import Derived.WalkKit
import Derived.Lib.Hide
import Derived.OwnWalk
import Derived.BigQuiet
import Derived.Deep.RegionWith
import Derived.Deep.QuietTactic
import Derived.Outline
namespace Go.Proofs.YtlnbkhfjbpnbfaaDoor
open Go.RowKit

theorem inD_any (n lo hi : Int) (w : World) :
    Calls Tryd.prog 16 #[.int .i64 n, .int .i64 lo, .int .i64 hi] w fun e w' => e = .returned (.bool (inB n lo hi)) ∧ w = w' := l01In_any n lo hi w
theorem ret_boo {a b : Bool} (h : a = b) : Ending.returned (.bool a) = .returned (.bool b) := by rw [h]

theorem isDur_any (n : Int) (w : World) :
    Calls Tryd.prog 20 #[.int .i64 n] w fun e w' => e = .returned (.bool (inB n 1 12)) ∧ w = w' := by
  by_cases h : 1 ≤ n
  all_goals
    go_enter Tryd.func20, Tryd.ntmps20
    go_wp2
    go_ret
    exact ⟨by simp [inB] <;> omega, rfl⟩

/-- A valid mode, for r resources and s stocks. -/
def mokB (m : Md) (r s : Int) : Bool := inB m.du 1 12 && (numsB m.us r && numsB m.co s)

end Go.Proofs.YtlnbkhfjbpnbfaaDoor
