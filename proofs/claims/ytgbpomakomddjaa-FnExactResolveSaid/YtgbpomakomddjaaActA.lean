/- DERIVED. CONTRACTS: ModeOk, of the model and of the program. -/
import Derived.Test.YtgbpomakomddjaaDats
import Derived.Test.YtgbpomakomddjaaMaths
import Derived.Test.YtgbpomakomddjaaCore
import Derived.WalkKit
import Derived.Lib.Hide
import Derived.OwnWalk
import Derived.BigQuiet
import Derived.Deep.RegionWith
import Derived.Deep.QuietTactic
import Derived.Outline
namespace Go.Proofs.Ytgbpomakomddjaa
open Go.RowKit

theorem inD_any (n lo hi : Int) (w : World) :
    Calls Try.prog 52 #[.int .i64 n, .int .i64 lo, .int .i64 hi] w fun e w' => e = .returned (.bool (inB n lo hi)) ∧ w = w' := l01In_any n lo hi w
theorem ret_boo {a b : Bool} (h : a = b) : Ending.returned (.bool a) = .returned (.bool b) := by rw [h]

/-- A valid mode, for r resources and s stocks. -/
def mokB (m : Md) (r s : Int) : Bool := inB m.du 1 12 && (numsB m.us r && numsB m.co s)

end Go.Proofs.Ytgbpomakomddjaa
