/- DERIVED. CONTRACTS: ModeOk, of the model and of the program. -/
import Derived.Test.YtdbnhdiboemmiacDats
import Derived.Test.YtdbnhdiboemmiacMaths
import Derived.Test.YtdbnhdiboemmiacCore
import Derived.WalkKit
import Derived.Lib.Hide
import Derived.OwnWalk
import Derived.BigQuiet
import Derived.Deep.RegionWith
import Derived.Deep.QuietTactic
import Derived.Outline
namespace Go.Proofs.Ytdbnhdiboemmiac
open Go.RowKit

theorem ret_boo {a b : Bool} (h : a = b) : Ending.returned (.bool a) = .returned (.bool b) := by rw [h]

/-- A valid mode, for r resources and s stocks. -/
def mokB (m : Md) (r s : Int) : Bool := inB m.du 1 12 && (numsB m.us r && numsB m.co s)

end Go.Proofs.Ytdbnhdiboemmiac
