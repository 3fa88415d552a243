/- DERIVED. CONTRACTS: ResourceOk, of the model and of the program. -/
import Derived.Test.YtgbpomakomddjaaHofR
import Derived.Test.YtgbpomakomddjaaTPj
import Derived.Test.YtgbpomakomddjaaStpA
import Derived.Shelf.Abstract
namespace Go.Proofs.Ytgbpomakomddjaa
open Go.RowKit Go.Shelf
set_option linter.unusedVariables false

theorem flat_pts : ∀ xs : List (Int × Int), xs.flatMap cellsPt = (cellsP xs).map .one
  | [] => rfl
  | p :: xs => by rw [List.flatMap_cons, flat_pts xs]; rfl
/-- A row of setup times; the setup times; a resource. -/
def rowB (row : List Int) : Bool := decide ((row.length : Int) = 4) && row.all (fun n => inB n 0 12)
noncomputable def rokB (r : Rs) : Bool := r.su.all rowB && (okP r.st && (decide ((r.su.length : Int) = 0) || decide ((r.su.length : Int) = 4)))

end Go.Proofs.Ytgbpomakomddjaa
