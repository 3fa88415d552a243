/- DERIVED. CONTRACT: PositiveCycle of the program, put together. -/
import Derived.Test.YtoggakfkpeloiaaGreatLkQ
import Derived.Test.YtoggakfkpeloiaaGreatLkPi
namespace Go.Proofs.YtoggakfkpeloiaaGreat
open Go.RowKit Go.Shelf
set_option linter.unusedVariables false
theorem implPositive_any (p : Pj) (v : Value) (w : World) (hv : (trPj p).rd w v) (hk : (trPj p).ok) :
    Calls Tryz.prog 76 #[v] w fun e w' => ∃ u F, e = .returned u ∧ (trI (posB p)).own w' w.heap.size u F ∧ F.Nodup ∧ Below w.heap.size w w' :=
  implPositive_of p v w hv hk (fun c h2 h6 C k v u w hv hu hC hk hcl => implCanFollow_any p c C k v u w hv hu hC hk h6 hcl) (fun C ug u w hg hu hC => implSumOf_any (gapsL p) C ug u w hg hu hC)
end Go.Proofs.YtoggakfkpeloiaaGreat
