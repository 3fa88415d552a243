/- DERIVED. CONTRACTS: the model's MinDuration, MaxDuration, MinUsage, MinConsumption, MinWork. -/
import Derived.Test.YtnbkiobbacaaiaaGreatDoorActA
import Derived.Test.YtnbkiobbacaaiaaGreatDoorMaths
import Derived.Test.YtnbkiobbacaaiaaGreatDoorSets
import Derived.Test.YtnbkiobbacaaiaaGreatDoorCore
namespace Go.Proofs.YtnbkiobbacaaiaaGreatDoor
open Go.RowKit

theorem ret_in {a b : Int} (h : a = b) : Ending.returned (.int .i64 a) = .returned (.int .i64 b) := by rw [h]
def durV (m : Md) : Option Int := some m.du
def leastV (t : Int) (take work : Bool) (m : Md) : Option Int :=
  (amtB (if take then m.co else m.us) t).map fun x => if work then wrap64 (x * m.du) else x
theorem dur_lacks {ms : List Md} {S : List Int} : ¬ Lacks ms S durV := fun ⟨_, _, _, h⟩ => by cases h
theorem hasS_any (xs : List Int) (x : Int) (v : Value) (w : World) (hr : Rd w v (xs.map (.int .i64))) :
    Calls Tryz.prog 91 #[v, .int .i64 x] w fun e w' => e = .returned (.bool (hasB xs x)) ∧ w = w' :=
  (specHas_any xs x v w hr).mono fun _ _ ⟨he, hw⟩ => ⟨he, hw.symm⟩

end Go.Proofs.YtnbkiobbacaaiaaGreatDoor
