/- DERIVED. CONTRACTS of chapter 10: ConsumptionOf of the program and of the model. -/
import Derived.Test.YtaglfdkeomjpdabGreatDoorScM
import Derived.Test.YtaglfdkeomjpdabGreatDoorTSchedule
import Derived.Test.YtaglfdkeomjpdabGreatDoorTPj
import Derived.Test.YtaglfdkeomjpdabGreatDoorDats
import Derived.Test.YtaglfdkeomjpdabGreatDoorRegZ
import Derived.Test.YtaglfdkeomjpdabGreatDoorPrC
import Derived.Test.YtaglfdkeomjpdabGreatDoorPrD
import Derived.Deep.QuietTactic

section
namespace Go.Proofs.YtaglfdkeomjpdabGreatDoor
open Go.RowKit Go.Shelf
set_option linter.unusedVariables false

theorem field_mode0 (x y z : Value) (w : World) : (Instr.field 134 (.agg #[x, y, z]) 0).run Tryz.prog w = .ok x w := by kernel_rfl
theorem field_mode1 (x y z : Value) (w : World) : (Instr.field 134 (.agg #[x, y, z]) 1).run Tryz.prog w = .ok y w := by kernel_rfl
theorem field_mode2 (x y z : Value) (w : World) : (Instr.field 134 (.agg #[x, y, z]) 2).run Tryz.prog w = .ok z w := by kernel_rfl
end Go.Proofs.YtaglfdkeomjpdabGreatDoor
end

section
namespace Go.Proofs.YtaglfdkeomjpdabGreatDoor
open Go.RowKit Go.Shelf
set_option linter.unusedVariables false

end Go.Proofs.YtaglfdkeomjpdabGreatDoor
end

section
namespace Go.Proofs.YtaglfdkeomjpdabGreatDoor
open Go.RowKit Go.Shelf
set_option linter.unusedVariables false

theorem max_iteI (a b : Int) : (if a < b then b else a) = max a b := by rw [Int.max_def]; split <;> split <;> omega
end Go.Proofs.YtaglfdkeomjpdabGreatDoor
end

section
namespace Go.Proofs.YtaglfdkeomjpdabGreatDoor
open Go.RowKit Go.Shelf
set_option linter.unusedVariables false

theorem runA_in {p : Pj} {s : Sc} {t : Int} {a : Nat} (h1 : stA s a ≤ t) (h2 : t < endA p s a) : runA p s t a = true := by simp [runA, h1, h2]
theorem runA_lo {p : Pj} {s : Sc} {t : Int} {a : Nat} (h1 : ¬ stA s a ≤ t) : runA p s t a = false := by simp [runA, h1]
theorem runA_hi {p : Pj} {s : Sc} {t : Int} {a : Nat} (h2 : endA p s a ≤ t) : runA p s t a = false := by
  rw [runA, decide_eq_false (p := t < endA p s a) (by omega)]
  simp

end Go.Proofs.YtaglfdkeomjpdabGreatDoor
end

section
namespace Go.Proofs.YtaglfdkeomjpdabGreatDoor
open Go.RowKit Go.Shelf
set_option linter.unusedVariables false

end Go.Proofs.YtaglfdkeomjpdabGreatDoor
end
