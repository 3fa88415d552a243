/- DERIVED. CONTRACTS: the program's EarliestStarts, PathBound, TailLength. -/
import Derived.Test.YtoggakfkpeloiaaGreatDsI
namespace Go.Proofs.YtoggakfkpeloiaaGreat
open Go.RowKit Go.Shelf
set_option linter.unusedVariables false

theorem early_yes {p : Pj} (h : okD p = true) : earlyL p = (List.range p.acts.length).map (earlyT (distT p) p.acts.length) := by rw [earlyL, if_pos h]
theorem early_no {p : Pj} (h : okD p = false) : earlyL p = [] := by rw [earlyL, h]; rfl
theorem bound_yes {p : Pj} (h : okD p = true) : boundB p = boundT (distT p) (shortA p) p.acts.length := by rw [boundB, if_pos h]
theorem bound_no {p : Pj} (h : okD p = false) : boundB p = 0 := by rw [boundB, h]; rfl
theorem tail_no {p : Pj} {a : Int} (h : okD p = false) : tailB p a = 0 := by rw [tailB, h]; simp
theorem tail_out {p : Pj} {a : Int} (h : ¬ (0 ≤ a ∧ a < (p.acts.length : Int))) : tailB p a = 0 := by rw [tailB, if_neg (fun e => h e.2)]
theorem tail_yes {p : Pj} {a : Nat} (h : okD p = true) (ha : a < p.acts.length) : tailB p (a : Int) = tailT (distT p) (shortA p) p.acts.length a := by rw [tailB, if_pos ⟨h, by omega, by omega⟩]; rfl

theorem enters_earliest : ∀ args w, (callFunc 55 args).run Tryz.prog w = .ok (.enter 55 args) w := enters_of Tryz.func55 (by kernel_rfl) rfl

end Go.Proofs.YtoggakfkpeloiaaGreat
