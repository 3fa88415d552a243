/- DERIVED. The lengths of the answers of chapter 9. No contract. -/
import Derived.Test.YtoggakfkpeloiaaGreatDsQ
import Derived.Test.YtoggakfkpeloiaaGreatTIntS
namespace Go.Proofs.YtoggakfkpeloiaaGreat
open Go.RowKit
set_option linter.unusedVariables false

theorem earlyL_len (p : Pj) : (earlyL p).length ≤ 6 := by rw [earlyL_eq, map_len]; exact nD_six p
theorem critL_len (p : Pj) : (critL p).length ≤ 6 := by rw [crit_eq]; exact Nat.le_trans (critK_len _ _) (nD_six p)
theorem szI_rows : ∀ (D : List (List Int)) (n : Nat), (∀ r ∈ D, r.length ≤ n) → szL (D.flatMap cellsI1) ≤ D.length * n
  | [], n, _ => by simp [szL]
  | r :: D, n, h => by
    have ih := szI_rows D n (fun q hq => h q (List.mem_cons_of_mem _ hq))
    have hr := h r (List.mem_cons_self ..)
    have e : szL ((r :: D).flatMap cellsI1) = r.length + szL (D.flatMap cellsI1) := by
      rw [List.flatMap_cons]
      show szL (trI r :: D.flatMap cellsI1) = _
      rw [szL, trI_sz]
    rw [e, List.length_cons, Nat.succ_mul]
    omega
theorem distL_sz (p : Pj) : (trSu (distL p)).sz ≤ 42 := by
  have h6 := nD_six p
  have hl : (distL p).length = nD p := by rw [distL_eq, tabL_len]
  have h := szI_rows (distL p) 6 (fun r hr => by
    rw [distL_eq, tabL, List.mem_map] at hr
    obtain ⟨i, _, rfl⟩ := hr
    rw [rowL_len]; exact h6)
  show (distL p).length + szL ((distL p).flatMap cellsI1) ≤ 42
  omega
end Go.Proofs.YtoggakfkpeloiaaGreat
