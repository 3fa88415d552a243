/- DERIVED. CONTRACTS: SetupTime, of the model and of the program. -/
import Derived.Test.YtaglfdkeomjpdabGreatDoorPrE
import Derived.Test.YtaglfdkeomjpdabGreatDoorRegZ
namespace Go.Proofs.YtaglfdkeomjpdabGreatDoor
open Go.RowKit Go.Shelf
set_option linter.unusedVariables false

noncomputable def setupT (p : Pj) (r a b : Int) : Int :=
  if pokB p = true ∧ machB p r = true then (match atI p.ress r, atI p.acts a, atI p.acts b with | some x, some y, some z => (x.su.getD y.fa.toNat []).getD z.fa.toNat 0 | _, _, _ => 0) else 0
theorem setupT_ok {p : Pj} {r a b : Int} (h : pokB p = false) : setupT p r a b = 0 := by rw [setupT, if_neg (by rw [h]; simp)]
theorem setupT_mach {p : Pj} {r a b : Int} (h : machB p r = false) : setupT p r a b = 0 := by rw [setupT, if_neg (by rw [h]; simp)]
theorem setupT_a {p : Pj} {r a b : Int} (h : ¬ (0 ≤ a ∧ a < (p.acts.length : Int))) : setupT p r a b = 0 := by
  rw [setupT, atI_no h]
  split
  · cases atI p.ress r <;> rfl
  · rfl
theorem setupT_b {p : Pj} {r a b : Int} (h : ¬ (0 ≤ b ∧ b < (p.acts.length : Int))) : setupT p r a b = 0 := by
  rw [setupT, atI_no h]
  split
  · cases atI p.ress r <;> cases atI p.acts a <;> rfl
  · rfl
theorem machB_in {p : Pj} {r : Int} (h : machB p r = true) : ∃ n : Nat, r = (n : Int) ∧ n < p.ress.length := by
  by_cases hr : 0 ≤ r ∧ r < (p.ress.length : Int)
  · exact ⟨r.toNat, by omega, by omega⟩
  · rw [machB_no hr] at h; cases h
theorem pok_ress {p : Pj} (h : pokB p = true) : ∀ x ∈ p.ress, rokB x = true := by
  simp only [pokB, Bool.and_eq_true, List.all_eq_true] at h
  exact h.2.2.2.2.2.2.2.1
theorem rok_su {x : Rs} (h : rokB x = true) (h0 : 0 < x.su.length) : x.su.length = 4 ∧ ∀ row ∈ x.su, row.length = 4 := by
  simp only [rokB, Bool.and_eq_true, Bool.or_eq_true, List.all_eq_true, decide_eq_true_eq] at h
  refine ⟨by omega, fun row hr => ?_⟩
  have := h.1 row hr
  simp only [rowB, Bool.and_eq_true, decide_eq_true_eq] at this
  omega
/-- The places that a setup time is read at. -/
theorem setupT_at {p : Pj} {n i j : Nat} (hok : pokB p = true) (hm : machB p (n : Int) = true) (hn : n < p.ress.length) (hi : i < p.acts.length) (hj : j < p.acts.length) :
    ∃ f g : Nat, p.acts[i].fa = (f : Int) ∧ p.acts[j].fa = (g : Int) ∧ ∃ (hf : f < p.ress[n].su.length) (hg : g < (p.ress[n].su[f]).length), setupT p (n : Int) (i : Int) (j : Int) = (p.ress[n].su[f])[g] := by
  have ha := (aok_modes ((pok_acts hok).2 _ (List.getElem_mem hi))).2.2
  have hb := (aok_modes ((pok_acts hok).2 _ (List.getElem_mem hj))).2.2
  have ha' := inB_iff.1 ha
  have hb' := inB_iff.1 hb
  have hm' := hm
  rw [machB_yes hn, decide_eq_true_eq] at hm'
  obtain ⟨h4, hrow⟩ := rok_su (pok_ress hok _ (List.getElem_mem hn)) (by omega)
  have hf : p.acts[i].fa.toNat < p.ress[n].su.length := by omega
  have hg : p.acts[j].fa.toNat < (p.ress[n].su[p.acts[i].fa.toNat]).length := by rw [hrow _ (List.getElem_mem hf)]; omega
  refine ⟨p.acts[i].fa.toNat, p.acts[j].fa.toNat, by omega, by omega, hf, hg, ?_⟩
  rw [setupT, if_pos ⟨hok, hm⟩, atI_yes hn, atI_yes hi, atI_yes hj]
  simp only [List.getD_eq_getElem?_getD]
  rw [List.getElem?_eq_getElem hf, Option.getD_some, List.getElem?_eq_getElem hg, Option.getD_some]

end Go.Proofs.YtaglfdkeomjpdabGreatDoor
