/- DERIVED. A drawn project's values are what Go can hold. -/
import Derived.Test.YtdbnhdiboemmiacGreatMkP
import Derived.Test.YtdbnhdiboemmiacGreatRuDr
namespace Go.Proofs.YtdbnhdiboemmiacGreat
open Go.RowKit Go.Shelf
set_option linter.unusedVariables false

theorem wf_small {n : Int} (h : -1000000 ≤ n ∧ n ≤ 1000000) : (Lit.int .i64 n).wf = true := by
  have h1 : IntKind.i64.min = -9223372036854775808 := rfl
  have h2 : IntKind.i64.max = 9223372036854775807 := rfl
  simp only [Lit.wf, Bool.and_eq_true, decide_eq_true_eq]
  omega
theorem trI_ok {us : List Int} (h : ∀ x ∈ us, -1000000 ≤ x ∧ x ≤ 1000000) : (trI us).ok := by
  show okL ((us.map (Value.int .i64)).map Tr.one)
  induction us with
  | nil => exact trivial
  | cons x us ih => exact ⟨wf_small (h x (by simp)), ih (fun y hy => h y (by simp [hy]))⟩
theorem drPj_trok {most : Nat} {p : Pj} (h : DrPj most p) (h6 : most ≤ 6) : (trPj p).ok := by
  refine ⟨wf_small (by have := h.dl; omega), flat_okL (f := cellsA) fun a ha => ?_, flat_okL (f := cellsL) fun l hl => ?_, flat_okL (f := cellsR) fun r hr => ?_, trI_ok fun x hx => by have := h.stk.2 x hx; omega, trivial⟩
  · obtain ⟨i, hi, rfl⟩ := List.getElem_of_mem ha
    have hd := h.acts.2.2 i hi
    have hn := (name_ok i (by have := h.acts.2.1; omega)).2
    refine ⟨by show p.acts[i].nm.size ≤ maxLen; rw [hd.1]; unfold maxLen; omega, wf_small (by have := hd.2.1; have := hd.2.2.1; omega), flat_okL (f := cellsM) fun m hm => ?_, trivial⟩
    have hm := hd.2.2.2.2.2 m hm
    exact ⟨wf_small (by have := hm.1; have := hm.2.1; omega), trI_ok fun x hx => by have := hm.2.2.2.2.1 x hx; omega, trI_ok fun x hx => by have := hm.2.2.2.2.2 x hx; omega, trivial⟩
  · have hl := h.lks.2 l hl
    have := h.acts.2.1
    obtain ⟨h1, h2, h3, h4, h5, h7, h8⟩ := hl
    exact ⟨wf_small (by omega), wf_small (by omega), trivial, wf_small (by omega), trivial⟩
  · have hr := h.ress.2.2 r hr
    refine ⟨flat_okL (f := cellsPt) fun q hq => ?_, flat_okL (f := cellsI1) fun row hrow => ?_, trivial⟩
    · have := hr.1.1.2.2.2 q hq
      have := hr.1.2
      exact ⟨wf_small (by omega), wf_small (by omega), trivial⟩
    · rcases hr.2 with e | ⟨_, e⟩
      · rw [e] at hrow; cases hrow
      · exact ⟨trI_ok fun x hx => by have := (e row hrow).2 x hx; omega, trivial⟩
end Go.Proofs.YtdbnhdiboemmiacGreat
