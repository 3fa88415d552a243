/- DERIVED. CONTRACT: spec.MakeSched: a schedule drawn. -/
import Derived.Test.YtdbnhdiboemmiacGreatDr5
import Derived.Test.YtdbnhdiboemmiacGreatTFl
import Derived.Test.YtdbnhdiboemmiacGreatScLt
import Derived.Test.YtdbnhdiboemmiacGreatRegZ
import Derived.Deep.AppendLies
import Derived.Deep.CutRange
import Derived.Deep.DeepCutAuto
import Derived.Test.YtdbnhdiboemmiacGreatMkP

section
namespace Go.Proofs.YtdbnhdiboemmiacGreat
open Go.RowKit Go.Shelf
set_option linter.unusedVariables false

/-- The two lists of a schedule as they are drawn. -/
def DrSs (p : Pj) (us vs : List Int) : Prop := (∀ x ∈ us, 0 ≤ x ∧ x ≤ 24) ∧ ∀ j, (h : j < vs.length) → 0 ≤ vs[j] ∧ vs[j] < ((acA p j).length : Int)
theorem DrSs.start (p : Pj) : DrSs p [] [] := And.intro (fun x (h : x ∈ ([] : List Int)) => absurd h (by simp)) (fun j (h : j < ([] : List Int).length) => absurd h (by simp))
theorem DrSs.snoc {p : Pj} {us vs : List Int} {x y : Int} (h : DrSs p us vs) (hx : 0 ≤ x ∧ x ≤ 24) (hy : 0 ≤ y ∧ y < ((acA p vs.length).length : Int)) : DrSs p (us ++ [x]) (vs ++ [y]) := by
  refine ⟨fun z hz => ?_, fun j hj => ?_⟩
  · rcases List.mem_append.1 hz with hz | hz
    · exact h.1 z hz
    · simp at hz; subst hz; exact hx
  · rw [List.length_append] at hj
    by_cases e : j < vs.length
    · rw [List.getElem_append_left e]; exact h.2 j e
    · obtain rfl : j = vs.length := by simp at hj; omega
      simp only [List.getElem_append_right (Nat.le_refl _), Nat.sub_self, List.getElem_cons_zero]
      exact hy
structure DrSc (p : Pj) (s : Sc) : Prop where
  h1 : s.st.length = p.acts.length
  h2 : s.mo.length = p.acts.length
  all : DrSs p s.st s.mo
section
variable {W0 w W : World} {g : Nat} {A : Option Addr} {c : Nat} {bs : List Int} {L : List Item}
theorem Sd.pick (i : Nat) {a : Item} (h : Sd W0 w g A c bs L W) (ha : L[i]? = some a) : Sd W0 w g A c bs (a :: L.eraseIdx i) W := ⟨h.wr, h.items.pick i ha, h.drw, h.lt, h.le⟩
theorem Sd.old {t : Tr} {v : Value} (h : Sd W0 w g A c bs L W) (hv : t.rd W0 v) : t.rd W v := Tr.rd_below h.drw.bel (Nat.le_refl _) _ _ hv
end

end Go.Proofs.YtdbnhdiboemmiacGreat
end

section
namespace Go.Proofs.YtdbnhdiboemmiacGreat
open Go.RowKit Go.Shelf
set_option linter.unusedVariables false

theorem name_ne : ∀ i j : Nat, i < 6 → j < i → nameAt j ≠ nameAt i := by
  intro i j hi hj
  have h1 : i = 1 ∨ i = 2 ∨ i = 3 ∨ i = 4 ∨ i = 5 := by omega
  have h2 : j = 0 ∨ j = 1 ∨ j = 2 ∨ j = 3 ∨ j = 4 := by omega
  rcases h1 with rfl | rfl | rfl | rfl | rfl <;> rcases h2 with rfl | rfl | rfl | rfl | rfl <;> first | omega | decide
theorem drPj_own {most : Nat} {p : Pj} (h : DrPj most p) (h6 : most ≤ 6) : ownB p.acts = true := by
  have hn : ∀ i, (hi : i < p.acts.length) → p.acts[i].nm = nameAt i := fun i hi => (h.acts.2.2 i hi).1
  have hl := h.acts.2.1
  refine ownB_yes fun j hj => ?_
  exact ixB_at hj (fun k hk hkj => by
    rw [decide_eq_false_iff_not]
    intro e
    rw [hn k hk, hn j hj] at e
    exact name_ne j k (by omega) hkj e) (by rw [decide_eq_true_eq])
theorem drPj_ok {most : Nat} {p : Pj} (h : DrPj most p) (h6 : most ≤ 6) : pokB p = true := by
  have ha := h.acts
  have hr := h.ress
  have hk := h.stk
  have hl := h.lks
  have hd := h.dl
  unfold pokB
  rw [inB_yes (by omega), inB_yes (show (1 : Int) ≤ (p.acts.length : Int) ∧ (p.acts.length : Int) ≤ 6 by omega), drPj_own h h6,
    decide_eq_true (show (p.ress.length : Int) ≤ 3 by omega), decide_eq_true (show (p.stk.length : Int) ≤ 2 by have := hk.1; omega), decide_eq_true (show (p.lks.length : Int) ≤ 12 by omega)]
  rw [List.all_eq_true.2 (fun a haa => by
      obtain ⟨i, hi, rfl⟩ := List.getElem_of_mem haa
      exact (ha.2.2 i hi).ok (by omega)),
    List.all_eq_true.2 (fun r hrr => by
      obtain ⟨⟨h1, h2⟩, h3⟩ := hr.2.2 r hrr
      have hok := okP_iff.2 (h1.ok h2)
      unfold rokB
      rcases h3 with h3 | ⟨h3, h4⟩
      · rw [h3, hok]; rfl
      · rw [hok, List.all_eq_true.2 (fun row hrow => by
          unfold rowB
          rw [List.all_eq_true.2 (fun x hx => inB_yes (by have := (h4 row hrow).2 x hx; omega)), decide_eq_true (by have := (h4 row hrow).1; omega)]
          rfl)]
        simp [h3]),
    List.all_eq_true.2 (fun x hx => inB_yes (by have := hk.2 x hx; omega)),
    List.all_eq_true.2 (fun l hll => by
      obtain ⟨h1, h2, h3, h4, h5, h7, h8⟩ := hl.2 l hll
      unfold lokB
      rw [inB_yes (by omega), inB_yes (by omega), inB_yes (by omega), decide_eq_false h5]
      rfl)]
  rfl
theorem drSc_form {p : Pj} {s : Sc} (hp : pokB p = true) (h : DrSc p s) : formB p s = true := by
  refine form_yes hp h.h1 h.h2 fun a ha => good_yes ?_ ?_
  · have ha1 : a < s.st.length := by rw [h.h1]; exact ha
    rw [stA_at ha1]
    have := h.all.1 _ (List.getElem_mem ha1)
    omega
  · have ha2 : a < s.mo.length := by rw [h.h2]; exact ha
    rw [moA_at ha2]
    have := h.all.2 a ha2
    omega

end Go.Proofs.YtdbnhdiboemmiacGreat
end
