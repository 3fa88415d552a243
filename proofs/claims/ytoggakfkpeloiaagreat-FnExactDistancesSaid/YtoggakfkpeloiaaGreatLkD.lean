/- DERIVED. MATHEMATICS of the positive cycle that is reported. -/
import Derived.Test.YtoggakfkpeloiaaGreatLkG
namespace Go.Proofs.YtoggakfkpeloiaaGreat
open Go.RowKit
set_option linter.unusedVariables false

theorem gapsL_getD {p : Pj} {k : Nat} (h : k < p.lks.length) : (gapsL p).getD k 0 = gapA p p.lks[k] := by
  rw [List.getD_eq_getElem?_getD, List.getElem?_eq_getElem (by rw [gapsL_len]; exact h), gapsL_at h]; rfl
theorem srch_len {ls : List Lk} {G : List Int} {c : Nat} : ∀ (d : Nat) (chain r : List Nat), srch ls G c d chain = some r → r.length = c
  | 0, chain, r, h => by rw [srch] at h; cases h
  | d + 1, chain, r, h => by
    rw [srch] at h
    obtain ⟨k, _, hk⟩ := List.exists_of_findSome?_eq_some h
    split at hk
    · split at hk
      · next hc =>
        split at hk
        · injection hk with hk; rw [← hk]; simpa using hc
        · cases hk
      · exact srch_len d _ _ hk
    · cases hk
/-- The cycle of c links that is reported. -/
def posC (ls : List Lk) (G : List Int) (c : Nat) : Option (List Nat) := contC ls G c [] 0
theorem posC_srch {ls : List Lk} {G : List Int} {c : Nat} (h : 0 < c) : posC ls G c = srch ls G c c [] := by
  have := srch_eq (ls := ls) (G := G) (c := c) (chain := []) (by simpa using h)
  rw [List.length_nil, Nat.sub_zero] at this
  rw [this, posC, contC, List.reverse_nil, contR]; rfl
theorem posC_len {ls : List Lk} {G : List Int} {c : Nat} {r : List Nat} (hc : 0 < c) (h : posC ls G c = some r) : r.length = c := by
  rw [posC_srch hc] at h; exact srch_len _ _ _ h
/-- The model's way to it: from each link in turn. -/
theorem posC_ring {ls : List Lk} {G : List Int} {c : Nat} (hv : ∀ k, k < ls.length → frA ls k ≠ toA ls k) (hc : 2 ≤ c) : posC ls G c = (List.range ls.length).findSome? fun k => ringS ls G (c - 1) [k] := by
  obtain ⟨c, rfl⟩ : ∃ d, c = d + 2 := ⟨c - 2, by omega⟩
  rw [posC_srch (by omega), srch]
  simp only [loC, Nat.sub_zero]
  rw [← List.range_eq_range']
  refine findSome_congr fun k hk => ?_
  rw [folB, if_pos rfl, if_neg (by simp), List.nil_append, show c + 2 - 1 = c + 1 by omega, ring_one hv (List.mem_range.1 hk)]
noncomputable def posB (p : Pj) : List Int := if pokB p = true then up (((List.range' 2 (p.acts.length - 1)).findSome? (posC p.lks (gapsL p))).getD []) else []
theorem posB_bad {p : Pj} (h : pokB p = false) : posB p = [] := by rw [posB, h]; simp
theorem posB_len (p : Pj) : (posB p).length ≤ 6 := by
  unfold posB
  split
  · next hok =>
    have h6 := (pok_acts hok).1
    rw [up_len]
    cases h : (List.range' 2 (p.acts.length - 1)).findSome? (posC p.lks (gapsL p)) with
    | none => simp
    | some r =>
      obtain ⟨c, hc, hr⟩ := List.exists_of_findSome?_eq_some h
      rw [List.mem_range'_1] at hc
      rw [Option.getD_some, posC_len (by omega) hr]
      omega
  · simp
theorem pos_found {p : Pj} {c : Nat} {r : List Nat} (hok : pokB p = true) (h2 : 2 ≤ c) (hc : c ≤ p.acts.length) (hn : ∀ d, 2 ≤ d → d < c → posC p.lks (gapsL p) d = none) (h : posC p.lks (gapsL p) c = some r) : posB p = up r := by
  rw [posB, if_pos hok]
  have hr : (List.range' 2 (p.acts.length - 1)).findSome? (posC p.lks (gapsL p)) = some r := by
    rw [show p.acts.length - 1 = (c - 2) + ((p.acts.length - 1 - (c - 2) - 1) + 1) by omega, ← List.range'_append_1, List.findSome?_append]
    have h1 : (List.range' 2 (c - 2)).findSome? (posC p.lks (gapsL p)) = none := by
      rw [List.findSome?_eq_none_iff]
      intro d hd
      rw [List.mem_range'_1] at hd
      exact hn d (by omega) (by omega)
    rw [h1, show 2 + (c - 2) = c by omega, List.range'_succ, List.findSome?_cons, h]; rfl
  rw [hr]; rfl
theorem pos_none {p : Pj} (hok : pokB p = true) (hn : ∀ d, 2 ≤ d → d ≤ p.acts.length → posC p.lks (gapsL p) d = none) : posB p = [] := by
  rw [posB, if_pos hok]
  have hr : (List.range' 2 (p.acts.length - 1)).findSome? (posC p.lks (gapsL p)) = none := by
    rw [List.findSome?_eq_none_iff]
    intro d hd
    rw [List.mem_range'_1] at hd
    exact hn d (by omega) (by omega)
  rw [hr]; rfl
theorem pok_ends {p : Pj} (h : pokB p = true) : ∀ k, k < p.lks.length → frA p.lks k ≠ toA p.lks k := fun k hk => by
  rw [frA_yes hk, toA_yes hk]
  exact ((pok_lks h).2 _ (List.getElem_mem hk)).2.2.1
/-- The first that answers, among the numbers below n. -/
theorem some_found {n k : Nat} {f : Nat → Option (List Nat)} {r : List Nat} (hk : k < n) (hn : ∀ i, i < k → f i = none) (h : f k = some r) : (List.range n).findSome? f = some r := by
  rw [show n = k + ((n - k - 1) + 1) by omega, List.range_eq_range', ← List.range'_append_1, List.findSome?_append]
  have h1 : (List.range' 0 k).findSome? f = none := by
    rw [List.findSome?_eq_none_iff]
    intro d hd
    rw [List.mem_range'_1] at hd
    exact hn d (by omega)
  rw [h1, Nat.zero_add, List.range'_succ, List.findSome?_cons, h]; rfl
theorem some_none {n : Nat} {f : Nat → Option (List Nat)} (hn : ∀ i, i < n → f i = none) : (List.range n).findSome? f = none := by
  rw [List.findSome?_eq_none_iff]
  exact fun d hd => hn d (List.mem_range.1 hd)
theorem leaves_yes {ls : List Lk} {C : List Nat} {j : Nat} {y : Int} (h : j < C.length) (he : frA ls C[j] = y) : leavesB ls C y = true := by
  rw [leavesB, List.any_eq_true]
  exact ⟨C[j], List.getElem_mem h, decide_eq_true he⟩
theorem leaves_no {ls : List Lk} {C : List Nat} {y : Int} (h : ∀ j, (hj : j < C.length) → frA ls C[j] ≠ y) : leavesB ls C y = false := by
  rw [leavesB, Bool.eq_false_iff]
  intro ht
  obtain ⟨x, hx, he⟩ := List.any_eq_true.1 ht
  obtain ⟨j, hj, rfl⟩ := List.getElem_of_mem hx
  exact h j hj (of_decide_eq_true he)
theorem getLastD_at {C : List Nat} (h : 0 < C.length) : C.getLastD 0 = C[C.length - 1]'(by omega) := by
  rw [List.getLastD_eq_getLast?, List.getLast?_eq_getElem?, List.getElem?_eq_getElem (by omega)]; rfl
theorem headD_at {C : List Nat} (h : 0 < C.length) : C.headD 0 = C[0] := by
  cases C with
  | nil => simp at h
  | cons _ _ => rfl
theorem folB_at {ls : List Lk} {c : Nat} {C : List Nat} {k : Nat} (h : 0 < C.length) : folB ls c C k = (decide (frA ls k = toA ls (C[C.length - 1]'(by omega))) && (if C.length + 1 = c then decide (toA ls k = frA ls C[0]) else !(leavesB ls C (toA ls k)))) := by
  cases C with
  | nil => simp at h
  | cons c0 cs => rw [folB_cons, getLastD_at h]; rfl
end Go.Proofs.YtoggakfkpeloiaaGreat
