/- DERIVED. Mathematics of leaving out literals that stand twice in a row. -/
import Derived.Test.YtgbpomakomddjabGreatDoorClM
import Derived.Test.YtgbpomakomddjabGreatDoorRwT
namespace Go.Proofs.YtgbpomakomddjabGreatDoor
open Go.RowKit Go.Shelf
set_option linter.unusedVariables false

/-- Whether the element at place m differs from the one before. -/
def kpL (s : List Lt) (m : Nat) : Bool := decide (m = 0) || decide (s.getD m litNone ≠ s.getD (m - 1) litNone)
def uK (s : List Lt) : Nat → List Lt
  | 0 => []
  | m + 1 => if kpL s m = true then uK s m ++ [s.getD m litNone] else uK s m
def uniqL (s : List Lt) : List Lt := uK s s.length
theorem uK_keep {s : List Lt} {m : Nat} (h : kpL s m = true) : uK s (m + 1) = uK s m ++ [s.getD m litNone] := by rw [uK, if_pos h]
theorem uK_skip {s : List Lt} {m : Nat} (h : kpL s m = false) : uK s (m + 1) = uK s m := by rw [uK, h]; simp
theorem uK_len (s : List Lt) : ∀ m, (uK s m).length ≤ m
  | 0 => by simp [uK]
  | m + 1 => by
    have := uK_len s m
    unfold uK; split <;> simp <;> omega
theorem uK_mono (s : List Lt) (m : Nat) : ∀ d, (uK s m).length ≤ (uK s (m + d)).length
  | 0 => Nat.le_refl _
  | d + 1 => by
    have := uK_mono s m d
    rw [← Nat.add_assoc]
    conv => rhs; unfold uK
    split
    · simp; omega
    · exact this
theorem kpL_zero (s : List Lt) : kpL s 0 = true := rfl
theorem kpL_yes {s : List Lt} {m : Nat} (hm : m < s.length) (h0 : 0 < m) (h : s[m] ≠ s[m - 1]) : kpL s m = true := by
  unfold kpL
  simp [List.getD, List.getElem?_eq_getElem hm, List.getElem?_eq_getElem (show m - 1 < s.length by omega), h]
theorem kpL_no {s : List Lt} {m : Nat} (hm : m < s.length) (h0 : 0 < m) (h : s[m] = s[m - 1]) : kpL s m = false := by
  unfold kpL
  simp [List.getD, List.getElem?_eq_getElem hm, List.getElem?_eq_getElem (show m - 1 < s.length by omega), h]
  omega
theorem getDL_at {s : List Lt} {m : Nat} (hm : m < s.length) : s.getD m litNone = s[m] := by simp [List.getD, List.getElem?_eq_getElem hm]
theorem uK_all {s : List Lt} : ∀ m, m ≤ s.length → (∀ j, j < m → kpL s j = true) → uK s m = s.take m
  | 0, _, _ => by simp [uK]
  | m + 1, hm, h => by
    rw [uK_keep (h m (by omega)), uK_all m (by omega) (fun j hj => h j (by omega)), List.take_succ_eq_append_getElem (by omega), getDL_at]
theorem uK_asc {s : List Lt} (hs : s.Pairwise fun a b => ¬ LtL b a) : ∀ m, m ≤ s.length → AscL (uK s m) ∧ ∀ x, x ∈ uK s m ↔ x ∈ s.take m
  | 0, _ => ⟨by simp [uK, AscL], by simp [uK]⟩
  | m + 1, hm => by
    obtain ⟨h1, h2⟩ := uK_asc hs m (by omega)
    have hlt : m < s.length := by omega
    have hp := List.pairwise_iff_getElem.1 hs
    rcases h : kpL s m with _ | _
    · rw [uK_skip h]
      refine ⟨h1, fun x => ?_⟩
      rw [h2 x, List.take_succ_eq_append_getElem hlt, List.mem_append, List.mem_singleton]
      refine ⟨.inl, ?_⟩
      rintro (h3 | rfl)
      · exact h3
      · have h0 : 0 < m := by
          rcases Nat.eq_zero_or_pos m with e | e
          · subst e; rw [kpL_zero] at h; cases h
          · exact e
        have he : s[m] = s[m - 1] := by
          by_cases e : s[m] = s[m - 1]
          · exact e
          · rw [kpL_yes hlt h0 e] at h; cases h
        rw [he]
        have hl : m - 1 < (s.take m).length := by rw [List.length_take]; omega
        have := List.getElem_mem hl
        rwa [List.getElem_take] at this
    · rw [uK_keep h, getDL_at hlt]
      refine ⟨?_, fun x => ?_⟩
      · unfold AscL
        rw [List.pairwise_append]
        refine ⟨h1, List.pairwise_singleton _ _, fun x hx y hy => ?_⟩
        rw [List.mem_singleton] at hy
        subst hy
        obtain ⟨i, hi, rfl⟩ := List.getElem_of_mem ((h2 x).1 hx)
        rw [List.length_take] at hi
        rw [List.getElem_take]
        have him : i < m := by omega
        refine ltL_not (hp i m (by omega) hlt him) ?_
        · intro e
          have hne : ¬ s[m] = s[m - 1] := fun e2 => by rw [kpL_no hlt (by omega) e2] at h; cases h
          apply hne
          by_cases e3 : i = m - 1
          · subst e3; exact e
          · have a1 := hp i (m - 1) (by omega) (by omega) (by omega)
            have a2 := hp (m - 1) m (by omega) hlt (by omega)
            rcases ltL_tri s[m] s[m - 1] with t | t | t
            · exact absurd t a2
            · exact t
            · rw [e] at t; exact absurd t a1
      · rw [List.mem_append, h2 x, List.mem_singleton, List.take_succ_eq_append_getElem hlt, List.mem_append, List.mem_singleton]
theorem uniq_le (s : List Lt) : (uniqL s).length ≤ s.length := uK_len s s.length
theorem uniq_all {s : List Lt} (h : ∀ j, j < s.length → kpL s j = true) : uniqL s = s := by
  rw [uniqL, uK_all _ (Nat.le_refl _) h, List.take_length]
theorem uniq_short {s : List Lt} (h : s.length < 2) : uniqL s = s := uniq_all fun j hj => by
  obtain rfl : j = 0 := by omega
  exact kpL_zero s
/-- The row while the second loop goes on: what is kept, then the row as it was. -/
def midU (s : List Lt) (m : Nat) : List Lt := uK s m ++ s.drop (uK s m).length
theorem midU_len {s : List Lt} {m : Nat} (hm : m ≤ s.length) : (midU s m).length = s.length := by
  have := uK_len s m
  unfold midU
  rw [List.length_append, List.length_drop]; omega
theorem midU_high {s : List Lt} {m j : Nat} (hj : j < s.length) (h : (uK s m).length ≤ j) (hm : m ≤ s.length) : (midU s m)[j]'(by rw [midU_len hm]; exact hj) = s[j] := by
  simp only [midU]
  rw [List.getElem_append_right h, List.getElem_drop]
  congr 1
  omega
theorem midU_skip {s : List Lt} {m : Nat} (h : kpL s m = false) : midU s (m + 1) = midU s m := by rw [midU, uK_skip h, midU]
theorem midU_keep {s : List Lt} {m : Nat} (hm : m < s.length) (h : kpL s m = true) : midU s (m + 1) = (midU s m).set (uK s m).length s[m] := by
  have hu := uK_len s m
  rw [midU, uK_keep h, midU, List.set_append_right _ _ (Nat.le_refl _), Nat.sub_self, List.length_append, List.length_singleton, getDL_at hm, List.append_assoc]
  congr 1
  rw [List.drop_eq_getElem_cons (show (uK s m).length < s.length by omega), List.set_cons_zero]
  rfl
theorem midU_start {s : List Lt} {k : Nat} (hk : k ≤ s.length) (h : ∀ j, j < k → kpL s j = true) : midU s k = s := by
  rw [midU, uK_all k hk h, List.length_take, Nat.min_eq_left hk, List.take_append_drop]
theorem midU_end (s : List Lt) : (midU s s.length).take (uniqL s).length = uniqL s := by
  unfold midU uniqL
  rw [List.take_left]
end Go.Proofs.YtgbpomakomddjabGreatDoor
