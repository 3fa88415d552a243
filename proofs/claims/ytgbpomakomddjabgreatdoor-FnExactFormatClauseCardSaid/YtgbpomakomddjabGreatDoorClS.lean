/- DERIVED. Mathematics of sorting literals and of leaving out what stands twice. -/
import Derived.Test.YtgbpomakomddjabGreatDoorClM
import Derived.Test.YtgbpomakomddjabGreatDoorRwT
import Derived.Test.YtgbpomakomddjabGreatDoorClS0
import Derived.Shelf.SlSortCmp.InsertionK
namespace Go.Proofs.YtgbpomakomddjabGreatDoor
open Go.RowKit Go.Shelf Go.Sort
set_option linter.unusedVariables false

theorem ltOf_iff {a b : Lt} : ltOf cmpLt a b = true ↔ LtL a b := by
  unfold ltOf
  rw [decide_eq_true_eq]
  exact cmp_neg
theorem ltOf_no {a b : Lt} : ltOf cmpLt a b = false ↔ ¬ LtL a b := by
  rw [← ltOf_iff]; simp
theorem swoLt : SWO (ltOf cmpLt) where
  irrefl x := by rw [ltOf_no]; exact ltL_irr x
  trans x y z h1 h2 := by rw [ltOf_iff] at *; exact ltL_trans h1 h2
  ntrans x y z h1 h2 := by
    rw [ltOf_no, ltL_iff] at *
    omega
theorem totLt (x y : Lt) (h1 : ltOf cmpLt x y = false) (h2 : ltOf cmpLt y x = false) : x = y := by
  rw [ltOf_no] at h1 h2
  rcases ltL_tri x y with h | h | h
  · exact absurd h h1
  · exact h
  · exact absurd h h2
def sortL (l : List Lt) : List Lt := l.mergeSort fun x y => !(ltOf cmpLt) y x
theorem sortL_len (l : List Lt) : (sortL l).length = l.length := List.length_mergeSort l
theorem mem_sortL (l : List Lt) (x : Lt) : x ∈ sortL l ↔ x ∈ l := (List.mergeSort_perm l _).mem_iff
theorem sortL_sorted (l : List Lt) : (sortL l).Pairwise fun a b => ¬ LtL b a := by
  have h := List.pairwise_mergeSort (le := fun x y : Lt => !(ltOf cmpLt) y x) (fun a b c h1 h2 => by
    simp only [Bool.not_eq_true', ltOf_no] at *
    rw [ltL_iff] at *
    omega) (fun a b => by
    simp only [Bool.or_eq_true, Bool.not_eq_true', ltOf_no]
    rw [ltL_iff, ltL_iff]
    omega) l
  refine h.imp ?_
  intro a b hab
  simp only [Bool.not_eq_true', ltOf_no] at hab
  exact hab

theorem uniq_sort (l : List Lt) : uniqL (sortL l) = newL l := by
  obtain ⟨h1, h2⟩ := uK_asc (sortL_sorted l) (sortL l).length (Nat.le_refl _)
  refine newL_of h1 fun x => ?_
  rw [uniqL, h2 x, List.take_length, mem_sortL]
end Go.Proofs.YtgbpomakomddjabGreatDoor
