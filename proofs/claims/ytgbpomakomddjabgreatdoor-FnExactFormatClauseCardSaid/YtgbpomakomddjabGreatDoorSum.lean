/- DERIVED. CONTRACTS: spec.l02Max, spec.l02Min, spec.ClampedSum, impl.ClampedSum. -/
import Derived.Test.YtgbpomakomddjabGreatDoorMaths
import Derived.Test.YtgbpomakomddjabGreatDoorDats
namespace Go.Proofs.YtgbpomakomddjabGreatDoor
open Go.RowKit
def sumB (l : List Int) : Int := (l.map clampB).sum
theorem sumB_take {l : List Int} {k : Nat} (h : k < l.length) : sumB (l.take (k + 1)) = sumB (l.take k) + clampB l[k] := by
  unfold sumB
  rw [List.take_succ_eq_append_getElem h, List.map_append, List.sum_append]; simp
theorem clampB_le (x : Int) : -100000 ≤ clampB x ∧ clampB x ≤ 100000 := by unfold clampB; omega
theorem sumB_le (l : List Int) : -(100000 * (l.length : Int)) ≤ sumB l ∧ sumB l ≤ 100000 * (l.length : Int) := by
  unfold sumB
  induction l with
  | nil => simp
  | cons x l ih =>
    have := clampB_le x
    simp only [List.map_cons, List.sum_cons, List.length_cons]
    omega
theorem sumB_take_le (l : List Int) (k : Nat) (hk : k ≤ 1073741824) : -107374182400000 ≤ sumB (l.take k) ∧ sumB (l.take k) ≤ 107374182400000 := by
  have := sumB_le (l.take k)
  have : (l.take k).length ≤ k := by simp; omega
  omega

end Go.Proofs.YtgbpomakomddjabGreatDoor
