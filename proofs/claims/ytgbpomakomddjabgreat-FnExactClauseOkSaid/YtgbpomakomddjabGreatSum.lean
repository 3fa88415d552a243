/- DERIVED. CONTRACTS: spec.l02Max, spec.l02Min, spec.ClampedSum, impl.ClampedSum. -/
import Derived.Test.YtgbpomakomddjabGreatMaths
import Derived.Test.YtgbpomakomddjabGreatDats
namespace Go.Proofs.YtgbpomakomddjabGreat
open Go.RowKit
def sumB (l : List Int) : Int := (l.map clampB).sum
theorem sumB_take {l : List Int} {k : Nat} (h : k < l.length) : sumB (l.take (k + 1)) = sumB (l.take k) + clampB l[k] := by
  unfold sumB
  rw [List.take_succ_eq_append_getElem h, List.map_append, List.sum_append]; simp
theorem clampB_le (x : Int) : -100000 ≤ clampB x ∧ clampB x ≤ 100000 := by unfold clampB; omega
theorem sumB_le (l : List Int) : -(100000 * (l.length : Int)) ≤ sumB l ∧ sumB l ≤ 100000 * (l.length : Int) := by
  unfold sumB
  induction l with
  | nil => simp
  | cons x l ih =>
    have := clampB_le x
    simp only [List.map_cons, List.sum_cons, List.length_cons]
    omega
theorem sumB_take_le (l : List Int) (k : Nat) (hk : k ≤ 1073741824) : -107374182400000 ≤ sumB (l.take k) ∧ sumB (l.take k) ≤ 107374182400000 := by
  have := sumB_le (l.take k)
  have : (l.take k).length ≤ k := by simp; omega
  omega

theorem max_any (x y : Int) (w : World) : Calls Tryz.prog 116 #[.int .i64 x, .int .i64 y] w fun e w' => e = .returned (.int .i64 (max x y)) ∧ w' = w := by
  by_cases h : x > y
  · have H := Lib.hid (show max x y = x by omega)
    go_enter Tryz.func116, Tryz.ntmps116
    go_wp2
    go_ret
    exact ⟨by rw [H.out]; rfl, rfl⟩
  · have H := Lib.hid (show max x y = y by omega)
    go_enter Tryz.func116, Tryz.ntmps116
    go_wp2
    go_ret
    exact ⟨by rw [H.out]; rfl, rfl⟩
theorem min_any (x y : Int) (w : World) : Calls Tryz.prog 117 #[.int .i64 x, .int .i64 y] w fun e w' => e = .returned (.int .i64 (min x y)) ∧ w' = w := by
  by_cases h : x < y
  · have H := Lib.hid (show min x y = x by omega)
    go_enter Tryz.func117, Tryz.ntmps117
    go_wp2
    go_ret
    exact ⟨by rw [H.out]; rfl, rfl⟩
  · have H := Lib.hid (show min x y = y by omega)
    go_enter Tryz.func117, Tryz.ntmps117
    go_wp2
    go_ret
    exact ⟨by rw [H.out]; rfl, rfl⟩

end Go.Proofs.YtgbpomakomddjabGreat
