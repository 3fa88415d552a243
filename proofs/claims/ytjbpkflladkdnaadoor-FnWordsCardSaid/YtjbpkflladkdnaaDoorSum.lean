/- DERIVED. CONTRACTS: spec.l02Max, spec.l02Min, spec.ClampedSum, impl.ClampedSum. -/
import Derived.Test.YtjbpkflladkdnaaDoorSetMath
import Derived.Test.YtjbpkflladkdnaaDoorRdI
namespace Go.Proofs.YtjbpkflladkdnaaDoor
open Go.RowKit
def sumB (l : List Int) : Int := (l.map clampB).sum
theorem sumB_take {l : List Int} {k : Nat} (h : k < l.length) : sumB (l.take (k + 1)) = sumB (l.take k) + clampB l[k] := by
  unfold sumB
  rw [List.take_succ_eq_append_getElem h, List.map_append, List.sum_append]; simp
theorem clampB_le (x : Int) : -100000 ≤ clampB x ∧ clampB x ≤ 100000 := by unfold clampB; omega
theorem sumB_le (l : List Int) : -(100000 * (l.length : Int)) ≤ sumB l ∧ sumB l ≤ 100000 * (l.length : Int) := by
  unfold sumB
  induction l with
  | nil => simp
  | cons x l ih =>
    have := clampB_le x
    simp only [List.map_cons, List.sum_cons, List.length_cons]
    omega
theorem sumB_take_le (l : List Int) (k : Nat) (hk : k ≤ 1073741824) : -107374182400000 ≤ sumB (l.take k) ∧ sumB (l.take k) ≤ 107374182400000 := by
  have := sumB_le (l.take k)
  have : (l.take k).length ≤ k := by simp; omega
  omega

set_option maxRecDepth 100000 in
set_option maxHeartbeats 1000000 in
theorem implSum_any (xs : List Int) (v : Value) (w : World) (hr : Rd w v (xs.map (.int .i64))) (hlen : xs.length ≤ 1073741824) :
    Calls Tryd.prog 15 #[v] w fun e w' => e = .returned (.int .i64 (sumB xs)) ∧ w' = w := by
  obtain ⟨hl, A, c, rfl, HR⟩ := rdI hr
  clear hl
  have HA := Lib.hid HR
  clear hr HR
  go_enter Tryd.func15, Tryd.ntmps15
  go_wp2
  go_loopw [3, 8] (fun s i wr => ∃ k : Nat, k ≤ xs.length ∧ i = .int .i64 k ∧ wr = w ∧ s = .int .i64 (sumB (xs.take k))) (fun _ i _ => xs.length - (intOf i).toNat)
  case atStart => exact ⟨0, Nat.zero_le _, rfl, rfl, rfl⟩
  case round =>
    obtain ⟨k, hk, rfl, rfl, rfl⟩ := hrel
    by_cases hlt : k < xs.length
    · have hlt' : (k : Int) < (xs.length : Int) := by omega
      obtain ⟨b, o, rfl, hb, hc⟩ := HA.out k hlt
      have cx := hc k hlt
      clear hc
      have HS := Lib.hid (sumB_take hlt)
      have hbd := sumB_take_le xs k (by omega)
      generalize hs : sumB (xs.take k) = s at hbd HS
      clear hs
      generalize xs[k] = y at cx HS
      have hcl := Lib.hid (clampB_le y)
      go_wp2
      go_roundw
      case rel => exact ⟨k + 1, by omega, by go_num, by trivial, by rw [HS.out]; have := hcl.out; unfold clampB at *; go_num⟩
      case measure => simp [intOf]; omega
    · have hge : ¬ (k : Int) < (xs.length : Int) := by omega
      obtain rfl : k = xs.length := by omega
      rw [List.take_of_length_le (Nat.le_refl _)]
      go_wp2
      go_ret
      exact ⟨rfl, rfl⟩
end Go.Proofs.YtjbpkflladkdnaaDoor
