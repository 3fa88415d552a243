/- DERIVED. CONTRACTS: spec.StepsEqual, slices.Equal at steps, impl.StepsEqual. -/
import Derived.Test.YthcbndbfgpeokaaDoorStpA
import Derived.Test.YthcbndbfgpeokaaDoorStpS
namespace Go.Proofs.YthcbndbfgpeokaaDoor
open Go.RowKit

set_option maxRecDepth 100000 in
set_option maxHeartbeats 1000000 in
theorem equalP_any (xs ys : List Pr) (va vb : Value) (w : World) (ha : RdP w va xs) (hb : RdP w vb ys) :
    Calls Tryd.prog 34 #[va, vb] w fun e w' => e = .returned (.bool (decide (xs = ys))) ∧ Below w.heap.size w w' := by
  have hla := ha.le
  have hlb := hb.le
  obtain ⟨A, ca, rfl, ga⟩ := rdPk ha
  obtain ⟨B, cb, rfl, gb⟩ := rdPk hb
  clear ha hb
  have GA := Lib.hid ga
  have GB := Lib.hid gb
  clear ga gb
  by_cases hne : xs.length = ys.length
  · have hne' : ((xs.length : Int) != (ys.length : Int)) = false := by simp; omega
    have HL := Lib.hid hne
    clear hne
    go_enter Tryd.func34, Tryd.ntmps34
    go_wp2
    go_loopw [13] (fun i wr => ∃ k n : Nat, k ≤ xs.length ∧ i = .int .i64 k ∧ wr = w.drewN n ∧ ∀ j, (h1 : j < xs.length) → (h2 : j < ys.length) → j < k → xs[j] = ys[j]) (fun i _ => xs.length - (intOf i).toNat)
    case atStart => exact ⟨0, 0, Nat.zero_le _, rfl, rfl, fun j _ _ h => absurd h (by omega)⟩
    case round =>
      obtain ⟨k, n, hk, rfl, rfl, hall⟩ := hrel
      by_cases hlt : k < xs.length
      · have hlt' : (k : Int) < (xs.length : Int) := by omega
        have hlt2 : k < ys.length := by have := HL.out; omega
        have hlt2' : (k : Int) < (ys.length : Int) := by omega
        obtain ⟨b1, o1, rfl, hb1, hc1⟩ := GA.out k hlt
        obtain ⟨b2, o2, rfl, hb2, hc2⟩ := GB.out k hlt2
        obtain ⟨cx0, cx1⟩ := hc1 k hlt
        obtain ⟨cy0, cy1⟩ := hc2 k hlt2
        clear hc1 hc2
        by_cases he : xs[k] = ys[k]
        · have STEP := Lib.hid (show ∀ j, (h1 : j < xs.length) → (h2 : j < ys.length) → j < k + 1 → xs[j] = ys[j] from fun j h1 h2 h => by
            by_cases e : j = k
            · subst e; exact he
            · exact hall j h1 h2 (by omega))
          clear hall
          rw [he] at cx0 cx1
          clear he
          generalize ys[k] = y at cx0 cx1 cy0 cy1
          obtain ⟨y0, y1⟩ := y
          go_wp2
          go_quiet (fail)
          go_wp2
          go_roundw
          case rel => exact ⟨k + 1, n + nq, by omega, by go_num, rfl, STEP.out⟩
          case measure => simp [intOf]; omega
        · have HF := Lib.hid (show decide (xs = ys) = false from by rw [decide_eq_false_iff_not]; intro e; subst e; exact he rfl)
          clear hall
          generalize xs[k] = x at cx0 cx1 he
          generalize ys[k] = y at cy0 cy1 he
          obtain ⟨x0, x1⟩ := x
          obtain ⟨y0, y1⟩ := y
          by_cases h0 : x0 = y0
          · subst h0
            have h1 : x1 ≠ y1 := fun e => he (by rw [e])
            have h1' : (x1 == y1) = false := by simpa using h1
            have h1'' : (x1 != y1) = true := by simpa using h1
            clear he h1
            go_wp2
            go_quiet (fail)
            go_wp2
            go_ret
            exact ⟨by rw [HF.out]; rfl, by first | exact below_drewN' w _ | (rw [World.drewN_drewN]; exact below_drewN' w _)⟩
          · have h1' : (x0 == y0) = false := by simpa using h0
            have h1'' : (x0 != y0) = true := by simpa using h0
            clear he h0
            go_wp2
            go_quiet (fail)
            go_wp2
            go_ret
            exact ⟨by rw [HF.out]; rfl, by first | exact below_drewN' w _ | (rw [World.drewN_drewN]; exact below_drewN' w _)⟩
      · have hge : ¬ (k : Int) < (xs.length : Int) := by omega
        have HF := Lib.hid (decide_eq_true (eqP_pre HL.out hlt hall))
        clear hall
        go_wp2
        go_ret
        exact ⟨by rw [HF.out]; rfl, by first | exact below_drewN' w _ | (rw [World.drewN_drewN]; exact below_drewN' w _)⟩
  · have HF : Hid (decide (xs = ys) = false) := Lib.hid (by rw [decide_eq_false_iff_not]; intro e; exact hne (by rw [e]))
    have hne' : ((xs.length : Int) != (ys.length : Int)) = true := by simp; omega
    clear hne
    go_enter Tryd.func34, Tryd.ntmps34
    go_wp2
    go_ret
    exact ⟨by rw [HF.out]; rfl, Below.refl _ _⟩

theorem implEqualP_any (xs ys : List Pr) (va vb : Value) (w : World) (ha : RdP w va xs) (hb : RdP w vb ys) :
    Calls Tryd.prog 13 #[va, vb] w fun e w' => e = .returned (.bool (decide (xs = ys))) ∧ Below w.heap.size w w' := by
  have HA := Lib.hid ha
  have HB := Lib.hid hb
  clear ha hb
  go_enter Tryd.func13, Tryd.ntmps13
  go_wp2_with fail
  refine (equalP_any xs ys _ _ _ HA.out HB.out).mono ?_
  rintro e w1 ⟨rfl, hb1⟩
  have H1 := Lib.hid hb1
  clear hb1
  go_wp2
  go_ret
  exact ⟨rfl, H1.out⟩
end Go.Proofs.YthcbndbfgpeokaaDoor
