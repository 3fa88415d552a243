/- DERIVED. CONTRACTS of chapter 14: ClauseEqual of both programs. -/
import Derived.Test.YtgbpomakomddjabGreatDoorClM
import Derived.Test.YtgbpomakomddjabGreatDoorTFl
import Derived.Test.YtgbpomakomddjabGreatDoorHof
namespace Go.Proofs.YtgbpomakomddjabGreatDoor
open Go.RowKit Go.Shelf
set_option linter.unusedVariables false

theorem lt_ne {x0 x1 x2 y0 y1 y2 : Int} (h : ¬ (⟨x0, x1, x2⟩ : Lt) = ⟨y0, y1, y2⟩) : ¬ x0 = y0 ∨ (x0 = y0 ∧ ¬ x1 = y1) ∨ (x0 = y0 ∧ x1 = y1 ∧ ¬ x2 = y2) := by
  by_cases h0 : x0 = y0
  · by_cases h1 : x1 = y1
    · exact .inr (.inr ⟨h0, h1, fun h2 => h (by rw [h0, h1, h2])⟩)
    · exact .inr (.inl ⟨h0, h1⟩)
  · exact .inl h0
set_option maxRecDepth 100000 in
set_option maxHeartbeats 8000000 in
theorem equalT_any (xs ys : List Lt) (va vb : Value) (w : World) (ha : (trLts xs).rd w va) (hb : (trLts ys).rd w vb) :
    Calls Tryz.prog 90 #[va, vb] w fun e w' => e = .returned (.bool (eqCl xs ys)) ∧ Below w.heap.size w w' := by
  obtain ⟨hla, A, ca, rfl, ga⟩ := rdLiteralS_t ha
  obtain ⟨hlb, B, cb, rfl, gb⟩ := rdLiteralS_t hb
  have GA := Lib.hid ga
  have GB := Lib.hid gb
  clear ga gb ha hb
  have EN := Lib.hid (fun h => @eqCl_len xs ys h)
  have EA := Lib.hid (fun k h1 h2 h => @eqCl_at xs ys k h1 h2 h)
  have EY := Lib.hid (fun h he => @eqCl_yes xs ys h he)
  generalize eqCl xs ys = res at EN EA EY ⊢
  by_cases hne : xs.length = ys.length
  · have hne' : ((xs.length : Int) != (ys.length : Int)) = false := by simp; omega
    have HL := Lib.hid hne
    clear hne
    go_enter Tryz.func90, Tryz.ntmps90
    go_wp2
    go_loopw [13] (fun i wr => ∃ k n : Nat, k ≤ xs.length ∧ i = .int .i64 k ∧ wr = w.drewN n ∧ ∀ j, (h1 : j < xs.length) → (h2 : j < ys.length) → j < k → xs[j] = ys[j]) (fun i _ => xs.length - (intOf i).toNat)
    case atStart => exact ⟨0, 0, Nat.zero_le _, rfl, rfl, fun j _ _ h => absurd h (by omega)⟩
    case round =>
      obtain ⟨k, n, hk, rfl, rfl, hall⟩ := hrel
      by_cases hlt : k < xs.length
      · have hlt' : (k : Int) < (xs.length : Int) := by omega
        have hlt2 : k < ys.length := by have := HL.out; omega
        have hlt2' : (k : Int) < (ys.length : Int) := by omega
        obtain ⟨b1, o1, rfl, hb1, hc1⟩ := GA.out k hlt
        obtain ⟨b2, o2, rfl, hb2, hc2⟩ := GB.out k hlt2
        obtain ⟨hx0, hx1, hx2⟩ := hc1 k hlt
        obtain ⟨hy0, hy1, hy2⟩ := hc2 k hlt2
        clear hc1 hc2
        by_cases he : xs[k] = ys[k]
        · have STEP := Lib.hid (show ∀ j, (h1 : j < xs.length) → (h2 : j < ys.length) → j < k + 1 → xs[j] = ys[j] from fun j h1 h2 h => by
            by_cases e : j = k
            · subst e; exact he
            · exact hall j h1 h2 (by omega))
          clear hall
          rw [he] at hx0 hx1 hx2
          clear he
          generalize ys[k] = y at hx0 hx1 hx2 hy0 hy1 hy2
          obtain ⟨y0, y1, y2⟩ := y
          go_wp2
          go_quiet (fail)
          go_wp2
          go_roundw
          case rel => exact ⟨k + 1, n + nq, by omega, by go_num, rfl, STEP.out⟩
          case measure => simp [intOf]; omega
        · have HF := Lib.hid (EA.out k hlt hlt2 he)
          clear hall
          generalize xs[k] = x at hx0 hx1 hx2 he
          generalize ys[k] = y at hy0 hy1 hy2 he
          obtain ⟨x0, x1, x2⟩ := x
          obtain ⟨y0, y1, y2⟩ := y
          rcases lt_ne he with h0 | ⟨rfl, h0⟩ | ⟨rfl, rfl, h0⟩
          · have h1 : (x0 == y0) = false := by simpa using h0
            have h2 : (x0 != y0) = true := by simpa using h0
            clear he h0
            go_wp2
            go_quiet (fail)
            go_wp2
            go_ret
            exact ⟨ret_boo HF.out.symm, by first | exact below_drewN' w _ | (rw [World.drewN_drewN]; exact below_drewN' w _)⟩
          · have h1 : (x1 == y1) = false := by simpa using h0
            have h2 : (x1 != y1) = true := by simpa using h0
            clear he h0
            go_wp2
            go_quiet (fail)
            go_wp2
            go_ret
            exact ⟨ret_boo HF.out.symm, by first | exact below_drewN' w _ | (rw [World.drewN_drewN]; exact below_drewN' w _)⟩
          · have h1 : (x2 == y2) = false := by simpa using h0
            have h2 : (x2 != y2) = true := by simpa using h0
            clear he h0
            go_wp2
            go_quiet (fail)
            go_wp2
            go_ret
            exact ⟨ret_boo HF.out.symm, by first | exact below_drewN' w _ | (rw [World.drewN_drewN]; exact below_drewN' w _)⟩
      · have hge : ¬ (k : Int) < (xs.length : Int) := by omega
        have HF := Lib.hid (EY.out HL.out fun j hj => hall j hj (by have := HL.out; omega) (by omega))
        clear hall
        go_wp2
        go_ret
        exact ⟨ret_boo HF.out.symm, by first | exact below_drewN' w _ | (rw [World.drewN_drewN]; exact below_drewN' w _)⟩
  · have HF := Lib.hid (EN.out hne)
    have hne' : ((xs.length : Int) != (ys.length : Int)) = true := by simp; omega
    clear hne
    go_enter Tryz.func90, Tryz.ntmps90
    go_wp2
    go_ret
    exact ⟨ret_boo HF.out.symm, Below.refl _ _⟩
set_option maxRecDepth 100000 in
set_option maxHeartbeats 8000000 in
theorem implClauseEqual_any (xs ys : List Lt) (va vb : Value) (w : World) (ha : (trLts xs).rd w va) (hb : (trLts ys).rd w vb) :
    Calls Tryz.prog 58 #[va, vb] w fun e w' => e = .returned (.bool (eqCl xs ys)) ∧ Below w.heap.size w w' := by
  have HA := Lib.hid ha
  have HB := Lib.hid hb
  clear ha hb
  go_enter Tryz.func58, Tryz.ntmps58
  go_wp2_with fail
  refine (equalT_any xs ys _ _ _ HA.out HB.out).mono ?_
  rintro e w1 ⟨rfl, hb1⟩
  have H1 := Lib.hid hb1
  clear hb1
  go_wp2
  go_ret
  exact ⟨rfl, H1.out⟩
end Go.Proofs.YtgbpomakomddjabGreatDoor
