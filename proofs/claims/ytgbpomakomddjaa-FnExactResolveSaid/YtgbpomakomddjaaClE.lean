/- DERIVED. CONTRACTS of chapter 14: ClauseEqual of both programs. -/
import Derived.Test.YtgbpomakomddjaaClM
import Derived.Test.YtgbpomakomddjaaTFl
import Derived.Test.YtgbpomakomddjaaHof
namespace Go.Proofs.Ytgbpomakomddjaa
open Go.RowKit Go.Shelf
set_option linter.unusedVariables false

theorem lt_ne {x0 x1 x2 y0 y1 y2 : Int} (h : ¬ (⟨x0, x1, x2⟩ : Lt) = ⟨y0, y1, y2⟩) : ¬ x0 = y0 ∨ (x0 = y0 ∧ ¬ x1 = y1) ∨ (x0 = y0 ∧ x1 = y1 ∧ ¬ x2 = y2) := by
  by_cases h0 : x0 = y0
  · by_cases h1 : x1 = y1
    · exact .inr (.inr ⟨h0, h1, fun h2 => h (by rw [h0, h1, h2])⟩)
    · exact .inr (.inl ⟨h0, h1⟩)
  · exact .inl h0
set_option maxRecDepth 100000 in
set_option maxHeartbeats 8000000 in
theorem specClauseEqual_any (xs ys : List Lt) (va vb : Value) (w : World) (ha : (trLts xs).rd w va) (hb : (trLts ys).rd w vb) :
    Calls Try.prog 9 #[va, vb] w fun e w' => e = .returned (.bool (eqCl xs ys)) ∧ Below w.heap.size w w' := by
  obtain ⟨hla, A, ca, rfl, ga⟩ := rdLiteralS_t ha
  obtain ⟨hlb, B, cb, rfl, gb⟩ := rdLiteralS_t hb
  have GA := Lib.hid ga
  have GB := Lib.hid gb
  clear ga gb ha hb
  have EN := Lib.hid (fun h => @eqCl_len xs ys h)
  have EA := Lib.hid (fun k h1 h2 h => @eqCl_at xs ys k h1 h2 h)
  have EY := Lib.hid (fun h he => @eqCl_yes xs ys h he)
  generalize eqCl xs ys = res at EN EA EY ⊢
  by_cases hne : xs.length = ys.length
  · have hne' : ((xs.length : Int) != (ys.length : Int)) = false := by simp; omega
    have HL := Lib.hid hne
    clear hne
    go_enter Try.func9, Try.ntmps9
    go_wp2
    go_loopw [14] (fun i wr => ∃ k : Nat, k ≤ xs.length ∧ i = .int .i64 k ∧ Sn w wr [] ∧ ∀ j, (h1 : j < xs.length) → (h2 : j < ys.length) → j < k → xs[j] = ys[j]) (fun i _ => xs.length - (intOf i).toNat)
    case atStart => exact ⟨0, Nat.zero_le _, rfl, Sn.start w, fun j _ _ h => absurd h (by omega)⟩
    case round =>
      obtain ⟨k, hk, rfl, hS, hall⟩ := hrel
      have S1 := Lib.hid hS
      clear hS
      by_cases hlt : k < xs.length
      · have hlt' : (k : Int) < (xs.length : Int) := by omega
        have hlt2 : k < ys.length := by have := HL.out; omega
        have hlt2' : (k : Int) < (ys.length : Int) := by omega
        obtain ⟨b1, o1, rfl, hb1, hc1⟩ := GA.out k hlt
        obtain ⟨b2, o2, rfl, hb2, hc2⟩ := GB.out k hlt2
        obtain ⟨hx0, hx1, hx2⟩ := hc1 k hlt
        obtain ⟨hy0, hy1, hy2⟩ := hc2 k hlt2
        have YC := Lib.hid (hc2 k hlt2)
        have hx0 := (S1.out.1.cell (p := ⟨b1, o1 + k * 3, none⟩) hb1).trans hx0
        have hy0 := (S1.out.1.cell (p := ⟨b2, o2 + k * 3, none⟩) hb2).trans hy0
        have hx1 := (S1.out.1.cell (p := ⟨b1, o1 + k * 3 + 1, none⟩) hb1).trans hx1
        have hy1 := (S1.out.1.cell (p := ⟨b2, o2 + k * 3 + 1, none⟩) hb2).trans hy1
        have hx2 := (S1.out.1.cell (p := ⟨b1, o1 + k * 3 + 2, none⟩) hb1).trans hx2
        have hy2 := (S1.out.1.cell (p := ⟨b2, o2 + k * 3 + 2, none⟩) hb2).trans hy2
        clear hc1 hc2
        by_cases he : xs[k] = ys[k]
        · have STEP := Lib.hid (show ∀ j, (h1 : j < xs.length) → (h2 : j < ys.length) → j < k + 1 → xs[j] = ys[j] from fun j h1 h2 h => by
            by_cases e : j = k
            · subst e; exact he
            · exact hall j h1 h2 (by omega))
          clear hall
          rw [he] at hx0 hx1 hx2
          clear he
          generalize ys[k] = y at hx0 hx1 hx2 hy0 hy1 hy2 YC
          obtain ⟨y0, y1, y2⟩ := y
          have S2 := Lib.hid (S1.out.box 45 [.int .i64 y0, .int .i64 y1, .int .i64 y2])
          go_wp2_with fail
          obtain ⟨p0, p1, p2, pf⟩ := (S2.out.bk 0 rfl).c3
          have hz0 := (S2.out.1.cell (p := ⟨b2, o2 + k * 3, none⟩) hb2).trans YC.out.1
          have hz1 := (S2.out.1.cell (p := ⟨b2, o2 + k * 3 + 1, none⟩) hb2).trans YC.out.2.1
          have hz2 := (S2.out.1.cell (p := ⟨b2, o2 + k * 3 + 2, none⟩) hb2).trans YC.out.2.2
          generalize hgx : wr.heap.size = gx at S2 p0 p1 p2 pf ⊢
          generalize World.alloc wr _ = wx at S2 p0 p1 p2 pf hz0 hz1 hz2 ⊢
          clear hgx hx0 hx1 hx2 hy0 hy1 hy2
          have S3 := Lib.hid (S2.out.drop 0)
          go_quiet (fail)
          go_wp2
          go_roundw
          case rel => exact ⟨k + 1, by omega, by go_num, S3.out.go (below_drewN' wx _), STEP.out⟩
          case measure => simp [intOf]; omega
        · have HF := Lib.hid (EA.out k hlt hlt2 he)
          clear hall
          generalize xs[k] = x at hx0 hx1 hx2 he
          generalize ys[k] = y at hy0 hy1 hy2 he YC
          obtain ⟨x0, x1, x2⟩ := x
          obtain ⟨y0, y1, y2⟩ := y
          rcases lt_ne he with h0 | ⟨rfl, h0⟩ | ⟨rfl, rfl, h0⟩
          · have h1 : (x0 == y0) = false := by simpa using h0
            have h2 : (x0 != y0) = true := by simpa using h0
            clear he h0
            have S2 := Lib.hid (S1.out.box 45 [.int .i64 x0, .int .i64 x1, .int .i64 x2])
            go_wp2_with fail
            obtain ⟨p0, p1, p2, pf⟩ := (S2.out.bk 0 rfl).c3
            have hz0 := (S2.out.1.cell (p := ⟨b2, o2 + k * 3, none⟩) hb2).trans YC.out.1
            have hz1 := (S2.out.1.cell (p := ⟨b2, o2 + k * 3 + 1, none⟩) hb2).trans YC.out.2.1
            have hz2 := (S2.out.1.cell (p := ⟨b2, o2 + k * 3 + 2, none⟩) hb2).trans YC.out.2.2
            generalize hgx : wr.heap.size = gx at S2 p0 p1 p2 pf ⊢
            generalize World.alloc wr _ = wx at S2 p0 p1 p2 pf hz0 hz1 hz2 ⊢
            clear hgx hx0 hx1 hx2 hy0 hy1 hy2
            have S3 := Lib.hid (S2.out.drop 0)
            go_quiet (fail)
            go_wp2
            go_ret
            exact ⟨ret_boo HF.out.symm, (S3.out.go (below_drewN' wx _)).1⟩
          · have h1 : (x1 == y1) = false := by simpa using h0
            have h2 : (x1 != y1) = true := by simpa using h0
            clear he h0
            have S2 := Lib.hid (S1.out.box 45 [.int .i64 x0, .int .i64 x1, .int .i64 x2])
            go_wp2_with fail
            obtain ⟨p0, p1, p2, pf⟩ := (S2.out.bk 0 rfl).c3
            have hz0 := (S2.out.1.cell (p := ⟨b2, o2 + k * 3, none⟩) hb2).trans YC.out.1
            have hz1 := (S2.out.1.cell (p := ⟨b2, o2 + k * 3 + 1, none⟩) hb2).trans YC.out.2.1
            have hz2 := (S2.out.1.cell (p := ⟨b2, o2 + k * 3 + 2, none⟩) hb2).trans YC.out.2.2
            generalize hgx : wr.heap.size = gx at S2 p0 p1 p2 pf ⊢
            generalize World.alloc wr _ = wx at S2 p0 p1 p2 pf hz0 hz1 hz2 ⊢
            clear hgx hx0 hx1 hx2 hy0 hy1 hy2
            have S3 := Lib.hid (S2.out.drop 0)
            go_quiet (fail)
            go_wp2
            go_ret
            exact ⟨ret_boo HF.out.symm, (S3.out.go (below_drewN' wx _)).1⟩
          · have h1 : (x2 == y2) = false := by simpa using h0
            have h2 : (x2 != y2) = true := by simpa using h0
            clear he h0
            have S2 := Lib.hid (S1.out.box 45 [.int .i64 x0, .int .i64 x1, .int .i64 x2])
            go_wp2_with fail
            obtain ⟨p0, p1, p2, pf⟩ := (S2.out.bk 0 rfl).c3
            have hz0 := (S2.out.1.cell (p := ⟨b2, o2 + k * 3, none⟩) hb2).trans YC.out.1
            have hz1 := (S2.out.1.cell (p := ⟨b2, o2 + k * 3 + 1, none⟩) hb2).trans YC.out.2.1
            have hz2 := (S2.out.1.cell (p := ⟨b2, o2 + k * 3 + 2, none⟩) hb2).trans YC.out.2.2
            generalize hgx : wr.heap.size = gx at S2 p0 p1 p2 pf ⊢
            generalize World.alloc wr _ = wx at S2 p0 p1 p2 pf hz0 hz1 hz2 ⊢
            clear hgx hx0 hx1 hx2 hy0 hy1 hy2
            have S3 := Lib.hid (S2.out.drop 0)
            go_quiet (fail)
            go_wp2
            go_ret
            exact ⟨ret_boo HF.out.symm, (S3.out.go (below_drewN' wx _)).1⟩
      · have hge : ¬ (k : Int) < (xs.length : Int) := by omega
        have HF := Lib.hid (EY.out HL.out fun j hj => hall j hj (by have := HL.out; omega) (by omega))
        clear hall
        go_wp2
        go_ret
        exact ⟨ret_boo HF.out.symm, S1.out.1⟩
  · have HF := Lib.hid (EN.out hne)
    have hne' : ((xs.length : Int) != (ys.length : Int)) = true := by simp; omega
    clear hne
    go_enter Try.func9, Try.ntmps9
    go_wp2
    go_ret
    exact ⟨ret_boo HF.out.symm, Below.refl _ _⟩
set_option maxRecDepth 100000 in
set_option maxHeartbeats 8000000 in
theorem equalT_any (xs ys : List Lt) (va vb : Value) (w : World) (ha : (trLts xs).rd w va) (hb : (trLts ys).rd w vb) :
    Calls Try.prog 27 #[va, vb] w fun e w' => e = .returned (.bool (eqCl xs ys)) ∧ Below w.heap.size w w' := by
  obtain ⟨hla, A, ca, rfl, ga⟩ := rdLiteralS_t ha
  obtain ⟨hlb, B, cb, rfl, gb⟩ := rdLiteralS_t hb
  have GA := Lib.hid ga
  have GB := Lib.hid gb
  clear ga gb ha hb
  have EN := Lib.hid (fun h => @eqCl_len xs ys h)
  have EA := Lib.hid (fun k h1 h2 h => @eqCl_at xs ys k h1 h2 h)
  have EY := Lib.hid (fun h he => @eqCl_yes xs ys h he)
  generalize eqCl xs ys = res at EN EA EY ⊢
  by_cases hne : xs.length = ys.length
  · have hne' : ((xs.length : Int) != (ys.length : Int)) = false := by simp; omega
    have HL := Lib.hid hne
    clear hne
    go_enter Try.func27, Try.ntmps27
    go_wp2
    go_loopw [13] (fun i wr => ∃ k n : Nat, k ≤ xs.length ∧ i = .int .i64 k ∧ wr = w.drewN n ∧ ∀ j, (h1 : j < xs.length) → (h2 : j < ys.length) → j < k → xs[j] = ys[j]) (fun i _ => xs.length - (intOf i).toNat)
    case atStart => exact ⟨0, 0, Nat.zero_le _, rfl, rfl, fun j _ _ h => absurd h (by omega)⟩
    case round =>
      obtain ⟨k, n, hk, rfl, rfl, hall⟩ := hrel
      by_cases hlt : k < xs.length
      · have hlt' : (k : Int) < (xs.length : Int) := by omega
        have hlt2 : k < ys.length := by have := HL.out; omega
        have hlt2' : (k : Int) < (ys.length : Int) := by omega
        obtain ⟨b1, o1, rfl, hb1, hc1⟩ := GA.out k hlt
        obtain ⟨b2, o2, rfl, hb2, hc2⟩ := GB.out k hlt2
        obtain ⟨hx0, hx1, hx2⟩ := hc1 k hlt
        obtain ⟨hy0, hy1, hy2⟩ := hc2 k hlt2
        clear hc1 hc2
        by_cases he : xs[k] = ys[k]
        · have STEP := Lib.hid (show ∀ j, (h1 : j < xs.length) → (h2 : j < ys.length) → j < k + 1 → xs[j] = ys[j] from fun j h1 h2 h => by
            by_cases e : j = k
            · subst e; exact he
            · exact hall j h1 h2 (by omega))
          clear hall
          rw [he] at hx0 hx1 hx2
          clear he
          generalize ys[k] = y at hx0 hx1 hx2 hy0 hy1 hy2
          obtain ⟨y0, y1, y2⟩ := y
          go_wp2
          go_quiet (fail)
          go_wp2
          go_roundw
          case rel => exact ⟨k + 1, n + nq, by omega, by go_num, rfl, STEP.out⟩
          case measure => simp [intOf]; omega
        · have HF := Lib.hid (EA.out k hlt hlt2 he)
          clear hall
          generalize xs[k] = x at hx0 hx1 hx2 he
          generalize ys[k] = y at hy0 hy1 hy2 he
          obtain ⟨x0, x1, x2⟩ := x
          obtain ⟨y0, y1, y2⟩ := y
          rcases lt_ne he with h0 | ⟨rfl, h0⟩ | ⟨rfl, rfl, h0⟩
          · have h1 : (x0 == y0) = false := by simpa using h0
            have h2 : (x0 != y0) = true := by simpa using h0
            clear he h0
            go_wp2
            go_quiet (fail)
            go_wp2
            go_ret
            exact ⟨ret_boo HF.out.symm, by first | exact below_drewN' w _ | (rw [World.drewN_drewN]; exact below_drewN' w _)⟩
          · have h1 : (x1 == y1) = false := by simpa using h0
            have h2 : (x1 != y1) = true := by simpa using h0
            clear he h0
            go_wp2
            go_quiet (fail)
            go_wp2
            go_ret
            exact ⟨ret_boo HF.out.symm, by first | exact below_drewN' w _ | (rw [World.drewN_drewN]; exact below_drewN' w _)⟩
          · have h1 : (x2 == y2) = false := by simpa using h0
            have h2 : (x2 != y2) = true := by simpa using h0
            clear he h0
            go_wp2
            go_quiet (fail)
            go_wp2
            go_ret
            exact ⟨ret_boo HF.out.symm, by first | exact below_drewN' w _ | (rw [World.drewN_drewN]; exact below_drewN' w _)⟩
      · have hge : ¬ (k : Int) < (xs.length : Int) := by omega
        have HF := Lib.hid (EY.out HL.out fun j hj => hall j hj (by have := HL.out; omega) (by omega))
        clear hall
        go_wp2
        go_ret
        exact ⟨ret_boo HF.out.symm, by first | exact below_drewN' w _ | (rw [World.drewN_drewN]; exact below_drewN' w _)⟩
  · have HF := Lib.hid (EN.out hne)
    have hne' : ((xs.length : Int) != (ys.length : Int)) = true := by simp; omega
    clear hne
    go_enter Try.func27, Try.ntmps27
    go_wp2
    go_ret
    exact ⟨ret_boo HF.out.symm, Below.refl _ _⟩
set_option maxRecDepth 100000 in
set_option maxHeartbeats 8000000 in
theorem implClauseEqual_any (xs ys : List Lt) (va vb : Value) (w : World) (ha : (trLts xs).rd w va) (hb : (trLts ys).rd w vb) :
    Calls Try.prog 11 #[va, vb] w fun e w' => e = .returned (.bool (eqCl xs ys)) ∧ Below w.heap.size w w' := by
  have HA := Lib.hid ha
  have HB := Lib.hid hb
  clear ha hb
  go_enter Try.func11, Try.ntmps11
  go_wp2_with fail
  refine (equalT_any xs ys _ _ _ HA.out HB.out).mono ?_
  rintro e w1 ⟨rfl, hb1⟩
  have H1 := Lib.hid hb1
  clear hb1
  go_wp2
  go_ret
  exact ⟨rfl, H1.out⟩
end Go.Proofs.Ytgbpomakomddjaa
