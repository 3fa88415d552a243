/- DERIVED. CONTRACTS: ActivityEqual of the model; modesEqual, slices.EqualFunc, areEqual of the program. -/
import Derived.Test.YtnbkiobbacaaiaaGreatDoorModU
import Derived.Test.YtnbkiobbacaaiaaGreatDoorSets
import Derived.Test.YtnbkiobbacaaiaaGreatDoorCore
import Derived.Test.YtnbkiobbacaaiaaGreatDoorActA
namespace Go.Proofs.YtnbkiobbacaaiaaGreatDoor
open Go.RowKit

set_option maxRecDepth 100000 in
set_option maxHeartbeats 1000000 in
theorem slicesEqual_any (xs ys : List Int) (v u : Value) (w : World) (hr : Rd w v (xs.map (.int .i64))) (hu : Rd w u (ys.map (.int .i64))) :
    Calls Tryz.prog 73 #[v, u] w fun e w' => e = .returned (.bool (eqB xs ys)) ∧ Below w.heap.size w w' := by
  obtain ⟨hl, A, c, rfl, HR⟩ := rdI hr
  obtain ⟨hl2, B, c2, rfl, HR2⟩ := rdI hu
  unfold maxLen at hl hl2
  have HA := Lib.hid HR
  have HB := Lib.hid HR2
  clear hr HR hu HR2
  by_cases hne : xs.length = ys.length
  · go_enter Tryz.func73, Tryz.ntmps73
    go_wp2
    go_loopw [5, 13] (fun _ i wr => ∃ k : Nat, k ≤ xs.length ∧ i = .int .i64 k ∧ Below w.heap.size w wr ∧ ∀ j, (h : j < xs.length) → j < k → xs[j] = ys[j]'(hne ▸ h)) (fun _ i _ => xs.length - (intOf i).toNat)
    case atStart => exact ⟨0, Nat.zero_le _, rfl, Below.refl _ _, fun j _ h => absurd h (by omega)⟩
    case round =>
      obtain ⟨k, hk, rfl, hbel, hall⟩ := hrel
      by_cases hlt : k < xs.length
      · have hlt' : (k : Int) < (xs.length : Int) := by omega
        have hlt2 : k < ys.length := hne ▸ hlt
        have hlt2' : (k : Int) < (ys.length : Int) := by omega
        obtain ⟨b, o, rfl, hb, hc⟩ := HA.out k hlt
        obtain ⟨b2, o2, rfl, hb2, hc2⟩ := HB.out k hlt2
        have cx := (hbel.cell (p := ⟨b, o + k, none⟩) hb).trans (hc k hlt)
        have cy := (hbel.cell (p := ⟨b2, o2 + k, none⟩) hb2).trans (hc2 k hlt2)
        clear hc hc2
        by_cases he : xs[k] = ys[k]
        · have HN := Lib.hid (show ∀ j, (h : j < xs.length) → j < k + 1 → xs[j] = ys[j]'(hne ▸ h) from fun j hj hjk => by
            by_cases e : j = k
            · subst e; exact he
            · exact hall j hj (by omega))
          clear hall
          generalize xs[k] = x at cx he
          generalize ys[k] = y at cy he
          subst he
          go_wp2
          go_quiet (fail)
          go_wp2
          go_roundw
          case rel => exact ⟨k + 1, by omega, by go_num, below_drewN hbel _, HN.out⟩
          case measure => simp [intOf]; omega
        · have H := Lib.hid (eq_no hlt hlt2 he)
          clear hall
          generalize xs[k] = x at cx he
          generalize ys[k] = y at cy he
          have hb : (x == y) = false := by simpa using he
          go_wp2
          go_quiet (fail)
          go_wp2
          go_ret
          exact ⟨ret_b H.out, below_drewN hbel _⟩
      · have hge : ¬ (k : Int) < (xs.length : Int) := by omega
        have H := Lib.hid (show eqB xs ys = true from decide_eq_true (List.ext_getElem hne fun j h1 _ => hall j h1 (by omega)))
        clear hall
        go_wp2
        go_ret
        exact ⟨ret_b H.out, hbel⟩
  · have H := Lib.hid (show eqB xs ys = false from decide_eq_false (fun e => hne (by rw [e])))
    go_enter Tryz.func73, Tryz.ntmps73
    have hne' : ((xs.length : Int) != (ys.length : Int)) = true := by simp; omega
    clear hne
    go_wp2
    go_ret
    exact ⟨ret_b H.out, Below.refl _ _⟩

theorem eqB_dec (xs ys : List Int) : eqB xs ys = decide (xs = ys) := rfl

set_option maxRecDepth 100000 in
set_option maxHeartbeats 1000000 in
theorem modesEqual_any (m n : Md) (v u : Value) (w : World) (hv : (trM m).rd w v) (hu : (trM n).rd w u) :
    Calls Tryz.prog 57 #[v, u] w fun e w' => e = .returned (.bool (decide (m = n))) ∧ Below w.heap.size w w' := by
  obtain ⟨U, cu, C, cc, rfl, r1, r2⟩ := rdM hv
  obtain ⟨V, cv, D, cd, rfl, s1, s2⟩ := rdM hu
  clear hv hu
  generalize hres : decide (m = n) = res
  rw [dec_md] at hres
  have RES := Lib.hid hres
  clear hres
  have R1 := Lib.hid r1
  have R2 := Lib.hid r2
  have T1 := Lib.hid s1
  have T2 := Lib.hid s2
  clear r1 r2 s1 s2
  have S0 := Lib.hid (((Sn.start w).box 39 [.int .i64 m.du, .slice U m.us.length cu, .slice C m.co.length cc]).box 39 [.int .i64 n.du, .slice V n.us.length cv, .slice D n.co.length cd])
  by_cases h1 : m.du = n.du
  · have H1 := Lib.hid h1
    have h1' : (m.du == n.du) = true := by simp [h1]
    clear h1
    go_enter Tryz.func57, Tryz.ntmps57
    go_wp2_with fail
    refine (slicesEqual_any m.us n.us _ _ _ (R1.out.below S0.out.1 (Nat.le_refl _)) (T1.out.below S0.out.1 (Nat.le_refl _))).mono ?_
    rintro e w1 ⟨rfl, b⟩
    have S1 := Lib.hid (S0.out.go b)
    clear S0 b
    rcases h2 : eqB m.us n.us with _ | _
    · have H2 := Lib.hid (of_decide_eq_false h2)
      clear h2
      go_wp2
      go_ret
      exact ⟨ret_bool (by rw [← RES.out]; simp [H2.out]), S1.out.1⟩
    · have H2 := Lib.hid (of_decide_eq_true h2)
      clear h2
      obtain ⟨c0, c1, c2, cf⟩ := (S1.out.bk 1 rfl).c3
      obtain ⟨d0, d1, d2, df⟩ := (S1.out.bk 0 rfl).c3
      simp only [World.size_alloc] at d0 d1 d2 df
      go_wp2_with fail
      refine (slicesEqual_any m.co n.co _ _ _ (R2.out.below S1.out.1 (Nat.le_refl _)) (T2.out.below S1.out.1 (Nat.le_refl _))).mono ?_
      rintro e w2 ⟨rfl, b⟩
      have S2 := Lib.hid (S1.out.go b)
      clear S1 b
      go_wp2
      go_ret
      exact ⟨ret_bool (by rw [← RES.out]; simp [H1.out, H2.out, eqB]), S2.out.1⟩
  · have H1 := Lib.hid h1
    have h1' : (m.du == n.du) = false := by simp [h1]
    clear h1
    go_enter Tryz.func57, Tryz.ntmps57
    go_wp2
    go_ret
    exact ⟨ret_bool (by rw [← RES.out]; simp [H1.out]), S0.out.1⟩

set_option maxRecDepth 100000 in
set_option maxHeartbeats 2000000 in
theorem equalFunc_any (xs ys : List Md) (va vb : Value) (w : World) (ha : (trMs xs).rd w va) (hb : (trMs ys).rd w vb) :
    Calls Tryz.prog 56 #[va, vb, .func (.func 57) #[] #[]] w fun e w' => e = .returned (.bool (decide (xs = ys))) ∧ Below w.heap.size w w' := by
  obtain ⟨hla, A, ca, rfl, ga⟩ := rdMs ha
  obtain ⟨hlb, B, cb, rfl, gb⟩ := rdMs hb
  clear ha hb
  have GA := Lib.hid ga
  have GB := Lib.hid gb
  clear ga gb
  by_cases hne : xs.length = ys.length
  · have hne' : ((xs.length : Int) != (ys.length : Int)) = false := by simp; omega
    have HL := Lib.hid hne
    clear hne
    go_enter Tryz.func56, Tryz.ntmps56
    go_wp2
    go_loopw [17] (fun i wr => ∃ k : Nat, k ≤ xs.length ∧ i = .int .i64 k ∧ Below w.heap.size w wr ∧ ∀ j, (h1 : j < xs.length) → (h2 : j < ys.length) → j < k → xs[j] = ys[j]) (fun i _ => xs.length - (intOf i).toNat)
    case atStart => exact ⟨0, Nat.zero_le _, rfl, Below.refl _ _, fun j _ _ h => absurd h (by omega)⟩
    case round =>
      obtain ⟨k, hk, rfl, hbel, hall⟩ := hrel
      by_cases hlt : k < xs.length
      · have hlt' : (k : Int) < (xs.length : Int) := by omega
        have hlt2 : k < ys.length := by have := HL.out; omega
        have hlt2' : (k : Int) < (ys.length : Int) := by omega
        obtain ⟨b1, o1, rfl, hb1, hc⟩ := GA.out k hlt
        obtain ⟨U, cu, C, cc, hc0, hc1, hc2, r1, r2⟩ := hc k hlt
        obtain ⟨b2, o2, rfl, hb2, hd⟩ := GB.out k hlt2
        obtain ⟨V, cv, D, cd, hd0, hd1, hd2, s1, s2⟩ := hd k hlt2
        have hz := hbel.size
        have hx0 := (hbel.cell (p := ⟨b1, o1 + k * 3, none⟩) hb1).trans hc0
        have hx1 := (hbel.cell (p := ⟨b1, o1 + k * 3 + 1, none⟩) hb1).trans hc1
        have hx2 := (hbel.cell (p := ⟨b1, o1 + k * 3 + 2, none⟩) hb1).trans hc2
        have hb2w : b2 < wr.heap.size := by omega
        have hy0 := (hbel.cell (p := ⟨b2, o2 + k * 3, none⟩) hb2).trans hd0
        have hy1 := (hbel.cell (p := ⟨b2, o2 + k * 3 + 1, none⟩) hb2).trans hd1
        have hy2 := (hbel.cell (p := ⟨b2, o2 + k * 3 + 2, none⟩) hb2).trans hd2
        clear hc hc0 hc1 hc2 hd hd0 hd1 hd2
        have HM := Lib.hid (mk_rdM (m := xs[k]) (r1.below hbel (Nat.le_refl _)) (r2.below hbel (Nat.le_refl _)))
        have HN := Lib.hid (mk_rdM (m := ys[k]) (s1.below hbel (Nat.le_refl _)) (s2.below hbel (Nat.le_refl _)))
        clear r1 r2 s1 s2
        have HB := Lib.hid hbel
        clear hbel
        by_cases he : xs[k] = ys[k]
        · have STEP := Lib.hid (fun j (h1 : j < xs.length) (h2 : j < ys.length) (h : j < k + 1) => show xs[j] = ys[j] from by
            by_cases e : j = k
            · subst e; exact he
            · exact hall j h1 h2 (by omega))
          have HD := Lib.hid (decide_eq_true he)
          clear hall he
          generalize xs[k] = m at hx0 hx1 hx2 HM HD
          generalize ys[k] = n at hy0 hy1 hy2 HN HD
          go_wp2_with fail
          refine (modesEqual_any m n _ _ _ (Tr.rd_below (((Below.refl _ _).alloc (Nat.le_refl _) _).alloc (by simp) _) (Nat.le_refl _) _ _ HM.out) (Tr.rd_below (((Below.refl _ _).alloc (Nat.le_refl _) _).alloc (by simp) _) (Nat.le_refl _) _ _ HN.out)).mono ?_
          rintro e w1 ⟨rfl, b⟩
          rw [HD.out]
          have HE := Lib.hid (HB.out.trans (((((Below.refl _ _).alloc (Nat.le_refl _) _).alloc (by simp) _).trans (b.mono (by simp; omega))).mono HB.out.size))
          clear b
          go_wp2
          go_roundw
          case rel => exact ⟨k + 1, by omega, by go_num, HE.out, STEP.out⟩
          case measure => simp [intOf]; omega
        · have hfin : decide (xs = ys) = false := by
            rw [decide_eq_false_iff_not]; intro e; subst e; exact he rfl
          have HF := Lib.hid hfin
          have HD := Lib.hid (decide_eq_false he)
          clear hall hfin he
          generalize xs[k] = m at hx0 hx1 hx2 HM HD
          generalize ys[k] = n at hy0 hy1 hy2 HN HD
          go_wp2_with fail
          refine (modesEqual_any m n _ _ _ (Tr.rd_below (((Below.refl _ _).alloc (Nat.le_refl _) _).alloc (by simp) _) (Nat.le_refl _) _ _ HM.out) (Tr.rd_below (((Below.refl _ _).alloc (Nat.le_refl _) _).alloc (by simp) _) (Nat.le_refl _) _ _ HN.out)).mono ?_
          rintro e w1 ⟨rfl, b⟩
          rw [HD.out]
          have HE := Lib.hid (HB.out.trans (((((Below.refl _ _).alloc (Nat.le_refl _) _).alloc (by simp) _).trans (b.mono (by simp; omega))).mono HB.out.size))
          clear b
          go_wp2
          go_ret
          exact ⟨ret_bool HF.out.symm, HE.out⟩
      · have hge : ¬ (k : Int) < (xs.length : Int) := by omega
        have HF := Lib.hid (decide_eq_true (ms_pre HL.out hlt hall))
        clear hall
        have HB := Lib.hid hbel
        clear hbel
        go_wp2
        go_ret
        exact ⟨ret_bool HF.out.symm, HB.out⟩
  · have HF : Hid (decide (xs = ys) = false) := Lib.hid (by rw [decide_eq_false_iff_not]; intro e; exact hne (by rw [e]))
    have hne' : ((xs.length : Int) != (ys.length : Int)) = true := by simp; omega
    clear hne
    go_enter Tryz.func56, Tryz.ntmps56
    go_wp2
    go_ret
    exact ⟨ret_bool HF.out.symm, Below.refl _ _⟩

set_option maxRecDepth 100000 in
theorem areEqual_any (xs ys : List Md) (va vb : Value) (w : World) (ha : (trMs xs).rd w va) (hb : (trMs ys).rd w vb) :
    Calls Tryz.prog 27 #[va, vb] w fun e w' => e = .returned (.bool (decide (xs = ys))) ∧ Below w.heap.size w w' := by
  have HA := Lib.hid ha
  have HB := Lib.hid hb
  clear ha hb
  go_enter Tryz.func27, Tryz.ntmps27
  go_wp2_with fail
  refine (equalFunc_any xs ys _ _ _ HA.out HB.out).mono ?_
  rintro e w1 ⟨rfl, b⟩
  have HE := Lib.hid b
  clear b
  go_wp2
  go_ret
  exact ⟨rfl, HE.out⟩

end Go.Proofs.YtnbkiobbacaaiaaGreatDoor
