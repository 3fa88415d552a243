/- DERIVED. CONTRACTS of chapter 12: LiteralHolds, of the program and of the model. -/
import Derived.Test.YtgbpomakomddjaaScLt
import Derived.Test.YtgbpomakomddjaaTFl
import Derived.Test.YtgbpomakomddjaaElm
import Derived.Test.YtgbpomakomddjaaStpA
import Derived.Test.YtgbpomakomddjaaDats
import Derived.Test.YtgbpomakomddjaaRegZ
namespace Go.Proofs.Ytgbpomakomddjaa
open Go.RowKit Go.Shelf
set_option linter.unusedVariables false

theorem isTrue_1 {ac va st mo : Int} : isTrueB ⟨1, ac, va⟩ st mo = decide (va ≤ st) := rfl
theorem isTrue_2 {ac va st mo : Int} : isTrueB ⟨2, ac, va⟩ st mo = decide (st ≤ va) := rfl
theorem isTrue_3 {ac va st mo : Int} : isTrueB ⟨3, ac, va⟩ st mo = decide (mo = va) := rfl
theorem isTrue_4 {ac va st mo : Int} : isTrueB ⟨4, ac, va⟩ st mo = !decide (mo = va) := rfl
theorem isTrue_o {ki ac va st mo : Int} (h1 : ¬ ki = 1) (h2 : ¬ ki = 2) (h3 : ¬ ki = 3) (h4 : ¬ ki = 4) : isTrueB ⟨ki, ac, va⟩ st mo = false := by
  simp [isTrueB, h1, h2, h3, h4]
set_option maxRecDepth 100000 in
set_option maxHeartbeats 8000000 in
theorem isTrueOf_any (l : Lt) (st mo : Int) (w : World) : Calls Try.prog 55 #[ltV l, .int .i64 st, .int .i64 mo] w fun e w' => e = .returned (.bool (isTrueB l st mo)) ∧ Below w.heap.size w w' := by
  obtain ⟨ki, ac, va⟩ := l
  unfold ltV
  by_cases k1 : ki = 1
  · subst k1
    rw [isTrue_1]
    go_enter Try.func55, Try.ntmps55
    go_wp2
    go_ret
    exact ⟨ret_bL (by first | rfl | simp), by repeat (first | exact Below.refl _ _ | refine Below.setCell ?_ (by simp) _ | refine Below.alloc ?_ (by first | (simp; done) | (simp; omega)) _)⟩
  by_cases k2 : ki = 2
  · subst k2
    rw [isTrue_2]
    clear k1
    go_enter Try.func55, Try.ntmps55
    go_wp2
    go_ret
    exact ⟨ret_bL (by first | rfl | simp), by repeat (first | exact Below.refl _ _ | refine Below.setCell ?_ (by simp) _ | refine Below.alloc ?_ (by first | (simp; done) | (simp; omega)) _)⟩
  by_cases k3 : ki = 3
  · subst k3
    rw [isTrue_3]
    clear k1 k2
    go_enter Try.func55, Try.ntmps55
    go_wp2
    go_ret
    exact ⟨ret_bL (by first | rfl | simp), by repeat (first | exact Below.refl _ _ | refine Below.setCell ?_ (by simp) _ | refine Below.alloc ?_ (by first | (simp; done) | (simp; omega)) _)⟩
  by_cases k4 : ki = 4
  · subst k4
    rw [isTrue_4]
    clear k1 k2 k3
    go_enter Try.func55, Try.ntmps55
    go_wp2
    go_ret
    exact ⟨ret_bL (by first | rfl | simp), by repeat (first | exact Below.refl _ _ | refine Below.setCell ?_ (by simp) _ | refine Below.alloc ?_ (by first | (simp; done) | (simp; omega)) _)⟩
  rw [isTrue_o k1 k2 k3 k4]
  go_enter Try.func55, Try.ntmps55
  go_wp2
  go_ret
  exact ⟨rfl, by repeat (first | exact Below.refl _ _ | refine Below.setCell ?_ (by simp) _ | refine Below.alloc ?_ (by first | (simp; done) | (simp; omega)) _)⟩

set_option maxRecDepth 100000 in
set_option maxHeartbeats 8000000 in
theorem implHolds_any (l : Lt) (s : Sc) (u : Value) (w : World) (hs : (trSc s).rd w u) :
    Calls Try.prog 41 #[ltV l, u] w fun e w' => e = .returned (.bool (holdB l s)) ∧ Below w.heap.size w w' := by
  obtain ⟨ki, ac, va⟩ := l
  obtain ⟨E1, f1, E2, f2, rfl, q1, q2⟩ := rdSchedule_t hs
  have Q1 := Lib.hid (rd_flat q1)
  have Q2 := Lib.hid (rd_flat q2)
  have HN := Lib.hid (fun h => @hold_st ⟨ki, ac, va⟩ s h)
  have HM := Lib.hid (fun h => @hold_mo ⟨ki, ac, va⟩ s h)
  have HY := Lib.hid (fun n h1 h2 e => @hold_yes ⟨ki, ac, va⟩ s n h1 h2 e)
  generalize holdB ⟨ki, ac, va⟩ s = res at HN HM HY ⊢
  have S0 := Lib.hid (((Sn.start w).box 45 [.int .i64 ki, .int .i64 ac, .int .i64 va]).box 38 [.slice E1 s.st.length f1, .slice E2 s.mo.length f2])
  simp only [World.size_alloc] at S0
  clear hs q1 q2
  unfold ltV
  by_cases h1 : 0 ≤ ac ∧ ac < (s.st.length : Int)
  · obtain ⟨n, rfl⟩ : ∃ n : Nat, ac = (n : Int) := ⟨ac.toNat, by omega⟩
    have hn1 : n < s.st.length := by omega
    clear h1
    by_cases h2 : (n : Int) < (s.mo.length : Int)
    · have hn2 : n < s.mo.length := by omega
      have RES := Lib.hid (HY.out n hn1 hn2 rfl)
      have T1 := Lib.hid (amt_yes hn1)
      have T2 := Lib.hid (amt_yes hn2)
      generalize s.st[n] = st at RES T1
      generalize s.mo[n] = mo at RES T2
      clear hn1 hn2 h2 HN HM HY
      go_enter Try.func41, Try.ntmps41
      go_wp2_with fail
      refine (elemI_any s.st (n : Int) _ _ (Q1.out.below S0.out.1 (Nat.le_refl _))).mono ?_
      rintro e w1 ⟨rfl, rfl⟩
      rw [T1.out]
      unfold optI
      go_wp2_with fail
      refine (elemI_any s.mo (n : Int) _ _ (Q2.out.below S0.out.1 (Nat.le_refl _))).mono ?_
      rintro e w2 ⟨rfl, rfl⟩
      rw [T2.out]
      unfold optI
      go_wp2_with fail
      refine (isTrueOf_any ⟨ki, (n : Int), va⟩ st mo _).mono ?_
      rintro e w3 ⟨rfl, b⟩
      have S1 := Lib.hid (S0.out.go b)
      clear S0 b
      go_wp2
      go_ret
      exact ⟨ret_bL RES.out.symm, S1.out.1⟩
    · have RES := Lib.hid (HM.out (by show ¬ (0 ≤ (n : Int) ∧ (n : Int) < _); omega))
      have T1 := Lib.hid (amt_yes hn1)
      have T2 := Lib.hid (amt_no (l := s.mo) (t := (n : Int)) (by omega))
      generalize s.st[n] = st at T1
      clear hn1 h2 HN HM HY
      go_enter Try.func41, Try.ntmps41
      go_wp2_with fail
      refine (elemI_any s.st (n : Int) _ _ (Q1.out.below S0.out.1 (Nat.le_refl _))).mono ?_
      rintro e w1 ⟨rfl, rfl⟩
      rw [T1.out]
      unfold optI
      go_wp2_with fail
      refine (elemI_any s.mo (n : Int) _ _ (Q2.out.below S0.out.1 (Nat.le_refl _))).mono ?_
      rintro e w2 ⟨rfl, rfl⟩
      rw [T2.out]
      unfold optI
      go_wp2
      go_ret
      exact ⟨ret_bL RES.out.symm, S0.out.1⟩
  · have RES := Lib.hid (HN.out h1)
    have T1 := Lib.hid (amt_no (l := s.st) (t := ac) (by omega))
    clear h1 HN HM HY
    go_enter Try.func41, Try.ntmps41
    go_wp2_with fail
    refine (elemI_any s.st ac _ _ (Q1.out.below S0.out.1 (Nat.le_refl _))).mono ?_
    rintro e w1 ⟨rfl, rfl⟩
    rw [T1.out]
    unfold optI
    go_wp2_with fail
    refine (elemI_any s.mo ac _ _ (Q2.out.below S0.out.1 (Nat.le_refl _))).mono ?_
    rintro e w2 ⟨rfl, rfl⟩
    generalize amtB s.mo ac = x
    rcases x with _ | x
    all_goals
      unfold optI
      go_wp2
      go_ret
      exact ⟨ret_bL RES.out.symm, S0.out.1⟩

set_option maxRecDepth 100000 in
set_option maxHeartbeats 8000000 in
theorem specHolds_any (l : Lt) (s : Sc) (u : Value) (w : World) (hs : (trSc s).rd w u) :
    Calls Try.prog 37 #[ltV l, u] w fun e w' => e = .returned (.bool (holdB l s)) ∧ Below w.heap.size w w' := by
  obtain ⟨ki, ac, va⟩ := l
  have HQ := Lib.hid hs
  obtain ⟨E1, f1, E2, f2, rfl, q1, q2⟩ := rdSchedule_t hs
  obtain ⟨ht1, B8, d8, he, x1⟩ := rdI (rd_flat q1)
  injection he with he _ he2
  subst he he2
  have X1 := Lib.hid x1
  obtain ⟨ht2, B9, d9, he, x2⟩ := rdI (rd_flat q2)
  injection he with he _ he2
  subst he he2
  have X2 := Lib.hid x2
  clear hs q1 q2 x1 x2
  have HN := Lib.hid (fun h => @hold_st ⟨ki, ac, va⟩ s h)
  have HM := Lib.hid (fun h => @hold_mo ⟨ki, ac, va⟩ s h)
  have HY := Lib.hid (fun n h1 h2 e => @hold_yes ⟨ki, ac, va⟩ s n h1 h2 e)
  generalize holdB ⟨ki, ac, va⟩ s = res at HN HM HY ⊢
  have S0 := Lib.hid (((Sn.start w).box 45 [.int .i64 ki, .int .i64 ac, .int .i64 va]).box 38 [.slice E1 s.st.length f1, .slice E2 s.mo.length f2])
  simp only [World.size_alloc] at S0
  unfold ltV
  have hls := ht1
  have hlm := ht2
  unfold maxLen at hls hlm
  have hw1 : IntKind.i64.wrap ((s.st.length : Int) - 1) = (s.st.length : Int) - 1 := by rw [IntKind.wrap_i64]; omega
  have hw2 : IntKind.i64.wrap ((s.mo.length : Int) - 1) = (s.mo.length : Int) - 1 := by rw [IntKind.wrap_i64]; omega
  clear ht1 ht2
  go_enter Try.func37, Try.ntmps37
  go_wp2_with fail
  obtain ⟨p0, p1, p2, pf⟩ := (S0.out.bk 1 rfl).c3
  obtain ⟨q0, q1, qf⟩ := (S0.out.bk 0 rfl).c2
  have hll := (S0.out.bk 1 rfl).lt
  have hlq := (S0.out.bk 0 rfl).lt
  refine (l01In_any ac 0 ((s.st.length : Int) - 1) _).mono ?_
  rintro e w1 ⟨rfl, rfl⟩
  by_cases h1 : 0 ≤ ac ∧ ac ≤ (s.st.length : Int) - 1
  · have T1 := Lib.hid (inB_yes h1)
    unfold inB at T1
    rw [T1.out]
    generalize World.alloc (World.alloc w _) _ = wv at S0 p0 p1 p2 pf q0 q1 qf hll hlq ⊢
    go_wp2_with fail
    refine (l01In_any ac 0 ((s.mo.length : Int) - 1) _).mono ?_
    rintro e w2 ⟨rfl, rfl⟩
    by_cases h2 : 0 ≤ ac ∧ ac ≤ (s.mo.length : Int) - 1
    · have T2 := Lib.hid (inB_yes h2)
      unfold inB at T2
      rw [T2.out]
      obtain ⟨n, rfl⟩ : ∃ n : Nat, ac = (n : Int) := ⟨ac.toNat, by omega⟩
      have hn1 : n < s.st.length := by omega
      have hn2 : n < s.mo.length := by omega
      have RES := Lib.hid (HY.out n hn1 hn2 rfl)
      obtain ⟨b1, o1, rfl, hb1, hc1⟩ := X1.out n hn1
      have y1 := (S0.out.1.cell (p := ⟨b1, o1 + n, none⟩) hb1).trans (hc1 n hn1)
      obtain ⟨b2, o2, rfl, hb2, hc2⟩ := X2.out n hn2
      have y2 := (S0.out.1.cell (p := ⟨b2, o2 + n, none⟩) hb2).trans (hc2 n hn2)
      have hv1 := Nat.lt_of_lt_of_le hb1 S0.out.1.size
      have hv2 := Nat.lt_of_lt_of_le hb2 S0.out.1.size
      have g0 : (0 : Int) ≤ (n : Int) := by omega
      have g1 : (n : Int) < (s.st.length : Int) := by omega
      have g2 : (n : Int) < (s.mo.length : Int) := by omega
      generalize s.st[n] = st at RES y1
      generalize s.mo[n] = mo at RES y2
      clear hc1 hc2 h1 h2 HN HM HY hw1 hw2
      by_cases k1 : ki = 1
      · subst k1
        rw [isTrue_1] at RES
        go_wp2_with fail
        have S1 := Lib.hid S0.out.drew1
        have CE := Lib.hid (fun (W : World) (h : Wr [] wv.drew W) => show Hid (Wr [] wv.drew W) ∧ W.cell? ⟨w.heap.size, 1, none⟩ = some (.int .i64 (n : Int)) ∧ W.cell? ⟨w.heap.size, 2, none⟩ = some (.int .i64 va) ∧ W.cell? ⟨w.heap.size + 1, 0, none⟩ = some (.slice (some ⟨b1, o1, none⟩) s.st.length f1) ∧ W.cell? ⟨b1, o1 + n, none⟩ = some (.int .i64 st) from ⟨Lib.hid h, (wr_cell h (p := ⟨w.heap.size, 1, none⟩) hll (by simp)).trans (by exact by simpa using p1), (wr_cell h (p := ⟨w.heap.size, 2, none⟩) hll (by simp)).trans (by exact by simpa using p2), (wr_cell h (p := ⟨w.heap.size + 1, 0, none⟩) hlq (by simp)).trans (by exact by simpa using q0), (wr_cell h (p := ⟨b1, o1 + n, none⟩) (by show b1 < _; simpa using hv1) (by simp)).trans (by exact by simpa using y1)⟩)
        have INIT := Lib.hid (CE.out _ (Wr.refl _ _))
        have KW := Lib.hid (fun (W2 W : World) (hb : Wr [] W W2) (h : Hid (Wr [] wv.drew W) ∧ W.cell? ⟨w.heap.size, 1, none⟩ = some (.int .i64 (n : Int)) ∧ W.cell? ⟨w.heap.size, 2, none⟩ = some (.int .i64 va) ∧ W.cell? ⟨w.heap.size + 1, 0, none⟩ = some (.slice (some ⟨b1, o1, none⟩) s.st.length f1) ∧ W.cell? ⟨b1, o1 + n, none⟩ = some (.int .i64 st)) => CE.out W2 (h.1.out.trans hb))
        clear p0 p1 p2 pf q0 q1 qf y1 y2
        go_region_held3 (fun W => Hid (Wr [] wv.drew W) ∧ W.cell? ⟨w.heap.size, 1, none⟩ = some (.int .i64 (n : Int)) ∧ W.cell? ⟨w.heap.size, 2, none⟩ = some (.int .i64 va) ∧ W.cell? ⟨w.heap.size + 1, 0, none⟩ = some (.slice (some ⟨b1, o1, none⟩) s.st.length f1) ∧ W.cell? ⟨b1, o1 + n, none⟩ = some (.int .i64 st)) (first | exact INIT.out | exact KW.out _ _ (by assumption) (by assumption) | exact KW.out _ _ (Wr.of_below (by assumption) (Nat.le_refl _)) (by assumption) | exact KW.out _ _ (Wr.of_below ((Below.refl _ _).alloc (Nat.le_refl _) _) (Nat.le_refl _)) (by assumption))
          (fail)
        go_wp2
        go_ret
        exact ⟨ret_bL (by rw [RES.out] <;> first | rfl | simp), S1.out.1⟩
      by_cases k2 : ki = 2
      · subst k2
        rw [isTrue_2] at RES
        clear k1
        go_wp2_with fail
        have S1 := Lib.hid S0.out.drew1
        have CE := Lib.hid (fun (W : World) (h : Wr [] wv.drew W) => show Hid (Wr [] wv.drew W) ∧ W.cell? ⟨w.heap.size, 1, none⟩ = some (.int .i64 (n : Int)) ∧ W.cell? ⟨w.heap.size, 2, none⟩ = some (.int .i64 va) ∧ W.cell? ⟨w.heap.size + 1, 0, none⟩ = some (.slice (some ⟨b1, o1, none⟩) s.st.length f1) ∧ W.cell? ⟨b1, o1 + n, none⟩ = some (.int .i64 st) from ⟨Lib.hid h, (wr_cell h (p := ⟨w.heap.size, 1, none⟩) hll (by simp)).trans (by exact by simpa using p1), (wr_cell h (p := ⟨w.heap.size, 2, none⟩) hll (by simp)).trans (by exact by simpa using p2), (wr_cell h (p := ⟨w.heap.size + 1, 0, none⟩) hlq (by simp)).trans (by exact by simpa using q0), (wr_cell h (p := ⟨b1, o1 + n, none⟩) (by show b1 < _; simpa using hv1) (by simp)).trans (by exact by simpa using y1)⟩)
        have INIT := Lib.hid (CE.out _ (Wr.refl _ _))
        have KW := Lib.hid (fun (W2 W : World) (hb : Wr [] W W2) (h : Hid (Wr [] wv.drew W) ∧ W.cell? ⟨w.heap.size, 1, none⟩ = some (.int .i64 (n : Int)) ∧ W.cell? ⟨w.heap.size, 2, none⟩ = some (.int .i64 va) ∧ W.cell? ⟨w.heap.size + 1, 0, none⟩ = some (.slice (some ⟨b1, o1, none⟩) s.st.length f1) ∧ W.cell? ⟨b1, o1 + n, none⟩ = some (.int .i64 st)) => CE.out W2 (h.1.out.trans hb))
        clear p0 p1 p2 pf q0 q1 qf y1 y2
        go_region_held3 (fun W => Hid (Wr [] wv.drew W) ∧ W.cell? ⟨w.heap.size, 1, none⟩ = some (.int .i64 (n : Int)) ∧ W.cell? ⟨w.heap.size, 2, none⟩ = some (.int .i64 va) ∧ W.cell? ⟨w.heap.size + 1, 0, none⟩ = some (.slice (some ⟨b1, o1, none⟩) s.st.length f1) ∧ W.cell? ⟨b1, o1 + n, none⟩ = some (.int .i64 st)) (first | exact INIT.out | exact KW.out _ _ (by assumption) (by assumption) | exact KW.out _ _ (Wr.of_below (by assumption) (Nat.le_refl _)) (by assumption) | exact KW.out _ _ (Wr.of_below ((Below.refl _ _).alloc (Nat.le_refl _) _) (Nat.le_refl _)) (by assumption))
          (fail)
        go_wp2
        go_ret
        exact ⟨ret_bL (by rw [RES.out] <;> first | rfl | simp), S1.out.1⟩
      by_cases k3 : ki = 3
      · subst k3
        rw [isTrue_3] at RES
        clear k1 k2
        go_wp2_with fail
        have S1 := Lib.hid S0.out.drew1
        have CE := Lib.hid (fun (W : World) (h : Wr [] wv.drew W) => show Hid (Wr [] wv.drew W) ∧ W.cell? ⟨w.heap.size, 1, none⟩ = some (.int .i64 (n : Int)) ∧ W.cell? ⟨w.heap.size, 2, none⟩ = some (.int .i64 va) ∧ W.cell? ⟨w.heap.size + 1, 1, none⟩ = some (.slice (some ⟨b2, o2, none⟩) s.mo.length f2) ∧ W.cell? ⟨b2, o2 + n, none⟩ = some (.int .i64 mo) from ⟨Lib.hid h, (wr_cell h (p := ⟨w.heap.size, 1, none⟩) hll (by simp)).trans (by exact by simpa using p1), (wr_cell h (p := ⟨w.heap.size, 2, none⟩) hll (by simp)).trans (by exact by simpa using p2), (wr_cell h (p := ⟨w.heap.size + 1, 1, none⟩) hlq (by simp)).trans (by exact by simpa using q1), (wr_cell h (p := ⟨b2, o2 + n, none⟩) (by show b2 < _; simpa using hv2) (by simp)).trans (by exact by simpa using y2)⟩)
        have INIT := Lib.hid (CE.out _ (Wr.refl _ _))
        have KW := Lib.hid (fun (W2 W : World) (hb : Wr [] W W2) (h : Hid (Wr [] wv.drew W) ∧ W.cell? ⟨w.heap.size, 1, none⟩ = some (.int .i64 (n : Int)) ∧ W.cell? ⟨w.heap.size, 2, none⟩ = some (.int .i64 va) ∧ W.cell? ⟨w.heap.size + 1, 1, none⟩ = some (.slice (some ⟨b2, o2, none⟩) s.mo.length f2) ∧ W.cell? ⟨b2, o2 + n, none⟩ = some (.int .i64 mo)) => CE.out W2 (h.1.out.trans hb))
        clear p0 p1 p2 pf q0 q1 qf y1 y2
        go_region_held3 (fun W => Hid (Wr [] wv.drew W) ∧ W.cell? ⟨w.heap.size, 1, none⟩ = some (.int .i64 (n : Int)) ∧ W.cell? ⟨w.heap.size, 2, none⟩ = some (.int .i64 va) ∧ W.cell? ⟨w.heap.size + 1, 1, none⟩ = some (.slice (some ⟨b2, o2, none⟩) s.mo.length f2) ∧ W.cell? ⟨b2, o2 + n, none⟩ = some (.int .i64 mo)) (first | exact INIT.out | exact KW.out _ _ (by assumption) (by assumption) | exact KW.out _ _ (Wr.of_below (by assumption) (Nat.le_refl _)) (by assumption) | exact KW.out _ _ (Wr.of_below ((Below.refl _ _).alloc (Nat.le_refl _) _) (Nat.le_refl _)) (by assumption))
          (fail)
        go_wp2
        go_ret
        exact ⟨ret_bL (by rw [RES.out] <;> first | rfl | simp), S1.out.1⟩
      by_cases k4 : ki = 4
      · subst k4
        rw [isTrue_4] at RES
        clear k1 k2 k3
        go_wp2_with fail
        have S1 := Lib.hid S0.out.drew1
        have CE := Lib.hid (fun (W : World) (h : Wr [] wv.drew W) => show Hid (Wr [] wv.drew W) ∧ W.cell? ⟨w.heap.size, 0, none⟩ = some (.int .i64 4) ∧ W.cell? ⟨w.heap.size, 1, none⟩ = some (.int .i64 (n : Int)) ∧ W.cell? ⟨w.heap.size, 2, none⟩ = some (.int .i64 va) ∧ W.cell? ⟨w.heap.size + 1, 1, none⟩ = some (.slice (some ⟨b2, o2, none⟩) s.mo.length f2) ∧ W.cell? ⟨b2, o2 + n, none⟩ = some (.int .i64 mo) from ⟨Lib.hid h, (wr_cell h (p := ⟨w.heap.size, 0, none⟩) hll (by simp)).trans (by exact by simpa using p0), (wr_cell h (p := ⟨w.heap.size, 1, none⟩) hll (by simp)).trans (by exact by simpa using p1), (wr_cell h (p := ⟨w.heap.size, 2, none⟩) hll (by simp)).trans (by exact by simpa using p2), (wr_cell h (p := ⟨w.heap.size + 1, 1, none⟩) hlq (by simp)).trans (by exact by simpa using q1), (wr_cell h (p := ⟨b2, o2 + n, none⟩) (by show b2 < _; simpa using hv2) (by simp)).trans (by exact by simpa using y2)⟩)
        have INIT := Lib.hid (CE.out _ (Wr.refl _ _))
        have KW := Lib.hid (fun (W2 W : World) (hb : Wr [] W W2) (h : Hid (Wr [] wv.drew W) ∧ W.cell? ⟨w.heap.size, 0, none⟩ = some (.int .i64 4) ∧ W.cell? ⟨w.heap.size, 1, none⟩ = some (.int .i64 (n : Int)) ∧ W.cell? ⟨w.heap.size, 2, none⟩ = some (.int .i64 va) ∧ W.cell? ⟨w.heap.size + 1, 1, none⟩ = some (.slice (some ⟨b2, o2, none⟩) s.mo.length f2) ∧ W.cell? ⟨b2, o2 + n, none⟩ = some (.int .i64 mo)) => CE.out W2 (h.1.out.trans hb))
        clear p0 p1 p2 pf q0 q1 qf y1 y2
        go_region_held3 (fun W => Hid (Wr [] wv.drew W) ∧ W.cell? ⟨w.heap.size, 0, none⟩ = some (.int .i64 4) ∧ W.cell? ⟨w.heap.size, 1, none⟩ = some (.int .i64 (n : Int)) ∧ W.cell? ⟨w.heap.size, 2, none⟩ = some (.int .i64 va) ∧ W.cell? ⟨w.heap.size + 1, 1, none⟩ = some (.slice (some ⟨b2, o2, none⟩) s.mo.length f2) ∧ W.cell? ⟨b2, o2 + n, none⟩ = some (.int .i64 mo)) (first | exact INIT.out | exact KW.out _ _ (by assumption) (by assumption) | exact KW.out _ _ (Wr.of_below (by assumption) (Nat.le_refl _)) (by assumption) | exact KW.out _ _ (Wr.of_below ((Below.refl _ _).alloc (Nat.le_refl _) _) (Nat.le_refl _)) (by assumption))
          (fail)
        go_wp2
        go_ret
        exact ⟨ret_bL (by rw [RES.out] <;> first | rfl | simp), S1.out.1⟩
      rw [isTrue_o k1 k2 k3 k4] at RES
      go_wp2_with fail
      have S1 := Lib.hid S0.out.drew1
      have hk4 : (ki == 4) = false := by simpa using k4
      have CE := Lib.hid (fun (W : World) (h : Wr [] wv.drew W) => show Hid (Wr [] wv.drew W) ∧ W.cell? ⟨w.heap.size, 0, none⟩ = some (.int .i64 ki) from ⟨Lib.hid h, (wr_cell h (p := ⟨w.heap.size, 0, none⟩) hll (by simp)).trans (by exact by simpa using p0)⟩)
      have INIT := Lib.hid (CE.out _ (Wr.refl _ _))
      have KW := Lib.hid (fun (W2 W : World) (hb : Wr [] W W2) (h : Hid (Wr [] wv.drew W) ∧ W.cell? ⟨w.heap.size, 0, none⟩ = some (.int .i64 ki)) => CE.out W2 (h.1.out.trans hb))
      clear p0 p1 p2 pf q0 q1 qf y1 y2
      refine wp_region_held_drew (S := fun W => Hid (Wr [] wv.drew W) ∧ W.cell? ⟨w.heap.size, 0, none⟩ = some (.int .i64 ki)) (by kernel_rfl) INIT.out (fun hHeld => ?_)
      refine wpAnyH_take (i := 0) (v := ?_) rfl (by kernel_rfl) (by kernel_rfl) (by kernel_rfl) (fun _ _ _ h => h) (Or.inl ⟨by rfl, ?_⟩) (by assumption) ?_
      rotate_left
      · (intro W hSw; (try dsimp only at hSw); go_simp <;> with_reducible rfl)
      (try simp only [Act.put, List.getElem_toArray, List.getElem_cons_zero, List.setIfInBounds_toArray, List.set_cons_succ, List.set_cons_zero])
      refine wpAnyH_take (i := 1) (v := ?_) rfl (by kernel_rfl) (by kernel_rfl) (by kernel_rfl) (fun _ _ _ h => h) (Or.inl ⟨by rfl, ?_⟩) (by assumption) ?_
      rotate_left
      · (intro W hSw; (try dsimp only at hSw); go_simp <;> with_reducible rfl)
      (try simp only [Act.put, List.getElem_toArray, List.getElem_cons_succ, List.getElem_cons_zero, List.setIfInBounds_toArray, List.set_cons_succ, List.set_cons_zero])
      refine wpAnyH_take (i := 2) (v := ?_) rfl (by kernel_rfl) (by kernel_rfl) (by kernel_rfl) (fun _ _ _ h => h) (Or.inl ⟨by rfl, ?_⟩) (by assumption) ?_
      rotate_left
      · (intro W hSw; (try dsimp only at hSw); go_simp <;> with_reducible rfl)
      (try simp only [Act.put, List.getElem_toArray, List.getElem_cons_succ, List.getElem_cons_zero, List.setIfInBounds_toArray, List.set_cons_succ, List.set_cons_zero])
      refine wpAnyH_take (i := 3) (v := ?_) rfl (by kernel_rfl) (by kernel_rfl) (by kernel_rfl) (fun _ _ _ h => h) (Or.inl ⟨by rfl, ?_⟩) (by assumption) ?_
      rotate_left
      · (intro W hSw; (try dsimp only at hSw); go_simp <;> with_reducible rfl)
      (try simp only [Act.put, List.getElem_toArray, List.getElem_cons_succ, List.getElem_cons_zero, List.setIfInBounds_toArray, List.set_cons_succ, List.set_cons_zero])
      refine wpAnyH_take (i := 4) (v := undef) rfl (by kernel_rfl) (by kernel_rfl) (by kernel_rfl) (fun _ _ _ h => h) (Or.inr ⟨by rfl, rfl⟩) (by assumption) ?_
      (try simp only [Act.put, List.getElem_toArray, List.getElem_cons_succ, List.getElem_cons_zero, List.setIfInBounds_toArray, List.set_cons_succ, List.set_cons_zero])
      refine wpAnyH_take (i := 5) (v := undef) rfl (by kernel_rfl) (by kernel_rfl) (by kernel_rfl) (fun _ _ _ h => h) (Or.inr ⟨by rfl, rfl⟩) (by assumption) ?_
      (try simp only [Act.put, List.getElem_toArray, List.getElem_cons_succ, List.getElem_cons_zero, List.setIfInBounds_toArray, List.set_cons_succ, List.set_cons_zero])
      refine wpAnyH_take (i := 6) (v := undef) rfl (by kernel_rfl) (by kernel_rfl) (by kernel_rfl) (fun _ _ _ h => h) (Or.inr ⟨by rfl, rfl⟩) (by assumption) ?_
      (try simp only [Act.put, List.getElem_toArray, List.getElem_cons_succ, List.getElem_cons_zero, List.setIfInBounds_toArray, List.set_cons_succ, List.set_cons_zero])
      refine wpAnyH_take (i := 7) (v := undef) rfl (by kernel_rfl) (by kernel_rfl) (by kernel_rfl) (fun _ _ _ h => h) (Or.inr ⟨by rfl, rfl⟩) (by assumption) ?_
      (try simp only [Act.put, List.getElem_toArray, List.getElem_cons_succ, List.getElem_cons_zero, List.setIfInBounds_toArray, List.set_cons_succ, List.set_cons_zero])
      refine wpAnyH_take (i := 8) (v := undef) rfl (by kernel_rfl) (by kernel_rfl) (by kernel_rfl) (fun _ _ _ h => h) (Or.inr ⟨by rfl, rfl⟩) (by assumption) ?_
      (try simp only [Act.put, List.getElem_toArray, List.getElem_cons_succ, List.getElem_cons_zero, List.setIfInBounds_toArray, List.set_cons_succ, List.set_cons_zero])
      refine wpAnyH_take (i := 9) (v := undef) rfl (by kernel_rfl) (by kernel_rfl) (by kernel_rfl) (fun _ _ _ h => h) (Or.inr ⟨by rfl, rfl⟩) (by assumption) ?_
      (try simp only [Act.put, List.getElem_toArray, List.getElem_cons_succ, List.getElem_cons_zero, List.setIfInBounds_toArray, List.set_cons_succ, List.set_cons_zero])
      refine wpAnyH_take (i := 10) (v := undef) rfl (by kernel_rfl) (by kernel_rfl) (by kernel_rfl) (fun _ _ _ h => h) (Or.inr ⟨by rfl, rfl⟩) (by assumption) ?_
      (try simp only [Act.put, List.getElem_toArray, List.getElem_cons_succ, List.getElem_cons_zero, List.setIfInBounds_toArray, List.set_cons_succ, List.set_cons_zero])
      refine wpAnyH_take (i := 11) (v := undef) rfl (by kernel_rfl) (by kernel_rfl) (by kernel_rfl) (fun _ _ _ h => h) (Or.inr ⟨by rfl, rfl⟩) (by assumption) ?_
      (try simp only [Act.put, List.getElem_toArray, List.getElem_cons_succ, List.getElem_cons_zero, List.setIfInBounds_toArray, List.set_cons_succ, List.set_cons_zero])
      refine wpAnyH_take (i := 12) (v := undef) rfl (by kernel_rfl) (by kernel_rfl) (by kernel_rfl) (fun _ _ _ h => h) (Or.inr ⟨by rfl, rfl⟩) (by assumption) ?_
      (try simp only [Act.put, List.getElem_toArray, List.getElem_cons_succ, List.getElem_cons_zero, List.setIfInBounds_toArray, List.set_cons_succ, List.set_cons_zero])
      refine wpAnyH_take (i := 13) (v := ?_) rfl (by kernel_rfl) (by kernel_rfl) (by kernel_rfl) (fun _ _ _ h => h) (Or.inl ⟨by rfl, ?_⟩) (by assumption) ?_
      rotate_left
      · (intro W hSw; (try dsimp only at hSw); go_simp <;> with_reducible rfl)
      (try simp only [Act.put, List.getElem_toArray, List.getElem_cons_succ, List.getElem_cons_zero, List.setIfInBounds_toArray, List.set_cons_succ, List.set_cons_zero])
      refine wpAnyH_take (i := 14) (v := ?_) rfl (by kernel_rfl) (by kernel_rfl) (by kernel_rfl) (fun _ _ _ h => h) (Or.inl ⟨by rfl, ?_⟩) (by assumption) ?_
      rotate_left
      · (intro W hSw; (try dsimp only at hSw); go_simp <;> with_reducible rfl)
      (try simp only [Act.put, List.getElem_toArray, List.getElem_cons_succ, List.getElem_cons_zero, List.setIfInBounds_toArray, List.set_cons_succ, List.set_cons_zero])
      refine wpAnyH_done (by kernel_rfl) ?_ _
      go_wp2
      go_ret
      exact ⟨ret_bL RES.out.symm, S1.out.1⟩
    · have T2 := Lib.hid (inB_no h2)
      unfold inB at T2
      rw [T2.out]
      have RES := Lib.hid (HM.out (by show ¬ (0 ≤ ac ∧ ac < _); omega))
      go_wp2
      go_ret
      exact ⟨ret_bL RES.out.symm, S0.out.1⟩
  · have T1 := Lib.hid (inB_no h1)
    unfold inB at T1
    rw [T1.out]
    have RES := Lib.hid (HN.out (by show ¬ (0 ≤ ac ∧ ac < _); omega))
    go_wp2
    go_ret
    exact ⟨ret_bL RES.out.symm, S0.out.1⟩
end Go.Proofs.Ytgbpomakomddjaa
