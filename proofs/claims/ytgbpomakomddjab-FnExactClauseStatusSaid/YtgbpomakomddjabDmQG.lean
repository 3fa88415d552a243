/- DERIVED. CONTRACTS of chapter 13: LiteralValue, of the program and of the model. -/
import Derived.Test.YtgbpomakomddjabDmG
import Derived.Test.YtgbpomakomddjabEqI
import Derived.Test.YtgbpomakomddjabHofE
import Derived.Test.YtgbpomakomddjabRegZ
import Derived.Deep.QuietTactic

section
namespace Go.Proofs.Ytgbpomakomddjab
open Go.RowKit Go.Shelf
set_option linter.unusedVariables false

theorem enters_setEq : ∀ args w, (callFunc 30 args).run Try.prog w = .ok (.enter 30 args) w := enters_of Try.func30 (by kernel_rfl) rfl
theorem eqL_rows (xs ys : List (List Int)) : eqL (fun x y => eqB x y) xs ys = decide (xs = ys) := eqL_dec (p := fun x y => eqB x y) (fun x y => rfl) xs ys
end Go.Proofs.Ytgbpomakomddjab
end

section
namespace Go.Proofs.Ytgbpomakomddjab
open Go.RowKit Go.Shelf
set_option linter.unusedVariables false

end Go.Proofs.Ytgbpomakomddjab
end

section
namespace Go.Proofs.Ytgbpomakomddjab
open Go.RowKit Go.Shelf
set_option linter.unusedVariables false

theorem lval_1 {d : Dm} {ac va : Int} {n : Nat} : lvalA d ⟨1, ac, va⟩ n = knownB (decide (va ≤ mnD d n)) (decide (mxD d n < va)) := rfl
theorem lval_2 {d : Dm} {ac va : Int} {n : Nat} : lvalA d ⟨2, ac, va⟩ n = knownB (decide (mxD d n ≤ va)) (decide (va < mnD d n)) := rfl
theorem lval_3 {d : Dm} {ac va : Int} {n : Nat} : lvalA d ⟨3, ac, va⟩ n = knownB (eqB (mdD d n) [va]) (!hasB (mdD d n) va) := rfl
theorem lval_4 {d : Dm} {ac va : Int} {n : Nat} : lvalA d ⟨4, ac, va⟩ n = knownB (!hasB (mdD d n) va) (eqB (mdD d n) [va]) := rfl
theorem lval_o {d : Dm} {ki ac va : Int} {n : Nat} (h1 : ¬ ki = 1) (h2 : ¬ ki = 2) (h3 : ¬ ki = 3) (h4 : ¬ ki = 4) : lvalA d ⟨ki, ac, va⟩ n = 1 := by simp [lvalA, h1, h2, h3, h4]
theorem known_in (y n : Bool) : -1 ≤ knownB y n ∧ knownB y n ≤ 1 := by
  rcases y with _ | _ <;> rcases n with _ | _ <;> simp [knownB]
theorem eq_one {l : List Int} {x : Int} (h : ¬ l.length = 1) : eqB l [x] = false := by
  unfold eqB
  rw [decide_eq_false_iff_not]
  rintro rfl
  exact h rfl
theorem eq_one_at {l : List Int} {x : Int} (h : l.length = 1) : eqB l [x] = decide (l[0]'(by omega) = x) := by
  match l, h with
  | [y], _ => simp [eqB]
set_option maxRecDepth 100000 in
set_option maxHeartbeats 8000000 in
theorem implLiteralValue_any (d : Dm) (l : Lt) (v : Value) (w : World) (hd : (trDm d).rd w v) :
    Calls Try.prog 19 #[v, ltV l] w fun e w' => e = .returned (.int .i64 (lvalD d l)) ∧ Below w.heap.size w w' := by
  obtain ⟨ki, ac, va⟩ := l
  have HN := Lib.hid (fun h => @lval_no d ⟨ki, ac, va⟩ h)
  have HY := Lib.hid (fun n h e => @lval_yes d ⟨ki, ac, va⟩ n h e)
  generalize lvalD d ⟨ki, ac, va⟩ = res at HN HY ⊢
  have HD := Lib.hid hd
  obtain ⟨D1, t1, D2, t2, D3, t3, rfl, m1, m2, m3⟩ := rdDomain_t hd
  obtain ⟨hd1, B5, d5, he, y1⟩ := rdI (rd_flat m1)
  injection he with he _ he2
  subst he he2
  have Y1 := Lib.hid y1
  obtain ⟨hd2, B6, d6, he, y2⟩ := rdI (rd_flat m2)
  injection he with he _ he2
  subst he he2
  have Y2 := Lib.hid y2
  obtain ⟨hd3, B7, d7, he, y3⟩ := rdIntSS_t m3
  injection he with he _ he2
  subst he he2
  have Y3 := Lib.hid y3
  have M1 := Lib.hid (rd_flat m1)
  have M2 := Lib.hid (rd_flat m2)
  clear hd m1 m2 m3 y1 y2 y3
  unfold maxLen at hd1 hd2
  have S0 := Lib.hid (((Sn.start w).box 33 [.slice D1 d.mn.length t1, .slice D2 d.mx.length t2, .slice D3 d.md.length t3]).box 30 [.int .i64 ki, .int .i64 ac, .int .i64 va])
  simp only [World.size_alloc] at S0
  unfold ltV
  go_enter Try.func19, Try.ntmps19
  go_wp2_with fail
  refine (hasAct_any d ac _ _ (by exact S0.out.old HD.out)).mono ?_
  rintro e w1 ⟨rfl, b⟩
  have S1 := Lib.hid (S0.out.go b)
  clear S0 b
  by_cases ht : thereD d ac
  rotate_left
  · rw [decide_eq_false ht]
    have RES := Lib.hid (HN.out ht)
    go_wp2
    go_ret
    exact ⟨ret_intI RES.out.symm, S1.out.1⟩
  rw [decide_eq_true ht]
  obtain ⟨n, rfl⟩ : ∃ n : Nat, ac = (n : Int) := ⟨ac.toNat, by have := ht.1; omega⟩
  have RES := Lib.hid (HY.out n ht rfl)
  obtain ⟨k0, k1, k2, k3⟩ := ht
  obtain ⟨b1, o1, rfl, hb1, hc1⟩ := Y1.out n (by omega)
  obtain ⟨b2, o2, rfl, hb2, hc2⟩ := Y2.out n (by omega)
  obtain ⟨b3, o3, rfl, hb3, hc3⟩ := Y3.out n (by omega)
  obtain ⟨A5, c5, hc3b, rm5⟩ := hc3 n (by omega)
  have ZM := Lib.hid (fun (W : World) (h : Below w.heap.size w W) => show W.cell? ⟨b1, o1 + n, none⟩ = some (.int .i64 (mnD d n)) ∧ W.cell? ⟨b2, o2 + n, none⟩ = some (.int .i64 (mxD d n)) ∧ W.cell? ⟨b3, o3 + n, none⟩ = some (.slice A5 (mdD d n).length c5) from
    ⟨by rw [mnD_at (by omega)]; exact (h.cell (p := ⟨b1, o1 + n, none⟩) hb1).trans (hc1 n (by omega)), by rw [mxD_at (by omega)]; exact (h.cell (p := ⟨b2, o2 + n, none⟩) hb2).trans (hc2 n (by omega)), by rw [mdD_at (by omega)]; exact (h.cell (p := ⟨b3, o3 + n, none⟩) hb3).trans hc3b⟩)
  have RM := Lib.hid (rd_flat rm5)
  rw [← mdD_at (d := d)] at RM
  have L1 := Lib.hid (show ki = 1 → res = knownB (decide (va ≤ mnD d n)) (decide (mxD d n < va)) from fun e => by rw [RES.out, e]; rfl)
  have L2 := Lib.hid (show ki = 2 → res = knownB (decide (mxD d n ≤ va)) (decide (va < mnD d n)) from fun e => by rw [RES.out, e]; rfl)
  have L3 := Lib.hid (show ki = 3 → res = knownB (eqB (mdD d n) [va]) (!hasB (mdD d n) va) from fun e => by rw [RES.out, e]; rfl)
  have L4 := Lib.hid (show ki = 4 → res = knownB (!hasB (mdD d n) va) (eqB (mdD d n) [va]) from fun e => by rw [RES.out, e]; rfl)
  have LO := Lib.hid (fun h1 h2 h3 h4 => RES.out.trans (lval_o h1 h2 h3 h4))
  clear hc1 hc2 hc3 hc3b rm5 RES
  generalize mnD d n = mn at ZM L1 L2
  generalize mxD d n = mx at ZM L1 L2
  generalize mdD d n = md at ZM RM L3 L4
  obtain ⟨q0, q1, q2, qf⟩ := (S1.out.bk 0 rfl).c3
  obtain ⟨e0, e1, e2, ef⟩ := (S1.out.bk 1 rfl).c3
  obtain ⟨z1, z2, z3⟩ := ZM.out _ S1.out.1
  by_cases h1 : ki = 1
  · have RS := Lib.hid (L1.out h1)
    subst h1
    go_wp2_with fail
    go_quiet (first | (go_at_call 26; exact quiet_left (truth_any _ _ _)) | fail)
    go_wp2
    go_ret
    exact ⟨ret_intI (by first | exact RS.out.symm | (rw [RS.out]; first | rfl | simp)), below_drewN S1.out.1 _⟩
  by_cases h2 : ki = 2
  · have RS := Lib.hid (L2.out h2)
    subst h2
    go_wp2_with fail
    go_quiet (first | (go_at_call 26; exact quiet_left (truth_any _ _ _)) | fail)
    go_wp2
    go_ret
    exact ⟨ret_intI (by first | exact RS.out.symm | (rw [RS.out]; first | rfl | simp)), below_drewN S1.out.1 _⟩
  by_cases h3 : ki = 3
  · have RS := Lib.hid (L3.out h3)
    subst h3
    go_wp2_with fail
    have hlq := (S1.out.bk 0 rfl).lt
    have hle := (S1.out.bk 1 rfl).lt
    have hv3 := Nat.lt_of_lt_of_le hb3 S1.out.1.size
    have S2 := Lib.hid S1.out.drew1
    have RM2 := Lib.hid (RM.out.below S2.out.1 (Nat.le_refl _))
    have CE := Lib.hid (fun (W : World) (h : Wr [] w1.drew W) => show Hid (Wr [] w1.drew W) ∧ W.cell? ⟨w.heap.size, 2, none⟩ = some (.slice (some ⟨b3, o3, none⟩) d.md.length t3) ∧ W.cell? ⟨w.heap.size + 1, 2, none⟩ = some (.int .i64 va) ∧ W.cell? ⟨b3, o3 + n, none⟩ = some (.slice A5 md.length c5) from ⟨Lib.hid h, (wr_cell h (p := ⟨w.heap.size, 2, none⟩) hle (by simp)).trans (by exact by simpa using e2), (wr_cell h (p := ⟨w.heap.size + 1, 2, none⟩) hlq (by simp)).trans (by exact by simpa using q2), (wr_cell h (p := ⟨b3, o3 + n, none⟩) (by show b3 < _; simpa using hv3) (by simp)).trans (by exact by simpa using z3)⟩)
    have INIT := Lib.hid (CE.out _ (Wr.refl _ _))
    have KW := Lib.hid (fun (W2 W : World) (hb : Wr [] W W2) (h : Hid (Wr [] w1.drew W) ∧ W.cell? ⟨w.heap.size, 2, none⟩ = some (.slice (some ⟨b3, o3, none⟩) d.md.length t3) ∧ W.cell? ⟨w.heap.size + 1, 2, none⟩ = some (.int .i64 va) ∧ W.cell? ⟨b3, o3 + n, none⟩ = some (.slice A5 md.length c5)) => CE.out W2 (h.1.out.trans hb))
    clear z1 z2 z3 e0 e1 e2 ef q0 q1 q2 qf hle hlq hv3
    go_region_held3 (fun W => Hid (Wr [] w1.drew W) ∧ W.cell? ⟨w.heap.size, 2, none⟩ = some (.slice (some ⟨b3, o3, none⟩) d.md.length t3) ∧ W.cell? ⟨w.heap.size + 1, 2, none⟩ = some (.int .i64 va) ∧ W.cell? ⟨b3, o3 + n, none⟩ = some (.slice A5 md.length c5)) (first | exact INIT.out | exact KW.out _ _ (by assumption) (by assumption) | exact KW.out _ _ (Wr.of_below (by assumption) (Nat.le_refl _)) (by assumption) | exact KW.out _ _ (Wr.of_below ((Below.refl _ _).alloc (Nat.le_refl _) _) (Nat.le_refl _)) (by assumption))
      ((go_at_call 27; refine (modeValue_any md va _ _ (by exact RM2.out)).mono ?_; rintro e w3 ⟨rfl, bb⟩; have S3 := Lib.hid (S2.out.go bb); clear S2))
    go_wp2
    go_ret
    exact ⟨ret_intI (by rw [RS.out]), S3.out.1⟩
  by_cases h4 : ki = 4
  · have RS := Lib.hid (L4.out h4)
    subst h4
    rw [← known_neg] at RS
    have hki := known_in (eqB md [va]) (!hasB md va)
    generalize hkk : knownB (eqB md [va]) (!hasB md va) = kk at RS hki
    have HKK := Lib.hid hkk
    have hwn : IntKind.i64.wrap (-kk) = -kk := by rw [IntKind.wrap_i64]; omega
    clear hkk
    go_wp2_with fail
    have hlq := (S1.out.bk 0 rfl).lt
    have hle := (S1.out.bk 1 rfl).lt
    have hv3 := Nat.lt_of_lt_of_le hb3 S1.out.1.size
    have S2 := Lib.hid S1.out.drew1
    have RM2 := Lib.hid (RM.out.below S2.out.1 (Nat.le_refl _))
    have CE := Lib.hid (fun (W : World) (h : Wr [] w1.drew W) => show Hid (Wr [] w1.drew W) ∧ W.cell? ⟨w.heap.size, 2, none⟩ = some (.slice (some ⟨b3, o3, none⟩) d.md.length t3) ∧ W.cell? ⟨w.heap.size + 1, 2, none⟩ = some (.int .i64 va) ∧ W.cell? ⟨b3, o3 + n, none⟩ = some (.slice A5 md.length c5) from ⟨Lib.hid h, (wr_cell h (p := ⟨w.heap.size, 2, none⟩) hle (by simp)).trans (by exact by simpa using e2), (wr_cell h (p := ⟨w.heap.size + 1, 2, none⟩) hlq (by simp)).trans (by exact by simpa using q2), (wr_cell h (p := ⟨b3, o3 + n, none⟩) (by show b3 < _; simpa using hv3) (by simp)).trans (by exact by simpa using z3)⟩)
    have INIT := Lib.hid (CE.out _ (Wr.refl _ _))
    have KW := Lib.hid (fun (W2 W : World) (hb : Wr [] W W2) (h : Hid (Wr [] w1.drew W) ∧ W.cell? ⟨w.heap.size, 2, none⟩ = some (.slice (some ⟨b3, o3, none⟩) d.md.length t3) ∧ W.cell? ⟨w.heap.size + 1, 2, none⟩ = some (.int .i64 va) ∧ W.cell? ⟨b3, o3 + n, none⟩ = some (.slice A5 md.length c5)) => CE.out W2 (h.1.out.trans hb))
    clear z1 z2 z3 e0 e1 e2 ef q0 q1 q2 qf hle hlq hv3
    go_region_held3 (fun W => Hid (Wr [] w1.drew W) ∧ W.cell? ⟨w.heap.size, 2, none⟩ = some (.slice (some ⟨b3, o3, none⟩) d.md.length t3) ∧ W.cell? ⟨w.heap.size + 1, 2, none⟩ = some (.int .i64 va) ∧ W.cell? ⟨b3, o3 + n, none⟩ = some (.slice A5 md.length c5)) (first | exact INIT.out | exact KW.out _ _ (by assumption) (by assumption) | exact KW.out _ _ (Wr.of_below (by assumption) (Nat.le_refl _)) (by assumption) | exact KW.out _ _ (Wr.of_below ((Below.refl _ _).alloc (Nat.le_refl _) _) (Nat.le_refl _)) (by assumption))
      ((go_at_call 27; refine (modeValue_any md va _ _ (by exact RM2.out)).mono ?_; rintro e w3 ⟨rfl, bb⟩; rw [HKK.out]; have S3 := Lib.hid (S2.out.go bb); clear S2))
    go_wp2
    go_ret
    exact ⟨ret_intI (by rw [RS.out]), S3.out.1⟩
  have RS := Lib.hid (LO.out h1 h2 h3 h4)
  go_wp2
  go_ret
  exact ⟨ret_intI RS.out.symm, by first | exact S1.out.1 | exact below_drewN S1.out.1 _⟩
set_option maxRecDepth 100000 in
set_option maxHeartbeats 8000000 in
theorem specLiteralValue_any (d : Dm) (l : Lt) (v : Value) (w : World) (hd : (trDm d).rd w v) :
    Calls Try.prog 15 #[v, ltV l] w fun e w' => e = .returned (.int .i64 (lvalD d l)) ∧ Below w.heap.size w w' := by
  obtain ⟨ki, ac, va⟩ := l
  have HN := Lib.hid (fun h => @lval_no d ⟨ki, ac, va⟩ h)
  have HY := Lib.hid (fun n h e => @lval_yes d ⟨ki, ac, va⟩ n h e)
  generalize lvalD d ⟨ki, ac, va⟩ = res at HN HY ⊢
  have HD := Lib.hid hd
  obtain ⟨D1, t1, D2, t2, D3, t3, rfl, m1, m2, m3⟩ := rdDomain_t hd
  obtain ⟨hd1, B5, d5, he, y1⟩ := rdI (rd_flat m1)
  injection he with he _ he2
  subst he he2
  have Y1 := Lib.hid y1
  obtain ⟨hd2, B6, d6, he, y2⟩ := rdI (rd_flat m2)
  injection he with he _ he2
  subst he he2
  have Y2 := Lib.hid y2
  obtain ⟨hd3, B7, d7, he, y3⟩ := rdIntSS_t m3
  injection he with he _ he2
  subst he he2
  have Y3 := Lib.hid y3
  have M1 := Lib.hid (rd_flat m1)
  have M2 := Lib.hid (rd_flat m2)
  clear hd m1 m2 m3 y1 y2 y3
  unfold maxLen at hd1 hd2
  have S0 := Lib.hid (((Sn.start w).box 33 [.slice D1 d.mn.length t1, .slice D2 d.mx.length t2, .slice D3 d.md.length t3]).box 30 [.int .i64 ki, .int .i64 ac, .int .i64 va])
  simp only [World.size_alloc] at S0
  unfold ltV
  go_enter Try.func15, Try.ntmps15
  go_wp2_with fail
  refine (l12There_any d ac _ _ (by exact S0.out.old HD.out)).mono ?_
  rintro e w1 ⟨rfl, b⟩
  have S1 := Lib.hid (S0.out.go b)
  clear S0 b
  by_cases ht : thereD d ac
  rotate_left
  · rw [decide_eq_false ht]
    have RES := Lib.hid (HN.out ht)
    go_wp2
    go_ret
    exact ⟨ret_intI RES.out.symm, S1.out.1⟩
  rw [decide_eq_true ht]
  obtain ⟨n, rfl⟩ : ∃ n : Nat, ac = (n : Int) := ⟨ac.toNat, by have := ht.1; omega⟩
  have RES := Lib.hid (HY.out n ht rfl)
  obtain ⟨k0, k1, k2, k3⟩ := ht
  obtain ⟨b1, o1, rfl, hb1, hc1⟩ := Y1.out n (by omega)
  obtain ⟨b2, o2, rfl, hb2, hc2⟩ := Y2.out n (by omega)
  obtain ⟨b3, o3, rfl, hb3, hc3⟩ := Y3.out n (by omega)
  obtain ⟨A5, c5, hc3b, rm5⟩ := hc3 n (by omega)
  have ZM := Lib.hid (fun (W : World) (h : Below w.heap.size w W) => show W.cell? ⟨b1, o1 + n, none⟩ = some (.int .i64 (mnD d n)) ∧ W.cell? ⟨b2, o2 + n, none⟩ = some (.int .i64 (mxD d n)) ∧ W.cell? ⟨b3, o3 + n, none⟩ = some (.slice A5 (mdD d n).length c5) from
    ⟨by rw [mnD_at (by omega)]; exact (h.cell (p := ⟨b1, o1 + n, none⟩) hb1).trans (hc1 n (by omega)), by rw [mxD_at (by omega)]; exact (h.cell (p := ⟨b2, o2 + n, none⟩) hb2).trans (hc2 n (by omega)), by rw [mdD_at (by omega)]; exact (h.cell (p := ⟨b3, o3 + n, none⟩) hb3).trans hc3b⟩)
  have RM := Lib.hid (rd_flat rm5)
  rw [← mdD_at (d := d)] at RM
  have L1 := Lib.hid (show ki = 1 → res = knownB (decide (va ≤ mnD d n)) (decide (mxD d n < va)) from fun e => by rw [RES.out, e]; rfl)
  have L2 := Lib.hid (show ki = 2 → res = knownB (decide (mxD d n ≤ va)) (decide (va < mnD d n)) from fun e => by rw [RES.out, e]; rfl)
  have L3 := Lib.hid (show ki = 3 → res = knownB (eqB (mdD d n) [va]) (!hasB (mdD d n) va) from fun e => by rw [RES.out, e]; rfl)
  have L4 := Lib.hid (show ki = 4 → res = knownB (!hasB (mdD d n) va) (eqB (mdD d n) [va]) from fun e => by rw [RES.out, e]; rfl)
  have LO := Lib.hid (fun h1 h2 h3 h4 => RES.out.trans (lval_o h1 h2 h3 h4))
  clear hc1 hc2 hc3 hc3b rm5 RES
  generalize mnD d n = mn at ZM L1 L2
  generalize mxD d n = mx at ZM L1 L2
  generalize mdD d n = md at ZM RM L3 L4
  obtain ⟨q0, q1, q2, qf⟩ := (S1.out.bk 0 rfl).c3
  obtain ⟨e0, e1, e2, ef⟩ := (S1.out.bk 1 rfl).c3
  obtain ⟨z1, z2, z3⟩ := ZM.out _ S1.out.1
  by_cases hone : md.length = 1
  rotate_left
  · have E0 := Lib.hid (eq_one (x := va) hone)
    rw [E0.out] at L3 L4
    have hone' : ¬ (md.length : Int) = 1 := by omega
    go_wp2_with fail
    go_quiet (fail)
    generalize hwq : World.drewN w1 _ = wq
    have hbq : Below w1.heap.size w1 wq := hwq ▸ below_drewN (Below.refl _ _) _
    have S2 := Lib.hid (S1.out.go hbq)
    clear hwq hbq S1 q0 q1 q2 qf e0 e1 e2 ef z1 z2 z3
    have S1 := Lib.hid S2.out
    clear S2
    obtain ⟨q0, q1, q2, qf⟩ := (S1.out.bk 0 rfl).c3
    obtain ⟨e0, e1, e2, ef⟩ := (S1.out.bk 1 rfl).c3
    obtain ⟨z1, z2, z3⟩ := ZM.out _ S1.out.1
    by_cases h1 : ki = 1
    · have RS := Lib.hid (L1.out h1)
      subst h1
      go_wp2_with fail
      go_quiet (first | (go_at_call 23; exact quiet_left (known_any _ _ _)) | fail)
      go_wp2
      go_ret
      exact ⟨ret_intI (by first | exact RS.out.symm | (rw [RS.out]; first | rfl | simp)), below_drewN S1.out.1 _⟩
    by_cases h2 : ki = 2
    · have RS := Lib.hid (L2.out h2)
      subst h2
      go_wp2_with fail
      go_quiet (first | (go_at_call 23; exact quiet_left (known_any _ _ _)) | fail)
      go_wp2
      go_ret
      exact ⟨ret_intI (by first | exact RS.out.symm | (rw [RS.out]; first | rfl | simp)), below_drewN S1.out.1 _⟩
    by_cases h3 : ki = 3
    · have RS := Lib.hid (L3.out h3)
      subst h3
      go_wp2_with fail
      refine (specHas_any md va _ _ (by first | exact RM.out.below S1.out.1 (Nat.le_refl _) | (have hrm := RM.out.below S1.out.1 (Nat.le_refl _); rw [hone] at hrm; exact hrm))).mono ?_
      rintro e w3 ⟨rfl, rfl⟩
      go_wp2_with fail
      refine (known_any _ _ _).mono ?_
      rintro e w4 ⟨rfl, rfl⟩
      go_wp2
      go_ret
      exact ⟨ret_intI (by first | exact RS.out.symm | (rw [RS.out]; first | rfl | simp)), S1.out.1⟩
    by_cases h4 : ki = 4
    · have RS := Lib.hid (L4.out h4)
      subst h4
      go_wp2_with fail
      refine (specHas_any md va _ _ (by first | exact RM.out.below S1.out.1 (Nat.le_refl _) | (have hrm := RM.out.below S1.out.1 (Nat.le_refl _); rw [hone] at hrm; exact hrm))).mono ?_
      rintro e w3 ⟨rfl, rfl⟩
      go_wp2_with fail
      refine (known_any _ _ _).mono ?_
      rintro e w4 ⟨rfl, rfl⟩
      go_wp2
      go_ret
      exact ⟨ret_intI (by first | exact RS.out.symm | (rw [RS.out]; first | rfl | simp)), S1.out.1⟩
    have RS := Lib.hid (LO.out h1 h2 h3 h4)
    go_wp2
    go_ret
    exact ⟨ret_intI RS.out.symm, by first | exact S1.out.1 | exact below_drewN S1.out.1 _⟩
  have E0 := Lib.hid (eq_one_at (x := va) hone)
  rw [E0.out] at L3 L4
  have hone' : (md.length : Int) = 1 := by omega
  obtain ⟨_, B9, d9, he, x9⟩ := rdI RM.out
  injection he with he _ he2
  subst he he2
  obtain ⟨b9, o9, rfl, hb9, hc9⟩ := x9 0 (by omega)
  have z9 : w1.cell? ⟨b9, o9, none⟩ = some (.int .i64 md[0]) := (S1.out.1.cell (p := ⟨b9, o9, none⟩) hb9).trans (hc9 0 (by omega))
  have j0 : (0 : Int) < (md.length : Int) := by omega
  generalize md[0]'_ = y9 at z9 L3 L4
  clear hc9 x9 E0
  go_wp2_with fail
  go_quiet (fail)
  generalize hwq : World.drewN w1 _ = wq
  have hbq : Below w1.heap.size w1 wq := hwq ▸ below_drewN (Below.refl _ _) _
  have S2 := Lib.hid (S1.out.go hbq)
  clear hwq hbq S1 q0 q1 q2 qf z9 e0 e1 e2 ef z1 z2 z3
  have S1 := Lib.hid S2.out
  clear S2
  obtain ⟨q0, q1, q2, qf⟩ := (S1.out.bk 0 rfl).c3
  obtain ⟨e0, e1, e2, ef⟩ := (S1.out.bk 1 rfl).c3
  obtain ⟨z1, z2, z3⟩ := ZM.out _ S1.out.1
  by_cases h1 : ki = 1
  · have RS := Lib.hid (L1.out h1)
    subst h1
    go_wp2_with fail
    go_quiet (first | (go_at_call 23; exact quiet_left (known_any _ _ _)) | fail)
    go_wp2
    go_ret
    exact ⟨ret_intI (by first | exact RS.out.symm | (rw [RS.out]; first | rfl | simp)), below_drewN S1.out.1 _⟩
  by_cases h2 : ki = 2
  · have RS := Lib.hid (L2.out h2)
    subst h2
    go_wp2_with fail
    go_quiet (first | (go_at_call 23; exact quiet_left (known_any _ _ _)) | fail)
    go_wp2
    go_ret
    exact ⟨ret_intI (by first | exact RS.out.symm | (rw [RS.out]; first | rfl | simp)), below_drewN S1.out.1 _⟩
  by_cases h3 : ki = 3
  · have RS := Lib.hid (L3.out h3)
    subst h3
    go_wp2_with fail
    refine (specHas_any md va _ _ (by first | exact RM.out.below S1.out.1 (Nat.le_refl _) | (have hrm := RM.out.below S1.out.1 (Nat.le_refl _); rw [hone] at hrm; exact hrm))).mono ?_
    rintro e w3 ⟨rfl, rfl⟩
    go_wp2_with fail
    refine (known_any _ _ _).mono ?_
    rintro e w4 ⟨rfl, rfl⟩
    go_wp2
    go_ret
    exact ⟨ret_intI (by first | exact RS.out.symm | (rw [RS.out]; first | rfl | simp)), S1.out.1⟩
  by_cases h4 : ki = 4
  · have RS := Lib.hid (L4.out h4)
    subst h4
    go_wp2_with fail
    refine (specHas_any md va _ _ (by first | exact RM.out.below S1.out.1 (Nat.le_refl _) | (have hrm := RM.out.below S1.out.1 (Nat.le_refl _); rw [hone] at hrm; exact hrm))).mono ?_
    rintro e w3 ⟨rfl, rfl⟩
    go_wp2_with fail
    refine (known_any _ _ _).mono ?_
    rintro e w4 ⟨rfl, rfl⟩
    go_wp2
    go_ret
    exact ⟨ret_intI (by first | exact RS.out.symm | (rw [RS.out]; first | rfl | simp)), S1.out.1⟩
  have RS := Lib.hid (LO.out h1 h2 h3 h4)
  go_wp2
  go_ret
  exact ⟨ret_intI RS.out.symm, by first | exact S1.out.1 | exact below_drewN S1.out.1 _⟩
end Go.Proofs.Ytgbpomakomddjab
end
