/- DERIVED. CONTRACTS of chapter 11, of the model: l10Ahead and l10Pair. -/
import Derived.Test.YtaglfdkeomjpdaaGreatRuS
import Derived.Test.YtaglfdkeomjpdaaGreatRuX
namespace Go.Proofs.YtaglfdkeomjpdaaGreat
open Go.RowKit Go.Shelf
set_option linter.unusedVariables false

set_option maxRecDepth 100000 in
set_option maxHeartbeats 8000000 in
theorem specAhead_any (p : Pj) (s : Sc) (r a b : Nat) (v u : Value) (w : World) (hv : (trPj p).rd w v) (hs : (trSc s).rd w u) (hf : Form p s) (hm : machB p (r : Int) = true) (hr : r < p.ress.length) (ha : a < p.acts.length) (hb : b < p.acts.length) :
    Calls Tryz.prog 106 #[v, u, .int .i64 (r : Int), .int .i64 (a : Int), .int .i64 (b : Int)] w fun e w' => e = .returned (.bool (aheadB p s r a b)) ∧ Below w.heap.size w w' := by
  have HV := Lib.hid hv
  obtain ⟨A1, c1, A2, c2, A3, c3, A4, c4, rfl, r1, r2, r3, r4⟩ := rdProject_t hv
  obtain ⟨hl1, B1, d1, he, g1⟩ := rdActivityS_t r1
  injection he with he _ he2
  subst he he2
  obtain ⟨hl3, B3, d3, he, g3⟩ := rdResourceS_t r3
  injection he with he _ he2
  subst he he2
  have HQ := Lib.hid hs
  obtain ⟨E1, f1, E2, f2, rfl, q1, q2⟩ := rdSchedule_t hs
  obtain ⟨ht1, B8, d8, he, x1⟩ := rdI (rd_flat q1)
  injection he with he _ he2
  subst he he2
  have X1 := Lib.hid x1
  obtain ⟨ht2, B9, d9, he, x2⟩ := rdI (rd_flat q2)
  injection he with he _ he2
  subst he he2
  have X2 := Lib.hid x2
  clear hs q1 q2 x1 x2
  have S0 := Lib.hid (((Sn.start w).box 36 [.int .i64 p.dl, .slice A1 p.acts.length c1, .slice A2 p.lks.length c2, .slice A3 p.ress.length c3, .slice A4 p.stk.length c4]).box 46 [.slice E1 s.st.length f1, .slice E2 s.mo.length f2])
  simp only [World.size_alloc] at S0
  obtain ⟨b3, o3, rfl, hb3, hc3⟩ := g3 r hr
  obtain ⟨U0, d0, U1, d1', y0, y1, _, ru⟩ := hc3 r hr
  obtain ⟨b1, o1, rfl, hb1, hc1⟩ := g1 a ha
  obtain ⟨M1, m1, x0, x1, x2, _⟩ := hc1 a ha
  obtain ⟨M2, m2, t0, t1, t2, _⟩ := hc1 b hb
  have hb8 : b < s.st.length := by rw [hf.h1]; exact hb
  obtain ⟨b8, o8, rfl, hb8', hc8⟩ := X1.out b hb8
  have y8 := hc8 b hb8
  rw [← stA_at hb8] at y8
  obtain ⟨f, g, hfa, hga, hff, hgg, HT0⟩ := setupT_at hf.ok hm hr ha hb
  have HA := Lib.hid (show aheadB p s r a b = decide (endA p s a + (p.ress[r].su[f])[g] ≤ stA s b) from by rw [← HT0]; rfl)
  have hsu : 0 ≤ (p.ress[r].su[f])[g] ∧ (p.ress[r].su[f])[g] ≤ 12 := by
    have h1 := pok_ress hf.ok _ (List.getElem_mem hr)
    simp only [rokB, Bool.and_eq_true, List.all_eq_true] at h1
    have h2 := h1.1 _ (List.getElem_mem hff)
    simp only [rowB, Bool.and_eq_true, List.all_eq_true] at h2
    exact inB_iff.1 (h2.2 _ (List.getElem_mem hgg))
  obtain ⟨hla, U', cu', he, gu⟩ := rdIntSS_t ru
  injection he with he hln he2
  clear hln
  subst he he2
  obtain ⟨b4, o4, rfl, hb4, hc4⟩ := gu f hff
  obtain ⟨R, cr, y2, rr⟩ := hc4 f hff
  obtain ⟨hlb, R', cr', he, gr⟩ := rdI (rd_flat rr)
  injection he with he hln he2
  clear hln
  subst he he2
  obtain ⟨b5, o5, rfl, hb5, hc5⟩ := gr g hgg
  have y3 := hc5 g hgg
  have HF := Lib.hid hf
  have hen := hf.en ha
  have hr' : (r : Int) < (p.ress.length : Int) := by omega
  have r0 : (0 : Int) ≤ (r : Int) := by omega
  have ha' : (a : Int) < (p.acts.length : Int) := by omega
  have a0 : (0 : Int) ≤ (a : Int) := by omega
  have hb' : (b : Int) < (p.acts.length : Int) := by omega
  have b0 : (0 : Int) ≤ (b : Int) := by omega
  have hb'' : (b : Int) < (s.st.length : Int) := by omega
  have f0 : (0 : Int) ≤ (f : Int) := by omega
  have f1' : (f : Int) < (p.ress[r].su.length : Int) := by omega
  have g0 : (0 : Int) ≤ (g : Int) := by omega
  have g1' : (g : Int) < ((p.ress[r].su[f]).length : Int) := by omega
  rw [hfa] at x1
  rw [hga] at t1
  generalize (p.ress[r].su[f])[g] = ans at HA hsu y3
  generalize (p.ress[r].su[f]).length = lr at y2 g1'
  generalize p.ress[r].su.length = lsu at y1 f1'
  clear hf hv r1 r2 r3 r4 g3 hc3 g1 hc1 ru hl3 hl1 hc8 HT0 hfa hga X1 X2 gu hc4 rr gr hc5 hla hlb y0 x0 x2 t0 t2
  go_enter Tryz.func106, Tryz.ntmps106
  go_wp2_with fail
  have z1 := (S0.out.1.cell (p := ⟨b3, o3 + r * 2 + 1, none⟩) hb3).trans y1
  have k1 := (S0.out.1.cell (p := ⟨b1, o1 + a * 3 + 1, none⟩) hb1).trans x1
  have l1 := (S0.out.1.cell (p := ⟨b1, o1 + b * 3 + 1, none⟩) hb1).trans t1
  have z2 := (S0.out.1.cell (p := ⟨b4, o4 + f, none⟩) hb4).trans y2
  have z3 := (S0.out.1.cell (p := ⟨b5, o5 + g, none⟩) hb5).trans y3
  have z8 := (S0.out.1.cell (p := ⟨b8, o8 + b, none⟩) hb8').trans y8
  generalize World.alloc (World.alloc w _) _ = wv at S0 z1 k1 l1 z2 z3 z8 ⊢
  obtain ⟨p0, p1, p2, p3, p4, pf⟩ := (S0.out.bk 1 rfl).c5
  obtain ⟨q0, q1, qf⟩ := (S0.out.bk 0 rfl).c2
  have hl0 := (S0.out.bk 0 rfl).lt
  have hl1 := (S0.out.bk 1 rfl).lt
  have hsz := S0.out.1.size
  have hb3' : b3 < wv.heap.size := by omega
  have hb1' : b1 < wv.heap.size := by omega
  have hb4' : b4 < wv.heap.size := by omega
  have hb5' : b5 < wv.heap.size := by omega
  have hb8'' : b8 < wv.heap.size := by omega
  have S1 := Lib.hid S0.out.drew1
  generalize stA s b = sb at HA z8
  clear y1 x1 t1 y2 y3 y8
  generalize hen2 : endA p s a = en at HA hen
  have HE := Lib.hid hen2
  clear hen2
  have hw : IntKind.i64.wrap (en + ans) = en + ans := by rw [IntKind.wrap_i64]; omega
  have CE := Lib.hid (fun (W : World) (h : Wr [] wv.drew W) => show Hid (Wr [] wv.drew W) ∧ W.cell? ⟨w.heap.size, 0, none⟩ = some (.int .i64 p.dl) ∧ W.cell? ⟨w.heap.size, 1, none⟩ = some (.slice (some ⟨b1, o1, none⟩) p.acts.length c1) ∧ W.cell? ⟨w.heap.size, 2, none⟩ = some (.slice A2 p.lks.length c2) ∧ W.cell? ⟨w.heap.size, 3, none⟩ = some (.slice (some ⟨b3, o3, none⟩) p.ress.length c3) ∧ W.cell? ⟨w.heap.size, 4, none⟩ = some (.slice A4 p.stk.length c4) ∧ W.cell? ⟨w.heap.size + 1, 0, none⟩ = some (.slice (some ⟨b8, o8, none⟩) s.st.length f1) ∧ W.cell? ⟨w.heap.size + 1, 1, none⟩ = some (.slice E2 s.mo.length f2) ∧ W.cell? ⟨b3, o3 + r * 2 + 1, none⟩ = some (.slice (some ⟨b4, o4, none⟩) lsu d1') ∧ W.cell? ⟨b1, o1 + a * 3 + 1, none⟩ = some (.int .i64 (f : Int)) ∧ W.cell? ⟨b1, o1 + b * 3 + 1, none⟩ = some (.int .i64 (g : Int)) ∧ W.cell? ⟨b4, o4 + f, none⟩ = some (.slice (some ⟨b5, o5, none⟩) lr cr) ∧ W.cell? ⟨b5, o5 + g, none⟩ = some (.int .i64 ans) ∧ W.cell? ⟨b8, o8 + b, none⟩ = some (.int .i64 sb) from ⟨Lib.hid h, (wr_cell h (p := ⟨w.heap.size, 0, none⟩) hl1 (by simp)).trans (by exact by simpa using p0), (wr_cell h (p := ⟨w.heap.size, 1, none⟩) hl1 (by simp)).trans (by exact by simpa using p1), (wr_cell h (p := ⟨w.heap.size, 2, none⟩) hl1 (by simp)).trans (by exact by simpa using p2), (wr_cell h (p := ⟨w.heap.size, 3, none⟩) hl1 (by simp)).trans (by exact by simpa using p3), (wr_cell h (p := ⟨w.heap.size, 4, none⟩) hl1 (by simp)).trans (by exact by simpa using p4), (wr_cell h (p := ⟨w.heap.size + 1, 0, none⟩) hl0 (by simp)).trans (by exact by simpa using q0), (wr_cell h (p := ⟨w.heap.size + 1, 1, none⟩) hl0 (by simp)).trans (by exact by simpa using q1), (wr_cell h (p := ⟨b3, o3 + r * 2 + 1, none⟩) hb3' (by simp)).trans (by exact by simpa using z1), (wr_cell h (p := ⟨b1, o1 + a * 3 + 1, none⟩) hb1' (by simp)).trans (by exact by simpa using k1), (wr_cell h (p := ⟨b1, o1 + b * 3 + 1, none⟩) hb1' (by simp)).trans (by exact by simpa using l1), (wr_cell h (p := ⟨b4, o4 + f, none⟩) hb4' (by simp)).trans (by exact by simpa using z2), (wr_cell h (p := ⟨b5, o5 + g, none⟩) hb5' (by simp)).trans (by exact by simpa using z3), (wr_cell h (p := ⟨b8, o8 + b, none⟩) hb8'' (by simp)).trans (by exact by simpa using z8)⟩)
  have INIT := Lib.hid (CE.out _ (Wr.refl _ _))
  have KW := Lib.hid (fun (W2 W : World) (hb : Wr [] W W2) (h : Hid (Wr [] wv.drew W) ∧ W.cell? ⟨w.heap.size, 0, none⟩ = some (.int .i64 p.dl) ∧ W.cell? ⟨w.heap.size, 1, none⟩ = some (.slice (some ⟨b1, o1, none⟩) p.acts.length c1) ∧ W.cell? ⟨w.heap.size, 2, none⟩ = some (.slice A2 p.lks.length c2) ∧ W.cell? ⟨w.heap.size, 3, none⟩ = some (.slice (some ⟨b3, o3, none⟩) p.ress.length c3) ∧ W.cell? ⟨w.heap.size, 4, none⟩ = some (.slice A4 p.stk.length c4) ∧ W.cell? ⟨w.heap.size + 1, 0, none⟩ = some (.slice (some ⟨b8, o8, none⟩) s.st.length f1) ∧ W.cell? ⟨w.heap.size + 1, 1, none⟩ = some (.slice E2 s.mo.length f2) ∧ W.cell? ⟨b3, o3 + r * 2 + 1, none⟩ = some (.slice (some ⟨b4, o4, none⟩) lsu d1') ∧ W.cell? ⟨b1, o1 + a * 3 + 1, none⟩ = some (.int .i64 (f : Int)) ∧ W.cell? ⟨b1, o1 + b * 3 + 1, none⟩ = some (.int .i64 (g : Int)) ∧ W.cell? ⟨b4, o4 + f, none⟩ = some (.slice (some ⟨b5, o5, none⟩) lr cr) ∧ W.cell? ⟨b5, o5 + g, none⟩ = some (.int .i64 ans) ∧ W.cell? ⟨b8, o8 + b, none⟩ = some (.int .i64 sb)) => CE.out W2 (h.1.out.trans hb))
  clear p0 p1 p2 p3 p4 pf q0 q1 qf z1 k1 l1 z2 z3 z8
  go_region_held3 (fun W => Hid (Wr [] wv.drew W) ∧ W.cell? ⟨w.heap.size, 0, none⟩ = some (.int .i64 p.dl) ∧ W.cell? ⟨w.heap.size, 1, none⟩ = some (.slice (some ⟨b1, o1, none⟩) p.acts.length c1) ∧ W.cell? ⟨w.heap.size, 2, none⟩ = some (.slice A2 p.lks.length c2) ∧ W.cell? ⟨w.heap.size, 3, none⟩ = some (.slice (some ⟨b3, o3, none⟩) p.ress.length c3) ∧ W.cell? ⟨w.heap.size, 4, none⟩ = some (.slice A4 p.stk.length c4) ∧ W.cell? ⟨w.heap.size + 1, 0, none⟩ = some (.slice (some ⟨b8, o8, none⟩) s.st.length f1) ∧ W.cell? ⟨w.heap.size + 1, 1, none⟩ = some (.slice E2 s.mo.length f2) ∧ W.cell? ⟨b3, o3 + r * 2 + 1, none⟩ = some (.slice (some ⟨b4, o4, none⟩) lsu d1') ∧ W.cell? ⟨b1, o1 + a * 3 + 1, none⟩ = some (.int .i64 (f : Int)) ∧ W.cell? ⟨b1, o1 + b * 3 + 1, none⟩ = some (.int .i64 (g : Int)) ∧ W.cell? ⟨b4, o4 + f, none⟩ = some (.slice (some ⟨b5, o5, none⟩) lr cr) ∧ W.cell? ⟨b5, o5 + g, none⟩ = some (.int .i64 ans) ∧ W.cell? ⟨b8, o8 + b, none⟩ = some (.int .i64 sb)) (first | exact INIT.out | exact KW.out _ _ (by assumption) (by assumption) | exact KW.out _ _ (Wr.of_below (by assumption) (Nat.le_refl _)) (by assumption) | exact KW.out _ _ (Wr.of_below ((Below.refl _ _).alloc (Nat.le_refl _) _) (Nat.le_refl _)) (by assumption))
    ((go_at_call 68; refine (specEnd_any p s a _ _ _ (by exact S1.out.old HV.out) (by exact S1.out.old HQ.out) HF.out ha).mono ?_; rintro e w5 ⟨rfl, bb⟩; rw [HE.out]; have S2 := Lib.hid (S1.out.go bb)))
  rename_i hHeld
  clear hHeld CE INIT KW S1 bb
  go_wp2
  go_ret
  exact ⟨ret_bZ HA.out.symm, S2.out.1⟩

set_option maxRecDepth 100000 in
set_option maxHeartbeats 8000000 in
theorem specPair_any (p : Pj) (s : Sc) (r a b : Nat) (v u : Value) (w : World) (hv : (trPj p).rd w v) (hs : (trSc s).rd w u) (hf : Form p s) (hm : machB p (r : Int) = true) (hr : r < p.ress.length) (ha : a < p.acts.length) (hb : b < p.acts.length) :
    Calls Tryz.prog 72 #[v, u, .agg #[.int .i64 5, .int .i64 (r : Int), .int .i64 (a : Int), .int .i64 (b : Int)]] w fun e w' => e = .returned (.bool (pairF p s r a b)) ∧ Below w.heap.size w w' := by
  obtain ⟨M1, m1, N1, n1, rm1, hM1⟩ := specMode_ex p s a v u w hv hs hf ha
  obtain ⟨M2, m2, N2, n2, rm2, hM2⟩ := specMode_ex p s b v u w hv hs hf hb
  have hua := hf.us ha hr
  have hub := hf.us hb hr
  have ry1 : ∃ b7 o7, M1 = some ⟨b7, o7, none⟩ ∧ b7 < w.heap.size ∧ w.cell? ⟨b7, o7 + r, none⟩ = some (.int .i64 (usA p s r a)) := by
    obtain ⟨_, _, _, _, he, ru, _⟩ := rdMode_t rm1
    injection he with he
    injection he with he
    simp at he
    obtain ⟨⟨rfl, rfl⟩, _⟩ := he
    obtain ⟨_, _, _, he, gu⟩ := rdI (rd_flat ru)
    injection he with he _ he2
    subst he he2
    obtain ⟨b7, o7, rfl, hb7, hc7⟩ := gu r (by rw [hua.1]; exact hr)
    refine ⟨b7, o7, rfl, hb7, ?_⟩
    rw [hc7 r (by rw [hua.1]; exact hr)]
    simp [usA, List.getD, List.getElem?_eq_getElem (show r < (mdA p s a).us.length by rw [hua.1]; exact hr)]
  have ry2 : ∃ b7 o7, M2 = some ⟨b7, o7, none⟩ ∧ b7 < w.heap.size ∧ w.cell? ⟨b7, o7 + r, none⟩ = some (.int .i64 (usA p s r b)) := by
    obtain ⟨_, _, _, _, he, ru, _⟩ := rdMode_t rm2
    injection he with he
    injection he with he
    simp at he
    obtain ⟨⟨rfl, rfl⟩, _⟩ := he
    obtain ⟨_, _, _, he, gu⟩ := rdI (rd_flat ru)
    injection he with he _ he2
    subst he he2
    obtain ⟨b7, o7, rfl, hb7, hc7⟩ := gu r (by rw [hub.1]; exact hr)
    refine ⟨b7, o7, rfl, hb7, ?_⟩
    rw [hc7 r (by rw [hub.1]; exact hr)]
    simp [usA, List.getD, List.getElem?_eq_getElem (show r < (mdA p s b).us.length by rw [hub.1]; exact hr)]
  obtain ⟨b7, o7, rfl, hb7, y7⟩ := ry1
  obtain ⟨b9, o9, rfl, hb9, y9⟩ := ry2
  have HM1 := Lib.hid hM1
  have HM2 := Lib.hid hM2
  have P1 := Lib.hid (@pairF_a p s r a b)
  have P2 := Lib.hid (@pairF_b p s r a b)
  have P3 := Lib.hid (@pairF_1 p s r a b)
  have P4 := Lib.hid (@pairF_2 p s r a b)
  have HF := Lib.hid hf
  have HM := Lib.hid hm
  clear rm1 rm2 hM1 hM2
  rw [hua.1] at HM1
  rw [hub.1] at HM2
  have HV := Lib.hid hv
  obtain ⟨A1, c1, A2, c2, A3, c3, A4, c4, rfl, r1, r2, r3, r4⟩ := rdProject_t hv
  clear hv
  have HQ := Lib.hid hs
  obtain ⟨E1, f1, E2, f2, rfl, q1, q2⟩ := rdSchedule_t hs
  obtain ⟨ht1, B8, d8, he, x1⟩ := rdI (rd_flat q1)
  injection he with he _ he2
  subst he he2
  have X1 := Lib.hid x1
  obtain ⟨ht2, B9, d9, he, x2⟩ := rdI (rd_flat q2)
  injection he with he _ he2
  subst he he2
  have X2 := Lib.hid x2
  clear hs q1 q2 x1 x2
  have S0 := Lib.hid ((((Sn.start w).box 36 [.int .i64 p.dl, .slice A1 p.acts.length c1, .slice A2 p.lks.length c2, .slice A3 p.ress.length c3, .slice A4 p.stk.length c4]).box 46 [.slice E1 s.st.length f1, .slice E2 s.mo.length f2]).box 38 [.int .i64 5, .int .i64 (r : Int), .int .i64 (a : Int), .int .i64 (b : Int)])
  simp only [World.size_alloc] at S0
  go_enter Tryz.func72, Tryz.ntmps72
  clear hf hm hua hub r1 r2 r3 r4
  have hr' : (r : Int) < (p.ress.length : Int) := by omega
  have r0 : (0 : Int) ≤ (r : Int) := by omega
  have hfd := field_mode1
  generalize pairF p s r a b = pf0 at P1 P2 P3 P4 ⊢
  generalize usA p s r a = ua at y7 P1 P4
  generalize usA p s r b = ub at y9 P2 P4
  generalize (mdA p s a).du = du1 at HM1
  generalize (mdA p s b).du = du2 at HM2
  generalize (mdA p s a).co.length = lc1 at HM1
  generalize (mdA p s b).co.length = lc2 at HM2
  go_wp2_with fail
  have z7 := (S0.out.1.cell (p := ⟨b7, o7 + r, none⟩) hb7).trans y7
  have z9 := (S0.out.1.cell (p := ⟨b9, o9 + r, none⟩) hb9).trans y9
  generalize World.alloc (World.alloc (World.alloc w _) _) _ = wv at S0 z7 z9 ⊢
  obtain ⟨p0, p1, p2, p3, p4, pf⟩ := (S0.out.bk 2 rfl).c5
  obtain ⟨q0, q1, qf⟩ := (S0.out.bk 1 rfl).c2
  obtain ⟨e0, e1, e2, e3, ef⟩ := (S0.out.bk 0 rfl).c4
  have hl0 := (S0.out.bk 0 rfl).lt
  have hl1 := (S0.out.bk 1 rfl).lt
  have hl2 := (S0.out.bk 2 rfl).lt
  have hsz := S0.out.1.size
  have hb7' : b7 < wv.heap.size := by omega
  have hb9' : b9 < wv.heap.size := by omega
  have S1 := Lib.hid S0.out.drew1
  clear y7 y9
  by_cases hua : ua = 0
  · have HP := Lib.hid (P1.out hua)
    subst hua
    have CE := Lib.hid (fun (W : World) (h : Wr [] wv.drew W) => show Hid (Wr [] wv.drew W) ∧ W.cell? ⟨w.heap.size, 0, none⟩ = some (.int .i64 p.dl) ∧ W.cell? ⟨w.heap.size, 1, none⟩ = some (.slice A1 p.acts.length c1) ∧ W.cell? ⟨w.heap.size, 2, none⟩ = some (.slice A2 p.lks.length c2) ∧ W.cell? ⟨w.heap.size, 3, none⟩ = some (.slice A3 p.ress.length c3) ∧ W.cell? ⟨w.heap.size, 4, none⟩ = some (.slice A4 p.stk.length c4) ∧ W.cell? ⟨w.heap.size + 1, 0, none⟩ = some (.slice E1 s.st.length f1) ∧ W.cell? ⟨w.heap.size + 1, 1, none⟩ = some (.slice E2 s.mo.length f2) ∧ W.cell? ⟨w.heap.size + 1 + 1, 1, none⟩ = some (.int .i64 (r : Int)) ∧ W.cell? ⟨w.heap.size + 1 + 1, 2, none⟩ = some (.int .i64 (a : Int)) ∧ W.cell? ⟨w.heap.size + 1 + 1, 3, none⟩ = some (.int .i64 (b : Int)) ∧ W.cell? ⟨b7, o7 + r, none⟩ = some (.int .i64 0) ∧ W.cell? ⟨b9, o9 + r, none⟩ = some (.int .i64 ub) from ⟨Lib.hid h, (wr_cell h (p := ⟨w.heap.size, 0, none⟩) hl2 (by simp)).trans (by exact by simpa using p0), (wr_cell h (p := ⟨w.heap.size, 1, none⟩) hl2 (by simp)).trans (by exact by simpa using p1), (wr_cell h (p := ⟨w.heap.size, 2, none⟩) hl2 (by simp)).trans (by exact by simpa using p2), (wr_cell h (p := ⟨w.heap.size, 3, none⟩) hl2 (by simp)).trans (by exact by simpa using p3), (wr_cell h (p := ⟨w.heap.size, 4, none⟩) hl2 (by simp)).trans (by exact by simpa using p4), (wr_cell h (p := ⟨w.heap.size + 1, 0, none⟩) hl1 (by simp)).trans (by exact by simpa using q0), (wr_cell h (p := ⟨w.heap.size + 1, 1, none⟩) hl1 (by simp)).trans (by exact by simpa using q1), (wr_cell h (p := ⟨w.heap.size + 1 + 1, 1, none⟩) hl0 (by simp)).trans (by exact by simpa using e1), (wr_cell h (p := ⟨w.heap.size + 1 + 1, 2, none⟩) hl0 (by simp)).trans (by exact by simpa using e2), (wr_cell h (p := ⟨w.heap.size + 1 + 1, 3, none⟩) hl0 (by simp)).trans (by exact by simpa using e3), (wr_cell h (p := ⟨b7, o7 + r, none⟩) hb7' (by simp)).trans (by exact by simpa using z7), (wr_cell h (p := ⟨b9, o9 + r, none⟩) hb9' (by simp)).trans (by exact by simpa using z9)⟩)
    have INIT := Lib.hid (CE.out _ (Wr.refl _ _))
    have KW := Lib.hid (fun (W2 W : World) (hb : Wr [] W W2) (h : Hid (Wr [] wv.drew W) ∧ W.cell? ⟨w.heap.size, 0, none⟩ = some (.int .i64 p.dl) ∧ W.cell? ⟨w.heap.size, 1, none⟩ = some (.slice A1 p.acts.length c1) ∧ W.cell? ⟨w.heap.size, 2, none⟩ = some (.slice A2 p.lks.length c2) ∧ W.cell? ⟨w.heap.size, 3, none⟩ = some (.slice A3 p.ress.length c3) ∧ W.cell? ⟨w.heap.size, 4, none⟩ = some (.slice A4 p.stk.length c4) ∧ W.cell? ⟨w.heap.size + 1, 0, none⟩ = some (.slice E1 s.st.length f1) ∧ W.cell? ⟨w.heap.size + 1, 1, none⟩ = some (.slice E2 s.mo.length f2) ∧ W.cell? ⟨w.heap.size + 1 + 1, 1, none⟩ = some (.int .i64 (r : Int)) ∧ W.cell? ⟨w.heap.size + 1 + 1, 2, none⟩ = some (.int .i64 (a : Int)) ∧ W.cell? ⟨w.heap.size + 1 + 1, 3, none⟩ = some (.int .i64 (b : Int)) ∧ W.cell? ⟨b7, o7 + r, none⟩ = some (.int .i64 0) ∧ W.cell? ⟨b9, o9 + r, none⟩ = some (.int .i64 ub)) => CE.out W2 (h.1.out.trans hb))
    clear p0 p1 p2 p3 p4 pf q0 q1 qf e0 e1 e2 e3 ef z7 z9
    refine wp_region_held_drew (S := fun W => Hid (Wr [] wv.drew W) ∧ W.cell? ⟨w.heap.size, 0, none⟩ = some (.int .i64 p.dl) ∧ W.cell? ⟨w.heap.size, 1, none⟩ = some (.slice A1 p.acts.length c1) ∧ W.cell? ⟨w.heap.size, 2, none⟩ = some (.slice A2 p.lks.length c2) ∧ W.cell? ⟨w.heap.size, 3, none⟩ = some (.slice A3 p.ress.length c3) ∧ W.cell? ⟨w.heap.size, 4, none⟩ = some (.slice A4 p.stk.length c4) ∧ W.cell? ⟨w.heap.size + 1, 0, none⟩ = some (.slice E1 s.st.length f1) ∧ W.cell? ⟨w.heap.size + 1, 1, none⟩ = some (.slice E2 s.mo.length f2) ∧ W.cell? ⟨w.heap.size + 1 + 1, 1, none⟩ = some (.int .i64 (r : Int)) ∧ W.cell? ⟨w.heap.size + 1 + 1, 2, none⟩ = some (.int .i64 (a : Int)) ∧ W.cell? ⟨w.heap.size + 1 + 1, 3, none⟩ = some (.int .i64 (b : Int)) ∧ W.cell? ⟨b7, o7 + r, none⟩ = some (.int .i64 0) ∧ W.cell? ⟨b9, o9 + r, none⟩ = some (.int .i64 ub)) (by kernel_rfl) INIT.out (fun hHeld => ?_)
    refine wpAnyH_take (i := 0) (v := ?_) rfl (by kernel_rfl) (by kernel_rfl) (by kernel_rfl) (fun _ _ _ h => h) (Or.inl ⟨by rfl, ?_⟩) (by assumption) ?_
    rotate_left
    · (intro W hSw; (try dsimp only at hSw); go_simp <;> with_reducible rfl)
    (try simp only [Act.put, List.getElem_toArray, List.getElem_cons_zero, List.setIfInBounds_toArray, List.set_cons_succ, List.set_cons_zero])
    refine wpAnyH_take (i := 1) (v := ?_) rfl (by kernel_rfl) (by kernel_rfl) (by kernel_rfl) (fun _ _ _ h => h) (Or.inl ⟨by rfl, ?_⟩) (by assumption) ?_
    rotate_left
    · (intro W hSw; (try dsimp only at hSw); go_simp <;> with_reducible rfl)
    (try simp only [Act.put, List.getElem_toArray, List.getElem_cons_succ, List.getElem_cons_zero, List.setIfInBounds_toArray, List.set_cons_succ, List.set_cons_zero])
    refine wpAnyH_take (i := 2) (v := ?_) rfl (by kernel_rfl) (by kernel_rfl) (by kernel_rfl) (fun _ _ _ h => h) (Or.inl ⟨by rfl, ?_⟩) (by assumption) ?_
    rotate_left
    · (intro W hSw; (try dsimp only at hSw); go_simp <;> with_reducible rfl)
    (try simp only [Act.put, List.getElem_toArray, List.getElem_cons_succ, List.getElem_cons_zero, List.setIfInBounds_toArray, List.set_cons_succ, List.set_cons_zero])
    refine wpAnyH_take (i := 3) (v := ?_) rfl (by kernel_rfl) (by kernel_rfl) (by kernel_rfl) (fun _ _ _ h => h) (Or.inl ⟨by rfl, ?_⟩) (by assumption) ?_
    rotate_left
    · (intro W hSw; (try dsimp only at hSw); go_simp <;> with_reducible rfl)
    (try simp only [Act.put, List.getElem_toArray, List.getElem_cons_succ, List.getElem_cons_zero, List.setIfInBounds_toArray, List.set_cons_succ, List.set_cons_zero])
    refine wpAnyH_take (i := 6) (v := ?_) rfl (by kernel_rfl) (by kernel_rfl) (by kernel_rfl) (fun _ _ _ h => h) (Or.inl ⟨by rfl, ?_⟩) (by assumption) ?_
    rotate_left
    · (intro W hSw; (try dsimp only at hSw); go_simp <;> with_reducible rfl)
    (try simp only [Act.put, List.getElem_toArray, List.getElem_cons_succ, List.getElem_cons_zero, List.setIfInBounds_toArray, List.set_cons_succ, List.set_cons_zero])
    refine wpAnyH_take (i := 7) (v := ?_) rfl (by kernel_rfl) (by kernel_rfl) (by kernel_rfl) (fun _ _ _ h => h) (Or.inl ⟨by rfl, ?_⟩) (by assumption) ?_
    rotate_left
    · (intro W hSw; (try dsimp only at hSw); go_simp <;> with_reducible rfl)
    (try simp only [Act.put, List.getElem_toArray, List.getElem_cons_succ, List.getElem_cons_zero, List.setIfInBounds_toArray, List.set_cons_succ, List.set_cons_zero])
    refine wpAnyH_ready (rs := [4]) (by kernel_rfl) (by simp) ?_
    refine AllReadyH.cons rfl (fun K hK => ?_) AllReadyH.nil
    go_simp
    go_at_call 104
    refine (HM1.out _ (by exact S1.out.1)).mono ?_
    rintro e w2 ⟨rfl, bb⟩
    have S2 := Lib.hid (S1.out.go bb)
    (first | done | go_wp2_with fail)
    refine hK.out _ _ (KW.out _ _ (Wr.of_below bb (Nat.le_refl _)) (by assumption)) (fun hHeld4 => ?_)
    clear hK K bb S1
    refine wpAnyH_take (i := 5) (v := ?_) rfl (by kernel_rfl) (by kernel_rfl) (by kernel_rfl) (fun _ _ _ h => h) (Or.inl ⟨by rfl, ?_⟩) (by assumption) ?_
    rotate_left
    · (intro W hSw; (try dsimp only at hSw); go_simp <;> with_reducible rfl)
    (try simp only [Act.put, List.getElem_toArray, List.getElem_cons_succ, List.getElem_cons_zero, List.setIfInBounds_toArray, List.set_cons_succ, List.set_cons_zero])
    refine wpAnyH_take (i := 8) (v := ?_) rfl (by kernel_rfl) (by kernel_rfl) (by kernel_rfl) (fun _ _ _ h => h) (Or.inl ⟨by rfl, ?_⟩) (by assumption) ?_
    rotate_left
    · (intro W hSw; (try dsimp only at hSw); go_simp <;> with_reducible rfl)
    (try simp only [Act.put, List.getElem_toArray, List.getElem_cons_succ, List.getElem_cons_zero, List.setIfInBounds_toArray, List.set_cons_succ, List.set_cons_zero])
    refine wpAnyH_take (i := 9) (v := ?_) rfl (by kernel_rfl) (by kernel_rfl) (by kernel_rfl) (fun _ _ _ h => h) (Or.inl ⟨by rfl, ?_⟩) (by assumption) ?_
    rotate_left
    · (intro W hSw; (try dsimp only at hSw); go_simp <;> with_reducible rfl)
    (try simp only [Act.put, List.getElem_toArray, List.getElem_cons_succ, List.getElem_cons_zero, List.setIfInBounds_toArray, List.set_cons_succ, List.set_cons_zero])
    refine wpAnyH_take (i := 10) (v := ?_) rfl (by kernel_rfl) (by kernel_rfl) (by kernel_rfl) (fun _ _ _ h => h) (Or.inl ⟨by rfl, ?_⟩) (by assumption) ?_
    rotate_left
    · (intro W hSw; (try dsimp only at hSw); go_simp <;> with_reducible rfl)
    (try simp only [Act.put, List.getElem_toArray, List.getElem_cons_succ, List.getElem_cons_zero, List.setIfInBounds_toArray, List.set_cons_succ, List.set_cons_zero])
    refine wpAnyH_take (i := 11) (v := ?_) rfl (by kernel_rfl) (by kernel_rfl) (by kernel_rfl) (fun _ _ _ h => h) (Or.inl ⟨by rfl, ?_⟩) (by assumption) ?_
    rotate_left
    · (intro W hSw; (try dsimp only at hSw); go_simp <;> with_reducible rfl)
    (try simp only [Act.put, List.getElem_toArray, List.getElem_cons_succ, List.getElem_cons_zero, List.setIfInBounds_toArray, List.set_cons_succ, List.set_cons_zero])
    refine wpAnyH_take (i := 12) (v := undef) rfl (by kernel_rfl) (by kernel_rfl) (by kernel_rfl) (fun _ _ _ h => h) (Or.inr ⟨by rfl, rfl⟩) (by assumption) ?_
    (try simp only [Act.put, List.getElem_toArray, List.getElem_cons_succ, List.getElem_cons_zero, List.setIfInBounds_toArray, List.set_cons_succ, List.set_cons_zero])
    refine wpAnyH_take (i := 13) (v := undef) rfl (by kernel_rfl) (by kernel_rfl) (by kernel_rfl) (fun _ _ _ h => h) (Or.inr ⟨by rfl, rfl⟩) (by assumption) ?_
    (try simp only [Act.put, List.getElem_toArray, List.getElem_cons_succ, List.getElem_cons_zero, List.setIfInBounds_toArray, List.set_cons_succ, List.set_cons_zero])
    refine wpAnyH_take (i := 14) (v := undef) rfl (by kernel_rfl) (by kernel_rfl) (by kernel_rfl) (fun _ _ _ h => h) (Or.inr ⟨by rfl, rfl⟩) (by assumption) ?_
    (try simp only [Act.put, List.getElem_toArray, List.getElem_cons_succ, List.getElem_cons_zero, List.setIfInBounds_toArray, List.set_cons_succ, List.set_cons_zero])
    refine wpAnyH_take (i := 15) (v := undef) rfl (by kernel_rfl) (by kernel_rfl) (by kernel_rfl) (fun _ _ _ h => h) (Or.inr ⟨by rfl, rfl⟩) (by assumption) ?_
    (try simp only [Act.put, List.getElem_toArray, List.getElem_cons_succ, List.getElem_cons_zero, List.setIfInBounds_toArray, List.set_cons_succ, List.set_cons_zero])
    refine wpAnyH_take (i := 16) (v := undef) rfl (by kernel_rfl) (by kernel_rfl) (by kernel_rfl) (fun _ _ _ h => h) (Or.inr ⟨by rfl, rfl⟩) (by assumption) ?_
    (try simp only [Act.put, List.getElem_toArray, List.getElem_cons_succ, List.getElem_cons_zero, List.setIfInBounds_toArray, List.set_cons_succ, List.set_cons_zero])
    refine wpAnyH_take (i := 17) (v := undef) rfl (by kernel_rfl) (by kernel_rfl) (by kernel_rfl) (fun _ _ _ h => h) (Or.inr ⟨by rfl, rfl⟩) (by assumption) ?_
    (try simp only [Act.put, List.getElem_toArray, List.getElem_cons_succ, List.getElem_cons_zero, List.setIfInBounds_toArray, List.set_cons_succ, List.set_cons_zero])
    refine wpAnyH_take (i := 18) (v := undef) rfl (by kernel_rfl) (by kernel_rfl) (by kernel_rfl) (fun _ _ _ h => h) (Or.inr ⟨by rfl, rfl⟩) (by assumption) ?_
    (try simp only [Act.put, List.getElem_toArray, List.getElem_cons_succ, List.getElem_cons_zero, List.setIfInBounds_toArray, List.set_cons_succ, List.set_cons_zero])
    refine wpAnyH_take (i := 19) (v := undef) rfl (by kernel_rfl) (by kernel_rfl) (by kernel_rfl) (fun _ _ _ h => h) (Or.inr ⟨by rfl, rfl⟩) (by assumption) ?_
    (try simp only [Act.put, List.getElem_toArray, List.getElem_cons_succ, List.getElem_cons_zero, List.setIfInBounds_toArray, List.set_cons_succ, List.set_cons_zero])
    refine wpAnyH_take (i := 20) (v := undef) rfl (by kernel_rfl) (by kernel_rfl) (by kernel_rfl) (fun _ _ _ h => h) (Or.inr ⟨by rfl, rfl⟩) (by assumption) ?_
    (try simp only [Act.put, List.getElem_toArray, List.getElem_cons_succ, List.getElem_cons_zero, List.setIfInBounds_toArray, List.set_cons_succ, List.set_cons_zero])
    refine wpAnyH_take (i := 21) (v := undef) rfl (by kernel_rfl) (by kernel_rfl) (by kernel_rfl) (fun _ _ _ h => h) (Or.inr ⟨by rfl, rfl⟩) (by assumption) ?_
    (try simp only [Act.put, List.getElem_toArray, List.getElem_cons_succ, List.getElem_cons_zero, List.setIfInBounds_toArray, List.set_cons_succ, List.set_cons_zero])
    refine wpAnyH_take (i := 22) (v := undef) rfl (by kernel_rfl) (by kernel_rfl) (by kernel_rfl) (fun _ _ _ h => h) (Or.inr ⟨by rfl, rfl⟩) (by assumption) ?_
    (try simp only [Act.put, List.getElem_toArray, List.getElem_cons_succ, List.getElem_cons_zero, List.setIfInBounds_toArray, List.set_cons_succ, List.set_cons_zero])
    refine wpAnyH_take (i := 23) (v := ?_) rfl (by kernel_rfl) (by kernel_rfl) (by kernel_rfl) (fun _ _ _ h => h) (Or.inl ⟨by rfl, ?_⟩) (by assumption) ?_
    rotate_left
    · (intro W hSw; (try dsimp only at hSw); go_simp <;> with_reducible rfl)
    (try simp only [Act.put, List.getElem_toArray, List.getElem_cons_succ, List.getElem_cons_zero, List.setIfInBounds_toArray, List.set_cons_succ, List.set_cons_zero])
    refine wpAnyH_done (by kernel_rfl) ?_ _
    clear hHeld hHeld4 CE INIT KW
    go_wp2
    go_ret
    exact ⟨ret_bZ HP.out.symm, S2.out.1⟩
  have t1 : (ua == 0) = false := by simpa using hua
  have P4' := Lib.hid (P4.out hua)
  clear P4 P1 hua
  by_cases hub : ub = 0
  · have HP := Lib.hid (P2.out hub)
    subst hub
    have CE := Lib.hid (fun (W : World) (h : Wr [] wv.drew W) => show Hid (Wr [] wv.drew W) ∧ W.cell? ⟨w.heap.size, 0, none⟩ = some (.int .i64 p.dl) ∧ W.cell? ⟨w.heap.size, 1, none⟩ = some (.slice A1 p.acts.length c1) ∧ W.cell? ⟨w.heap.size, 2, none⟩ = some (.slice A2 p.lks.length c2) ∧ W.cell? ⟨w.heap.size, 3, none⟩ = some (.slice A3 p.ress.length c3) ∧ W.cell? ⟨w.heap.size, 4, none⟩ = some (.slice A4 p.stk.length c4) ∧ W.cell? ⟨w.heap.size + 1, 0, none⟩ = some (.slice E1 s.st.length f1) ∧ W.cell? ⟨w.heap.size + 1, 1, none⟩ = some (.slice E2 s.mo.length f2) ∧ W.cell? ⟨w.heap.size + 1 + 1, 1, none⟩ = some (.int .i64 (r : Int)) ∧ W.cell? ⟨w.heap.size + 1 + 1, 2, none⟩ = some (.int .i64 (a : Int)) ∧ W.cell? ⟨w.heap.size + 1 + 1, 3, none⟩ = some (.int .i64 (b : Int)) ∧ W.cell? ⟨b7, o7 + r, none⟩ = some (.int .i64 ua) ∧ W.cell? ⟨b9, o9 + r, none⟩ = some (.int .i64 0) from ⟨Lib.hid h, (wr_cell h (p := ⟨w.heap.size, 0, none⟩) hl2 (by simp)).trans (by exact by simpa using p0), (wr_cell h (p := ⟨w.heap.size, 1, none⟩) hl2 (by simp)).trans (by exact by simpa using p1), (wr_cell h (p := ⟨w.heap.size, 2, none⟩) hl2 (by simp)).trans (by exact by simpa using p2), (wr_cell h (p := ⟨w.heap.size, 3, none⟩) hl2 (by simp)).trans (by exact by simpa using p3), (wr_cell h (p := ⟨w.heap.size, 4, none⟩) hl2 (by simp)).trans (by exact by simpa using p4), (wr_cell h (p := ⟨w.heap.size + 1, 0, none⟩) hl1 (by simp)).trans (by exact by simpa using q0), (wr_cell h (p := ⟨w.heap.size + 1, 1, none⟩) hl1 (by simp)).trans (by exact by simpa using q1), (wr_cell h (p := ⟨w.heap.size + 1 + 1, 1, none⟩) hl0 (by simp)).trans (by exact by simpa using e1), (wr_cell h (p := ⟨w.heap.size + 1 + 1, 2, none⟩) hl0 (by simp)).trans (by exact by simpa using e2), (wr_cell h (p := ⟨w.heap.size + 1 + 1, 3, none⟩) hl0 (by simp)).trans (by exact by simpa using e3), (wr_cell h (p := ⟨b7, o7 + r, none⟩) hb7' (by simp)).trans (by exact by simpa using z7), (wr_cell h (p := ⟨b9, o9 + r, none⟩) hb9' (by simp)).trans (by exact by simpa using z9)⟩)
    have INIT := Lib.hid (CE.out _ (Wr.refl _ _))
    have KW := Lib.hid (fun (W2 W : World) (hb : Wr [] W W2) (h : Hid (Wr [] wv.drew W) ∧ W.cell? ⟨w.heap.size, 0, none⟩ = some (.int .i64 p.dl) ∧ W.cell? ⟨w.heap.size, 1, none⟩ = some (.slice A1 p.acts.length c1) ∧ W.cell? ⟨w.heap.size, 2, none⟩ = some (.slice A2 p.lks.length c2) ∧ W.cell? ⟨w.heap.size, 3, none⟩ = some (.slice A3 p.ress.length c3) ∧ W.cell? ⟨w.heap.size, 4, none⟩ = some (.slice A4 p.stk.length c4) ∧ W.cell? ⟨w.heap.size + 1, 0, none⟩ = some (.slice E1 s.st.length f1) ∧ W.cell? ⟨w.heap.size + 1, 1, none⟩ = some (.slice E2 s.mo.length f2) ∧ W.cell? ⟨w.heap.size + 1 + 1, 1, none⟩ = some (.int .i64 (r : Int)) ∧ W.cell? ⟨w.heap.size + 1 + 1, 2, none⟩ = some (.int .i64 (a : Int)) ∧ W.cell? ⟨w.heap.size + 1 + 1, 3, none⟩ = some (.int .i64 (b : Int)) ∧ W.cell? ⟨b7, o7 + r, none⟩ = some (.int .i64 ua) ∧ W.cell? ⟨b9, o9 + r, none⟩ = some (.int .i64 0)) => CE.out W2 (h.1.out.trans hb))
    clear p0 p1 p2 p3 p4 pf q0 q1 qf e0 e1 e2 e3 ef z7 z9
    refine wp_region_held_drew (S := fun W => Hid (Wr [] wv.drew W) ∧ W.cell? ⟨w.heap.size, 0, none⟩ = some (.int .i64 p.dl) ∧ W.cell? ⟨w.heap.size, 1, none⟩ = some (.slice A1 p.acts.length c1) ∧ W.cell? ⟨w.heap.size, 2, none⟩ = some (.slice A2 p.lks.length c2) ∧ W.cell? ⟨w.heap.size, 3, none⟩ = some (.slice A3 p.ress.length c3) ∧ W.cell? ⟨w.heap.size, 4, none⟩ = some (.slice A4 p.stk.length c4) ∧ W.cell? ⟨w.heap.size + 1, 0, none⟩ = some (.slice E1 s.st.length f1) ∧ W.cell? ⟨w.heap.size + 1, 1, none⟩ = some (.slice E2 s.mo.length f2) ∧ W.cell? ⟨w.heap.size + 1 + 1, 1, none⟩ = some (.int .i64 (r : Int)) ∧ W.cell? ⟨w.heap.size + 1 + 1, 2, none⟩ = some (.int .i64 (a : Int)) ∧ W.cell? ⟨w.heap.size + 1 + 1, 3, none⟩ = some (.int .i64 (b : Int)) ∧ W.cell? ⟨b7, o7 + r, none⟩ = some (.int .i64 ua) ∧ W.cell? ⟨b9, o9 + r, none⟩ = some (.int .i64 0)) (by kernel_rfl) INIT.out (fun hHeld => ?_)
    refine wpAnyH_take (i := 0) (v := ?_) rfl (by kernel_rfl) (by kernel_rfl) (by kernel_rfl) (fun _ _ _ h => h) (Or.inl ⟨by rfl, ?_⟩) (by assumption) ?_
    rotate_left
    · (intro W hSw; (try dsimp only at hSw); go_simp <;> with_reducible rfl)
    (try simp only [Act.put, List.getElem_toArray, List.getElem_cons_zero, List.setIfInBounds_toArray, List.set_cons_succ, List.set_cons_zero])
    refine wpAnyH_take (i := 1) (v := ?_) rfl (by kernel_rfl) (by kernel_rfl) (by kernel_rfl) (fun _ _ _ h => h) (Or.inl ⟨by rfl, ?_⟩) (by assumption) ?_
    rotate_left
    · (intro W hSw; (try dsimp only at hSw); go_simp <;> with_reducible rfl)
    (try simp only [Act.put, List.getElem_toArray, List.getElem_cons_succ, List.getElem_cons_zero, List.setIfInBounds_toArray, List.set_cons_succ, List.set_cons_zero])
    refine wpAnyH_take (i := 2) (v := ?_) rfl (by kernel_rfl) (by kernel_rfl) (by kernel_rfl) (fun _ _ _ h => h) (Or.inl ⟨by rfl, ?_⟩) (by assumption) ?_
    rotate_left
    · (intro W hSw; (try dsimp only at hSw); go_simp <;> with_reducible rfl)
    (try simp only [Act.put, List.getElem_toArray, List.getElem_cons_succ, List.getElem_cons_zero, List.setIfInBounds_toArray, List.set_cons_succ, List.set_cons_zero])
    refine wpAnyH_take (i := 3) (v := ?_) rfl (by kernel_rfl) (by kernel_rfl) (by kernel_rfl) (fun _ _ _ h => h) (Or.inl ⟨by rfl, ?_⟩) (by assumption) ?_
    rotate_left
    · (intro W hSw; (try dsimp only at hSw); go_simp <;> with_reducible rfl)
    (try simp only [Act.put, List.getElem_toArray, List.getElem_cons_succ, List.getElem_cons_zero, List.setIfInBounds_toArray, List.set_cons_succ, List.set_cons_zero])
    refine wpAnyH_take (i := 6) (v := ?_) rfl (by kernel_rfl) (by kernel_rfl) (by kernel_rfl) (fun _ _ _ h => h) (Or.inl ⟨by rfl, ?_⟩) (by assumption) ?_
    rotate_left
    · (intro W hSw; (try dsimp only at hSw); go_simp <;> with_reducible rfl)
    (try simp only [Act.put, List.getElem_toArray, List.getElem_cons_succ, List.getElem_cons_zero, List.setIfInBounds_toArray, List.set_cons_succ, List.set_cons_zero])
    refine wpAnyH_take (i := 7) (v := ?_) rfl (by kernel_rfl) (by kernel_rfl) (by kernel_rfl) (fun _ _ _ h => h) (Or.inl ⟨by rfl, ?_⟩) (by assumption) ?_
    rotate_left
    · (intro W hSw; (try dsimp only at hSw); go_simp <;> with_reducible rfl)
    (try simp only [Act.put, List.getElem_toArray, List.getElem_cons_succ, List.getElem_cons_zero, List.setIfInBounds_toArray, List.set_cons_succ, List.set_cons_zero])
    refine wpAnyH_ready (rs := [4]) (by kernel_rfl) (by simp) ?_
    refine AllReadyH.cons rfl (fun K hK => ?_) AllReadyH.nil
    go_simp
    go_at_call 104
    refine (HM1.out _ (by exact S1.out.1)).mono ?_
    rintro e w2 ⟨rfl, bb⟩
    have S2 := Lib.hid (S1.out.go bb)
    (first | done | go_wp2_with fail)
    refine hK.out _ _ (KW.out _ _ (Wr.of_below bb (Nat.le_refl _)) (by assumption)) (fun hHeld4 => ?_)
    clear hK K bb S1
    refine wpAnyH_take (i := 5) (v := ?_) rfl (by kernel_rfl) (by kernel_rfl) (by kernel_rfl) (fun _ _ _ h => h) (Or.inl ⟨by rfl, ?_⟩) (by assumption) ?_
    rotate_left
    · (intro W hSw; (try dsimp only at hSw); go_simp <;> with_reducible rfl)
    (try simp only [Act.put, List.getElem_toArray, List.getElem_cons_succ, List.getElem_cons_zero, List.setIfInBounds_toArray, List.set_cons_succ, List.set_cons_zero])
    refine wpAnyH_take (i := 8) (v := ?_) rfl (by kernel_rfl) (by kernel_rfl) (by kernel_rfl) (fun _ _ _ h => h) (Or.inl ⟨by rfl, ?_⟩) (by assumption) ?_
    rotate_left
    · (intro W hSw; (try dsimp only at hSw); go_simp <;> with_reducible rfl)
    (try simp only [Act.put, List.getElem_toArray, List.getElem_cons_succ, List.getElem_cons_zero, List.setIfInBounds_toArray, List.set_cons_succ, List.set_cons_zero])
    refine wpAnyH_take (i := 9) (v := ?_) rfl (by kernel_rfl) (by kernel_rfl) (by kernel_rfl) (fun _ _ _ h => h) (Or.inl ⟨by rfl, ?_⟩) (by assumption) ?_
    rotate_left
    · (intro W hSw; (try dsimp only at hSw); go_simp <;> with_reducible rfl)
    (try simp only [Act.put, List.getElem_toArray, List.getElem_cons_succ, List.getElem_cons_zero, List.setIfInBounds_toArray, List.set_cons_succ, List.set_cons_zero])
    refine wpAnyH_take (i := 10) (v := ?_) rfl (by kernel_rfl) (by kernel_rfl) (by kernel_rfl) (fun _ _ _ h => h) (Or.inl ⟨by rfl, ?_⟩) (by assumption) ?_
    rotate_left
    · (intro W hSw; (try dsimp only at hSw); go_simp <;> with_reducible rfl)
    (try simp only [Act.put, List.getElem_toArray, List.getElem_cons_succ, List.getElem_cons_zero, List.setIfInBounds_toArray, List.set_cons_succ, List.set_cons_zero])
    refine wpAnyH_take (i := 11) (v := ?_) rfl (by kernel_rfl) (by kernel_rfl) (by kernel_rfl) (fun _ _ _ h => h) (Or.inl ⟨by rfl, ?_⟩) (by assumption) ?_
    rotate_left
    · (intro W hSw; (try dsimp only at hSw); go_simp <;> with_reducible rfl)
    (try simp only [Act.put, List.getElem_toArray, List.getElem_cons_succ, List.getElem_cons_zero, List.setIfInBounds_toArray, List.set_cons_succ, List.set_cons_zero])
    refine wpAnyH_take (i := 12) (v := ?_) rfl (by kernel_rfl) (by kernel_rfl) (by kernel_rfl) (fun _ _ _ h => h) (Or.inl ⟨by rfl, ?_⟩) (by assumption) ?_
    rotate_left
    · (intro W hSw; (try dsimp only at hSw); go_simp <;> with_reducible rfl)
    (try simp only [Act.put, List.getElem_toArray, List.getElem_cons_succ, List.getElem_cons_zero, List.setIfInBounds_toArray, List.set_cons_succ, List.set_cons_zero])
    refine wpAnyH_take (i := 13) (v := ?_) rfl (by kernel_rfl) (by kernel_rfl) (by kernel_rfl) (fun _ _ _ h => h) (Or.inl ⟨by rfl, ?_⟩) (by assumption) ?_
    rotate_left
    · (intro W hSw; (try dsimp only at hSw); go_simp <;> with_reducible rfl)
    (try simp only [Act.put, List.getElem_toArray, List.getElem_cons_succ, List.getElem_cons_zero, List.setIfInBounds_toArray, List.set_cons_succ, List.set_cons_zero])
    refine wpAnyH_take (i := 14) (v := ?_) rfl (by kernel_rfl) (by kernel_rfl) (by kernel_rfl) (fun _ _ _ h => h) (Or.inl ⟨by rfl, ?_⟩) (by assumption) ?_
    rotate_left
    · (intro W hSw; (try dsimp only at hSw); go_simp <;> with_reducible rfl)
    (try simp only [Act.put, List.getElem_toArray, List.getElem_cons_succ, List.getElem_cons_zero, List.setIfInBounds_toArray, List.set_cons_succ, List.set_cons_zero])
    refine wpAnyH_take (i := 15) (v := ?_) rfl (by kernel_rfl) (by kernel_rfl) (by kernel_rfl) (fun _ _ _ h => h) (Or.inl ⟨by rfl, ?_⟩) (by assumption) ?_
    rotate_left
    · (intro W hSw; (try dsimp only at hSw); go_simp <;> with_reducible rfl)
    (try simp only [Act.put, List.getElem_toArray, List.getElem_cons_succ, List.getElem_cons_zero, List.setIfInBounds_toArray, List.set_cons_succ, List.set_cons_zero])
    refine wpAnyH_take (i := 18) (v := ?_) rfl (by kernel_rfl) (by kernel_rfl) (by kernel_rfl) (fun _ _ _ h => h) (Or.inl ⟨by rfl, ?_⟩) (by assumption) ?_
    rotate_left
    · (intro W hSw; (try dsimp only at hSw); go_simp <;> with_reducible rfl)
    (try simp only [Act.put, List.getElem_toArray, List.getElem_cons_succ, List.getElem_cons_zero, List.setIfInBounds_toArray, List.set_cons_succ, List.set_cons_zero])
    refine wpAnyH_take (i := 19) (v := ?_) rfl (by kernel_rfl) (by kernel_rfl) (by kernel_rfl) (fun _ _ _ h => h) (Or.inl ⟨by rfl, ?_⟩) (by assumption) ?_
    rotate_left
    · (intro W hSw; (try dsimp only at hSw); go_simp <;> with_reducible rfl)
    (try simp only [Act.put, List.getElem_toArray, List.getElem_cons_succ, List.getElem_cons_zero, List.setIfInBounds_toArray, List.set_cons_succ, List.set_cons_zero])
    refine wpAnyH_ready (rs := [16]) (by kernel_rfl) (by simp) ?_
    refine AllReadyH.cons rfl (fun K hK => ?_) AllReadyH.nil
    go_simp
    go_at_call 104
    refine (HM2.out _ (by exact S2.out.1)).mono ?_
    rintro e w3 ⟨rfl, bb⟩
    have S3 := Lib.hid (S2.out.go bb)
    (first | done | go_wp2_with fail)
    refine hK.out _ _ (KW.out _ _ (Wr.of_below bb (Nat.le_refl _)) (by assumption)) (fun hHeld16 => ?_)
    clear hK K bb S2
    refine wpAnyH_take (i := 17) (v := ?_) rfl (by kernel_rfl) (by kernel_rfl) (by kernel_rfl) (fun _ _ _ h => h) (Or.inl ⟨by rfl, ?_⟩) (by assumption) ?_
    rotate_left
    · (intro W hSw; (try dsimp only at hSw); go_simp <;> with_reducible rfl)
    (try simp only [Act.put, List.getElem_toArray, List.getElem_cons_succ, List.getElem_cons_zero, List.setIfInBounds_toArray, List.set_cons_succ, List.set_cons_zero])
    refine wpAnyH_take (i := 20) (v := ?_) rfl (by kernel_rfl) (by kernel_rfl) (by kernel_rfl) (fun _ _ _ h => h) (Or.inl ⟨by rfl, ?_⟩) (by assumption) ?_
    rotate_left
    · (intro W hSw; (try dsimp only at hSw); go_simp <;> with_reducible rfl)
    (try simp only [Act.put, List.getElem_toArray, List.getElem_cons_succ, List.getElem_cons_zero, List.setIfInBounds_toArray, List.set_cons_succ, List.set_cons_zero])
    refine wpAnyH_take (i := 21) (v := ?_) rfl (by kernel_rfl) (by kernel_rfl) (by kernel_rfl) (fun _ _ _ h => h) (Or.inl ⟨by rfl, ?_⟩) (by assumption) ?_
    rotate_left
    · (intro W hSw; (try dsimp only at hSw); go_simp <;> with_reducible rfl)
    (try simp only [Act.put, List.getElem_toArray, List.getElem_cons_succ, List.getElem_cons_zero, List.setIfInBounds_toArray, List.set_cons_succ, List.set_cons_zero])
    refine wpAnyH_take (i := 22) (v := ?_) rfl (by kernel_rfl) (by kernel_rfl) (by kernel_rfl) (fun _ _ _ h => h) (Or.inl ⟨by rfl, ?_⟩) (by assumption) ?_
    rotate_left
    · (intro W hSw; (try dsimp only at hSw); go_simp <;> with_reducible rfl)
    (try simp only [Act.put, List.getElem_toArray, List.getElem_cons_succ, List.getElem_cons_zero, List.setIfInBounds_toArray, List.set_cons_succ, List.set_cons_zero])
    refine wpAnyH_take (i := 23) (v := ?_) rfl (by kernel_rfl) (by kernel_rfl) (by kernel_rfl) (fun _ _ _ h => h) (Or.inl ⟨by rfl, ?_⟩) (by assumption) ?_
    rotate_left
    · (intro W hSw; (try dsimp only at hSw); go_simp <;> with_reducible rfl)
    (try simp only [Act.put, List.getElem_toArray, List.getElem_cons_succ, List.getElem_cons_zero, List.setIfInBounds_toArray, List.set_cons_succ, List.set_cons_zero])
    refine wpAnyH_done (by kernel_rfl) ?_ _
    clear hHeld hHeld4 hHeld16 CE INIT KW
    go_wp2
    go_ret
    exact ⟨ret_bZ HP.out.symm, S3.out.1⟩
  have t2 : (ub == 0) = false := by simpa using hub
  have P5 := Lib.hid (P4'.out hub)
  clear P4' P2 hub
  have CE := Lib.hid (fun (W : World) (h : Wr [] wv.drew W) => show Hid (Wr [] wv.drew W) ∧ W.cell? ⟨w.heap.size, 0, none⟩ = some (.int .i64 p.dl) ∧ W.cell? ⟨w.heap.size, 1, none⟩ = some (.slice A1 p.acts.length c1) ∧ W.cell? ⟨w.heap.size, 2, none⟩ = some (.slice A2 p.lks.length c2) ∧ W.cell? ⟨w.heap.size, 3, none⟩ = some (.slice A3 p.ress.length c3) ∧ W.cell? ⟨w.heap.size, 4, none⟩ = some (.slice A4 p.stk.length c4) ∧ W.cell? ⟨w.heap.size + 1, 0, none⟩ = some (.slice E1 s.st.length f1) ∧ W.cell? ⟨w.heap.size + 1, 1, none⟩ = some (.slice E2 s.mo.length f2) ∧ W.cell? ⟨w.heap.size + 1 + 1, 1, none⟩ = some (.int .i64 (r : Int)) ∧ W.cell? ⟨w.heap.size + 1 + 1, 2, none⟩ = some (.int .i64 (a : Int)) ∧ W.cell? ⟨w.heap.size + 1 + 1, 3, none⟩ = some (.int .i64 (b : Int)) ∧ W.cell? ⟨b7, o7 + r, none⟩ = some (.int .i64 ua) ∧ W.cell? ⟨b9, o9 + r, none⟩ = some (.int .i64 ub) from ⟨Lib.hid h, (wr_cell h (p := ⟨w.heap.size, 0, none⟩) hl2 (by simp)).trans (by exact by simpa using p0), (wr_cell h (p := ⟨w.heap.size, 1, none⟩) hl2 (by simp)).trans (by exact by simpa using p1), (wr_cell h (p := ⟨w.heap.size, 2, none⟩) hl2 (by simp)).trans (by exact by simpa using p2), (wr_cell h (p := ⟨w.heap.size, 3, none⟩) hl2 (by simp)).trans (by exact by simpa using p3), (wr_cell h (p := ⟨w.heap.size, 4, none⟩) hl2 (by simp)).trans (by exact by simpa using p4), (wr_cell h (p := ⟨w.heap.size + 1, 0, none⟩) hl1 (by simp)).trans (by exact by simpa using q0), (wr_cell h (p := ⟨w.heap.size + 1, 1, none⟩) hl1 (by simp)).trans (by exact by simpa using q1), (wr_cell h (p := ⟨w.heap.size + 1 + 1, 1, none⟩) hl0 (by simp)).trans (by exact by simpa using e1), (wr_cell h (p := ⟨w.heap.size + 1 + 1, 2, none⟩) hl0 (by simp)).trans (by exact by simpa using e2), (wr_cell h (p := ⟨w.heap.size + 1 + 1, 3, none⟩) hl0 (by simp)).trans (by exact by simpa using e3), (wr_cell h (p := ⟨b7, o7 + r, none⟩) hb7' (by simp)).trans (by exact by simpa using z7), (wr_cell h (p := ⟨b9, o9 + r, none⟩) hb9' (by simp)).trans (by exact by simpa using z9)⟩)
  have INIT := Lib.hid (CE.out _ (Wr.refl _ _))
  have KW := Lib.hid (fun (W2 W : World) (hb : Wr [] W W2) (h : Hid (Wr [] wv.drew W) ∧ W.cell? ⟨w.heap.size, 0, none⟩ = some (.int .i64 p.dl) ∧ W.cell? ⟨w.heap.size, 1, none⟩ = some (.slice A1 p.acts.length c1) ∧ W.cell? ⟨w.heap.size, 2, none⟩ = some (.slice A2 p.lks.length c2) ∧ W.cell? ⟨w.heap.size, 3, none⟩ = some (.slice A3 p.ress.length c3) ∧ W.cell? ⟨w.heap.size, 4, none⟩ = some (.slice A4 p.stk.length c4) ∧ W.cell? ⟨w.heap.size + 1, 0, none⟩ = some (.slice E1 s.st.length f1) ∧ W.cell? ⟨w.heap.size + 1, 1, none⟩ = some (.slice E2 s.mo.length f2) ∧ W.cell? ⟨w.heap.size + 1 + 1, 1, none⟩ = some (.int .i64 (r : Int)) ∧ W.cell? ⟨w.heap.size + 1 + 1, 2, none⟩ = some (.int .i64 (a : Int)) ∧ W.cell? ⟨w.heap.size + 1 + 1, 3, none⟩ = some (.int .i64 (b : Int)) ∧ W.cell? ⟨b7, o7 + r, none⟩ = some (.int .i64 ua) ∧ W.cell? ⟨b9, o9 + r, none⟩ = some (.int .i64 ub)) => CE.out W2 (h.1.out.trans hb))
  clear p0 p1 p2 p3 p4 pf q0 q1 qf e0 e1 e2 e3 ef z7 z9
  refine wp_region_held_drew (S := fun W => Hid (Wr [] wv.drew W) ∧ W.cell? ⟨w.heap.size, 0, none⟩ = some (.int .i64 p.dl) ∧ W.cell? ⟨w.heap.size, 1, none⟩ = some (.slice A1 p.acts.length c1) ∧ W.cell? ⟨w.heap.size, 2, none⟩ = some (.slice A2 p.lks.length c2) ∧ W.cell? ⟨w.heap.size, 3, none⟩ = some (.slice A3 p.ress.length c3) ∧ W.cell? ⟨w.heap.size, 4, none⟩ = some (.slice A4 p.stk.length c4) ∧ W.cell? ⟨w.heap.size + 1, 0, none⟩ = some (.slice E1 s.st.length f1) ∧ W.cell? ⟨w.heap.size + 1, 1, none⟩ = some (.slice E2 s.mo.length f2) ∧ W.cell? ⟨w.heap.size + 1 + 1, 1, none⟩ = some (.int .i64 (r : Int)) ∧ W.cell? ⟨w.heap.size + 1 + 1, 2, none⟩ = some (.int .i64 (a : Int)) ∧ W.cell? ⟨w.heap.size + 1 + 1, 3, none⟩ = some (.int .i64 (b : Int)) ∧ W.cell? ⟨b7, o7 + r, none⟩ = some (.int .i64 ua) ∧ W.cell? ⟨b9, o9 + r, none⟩ = some (.int .i64 ub)) (by kernel_rfl) INIT.out (fun hHeld => ?_)
  refine wpAnyH_take (i := 0) (v := ?_) rfl (by kernel_rfl) (by kernel_rfl) (by kernel_rfl) (fun _ _ _ h => h) (Or.inl ⟨by rfl, ?_⟩) (by assumption) ?_
  rotate_left
  · (intro W hSw; (try dsimp only at hSw); go_simp <;> with_reducible rfl)
  (try simp only [Act.put, List.getElem_toArray, List.getElem_cons_zero, List.setIfInBounds_toArray, List.set_cons_succ, List.set_cons_zero])
  refine wpAnyH_take (i := 1) (v := ?_) rfl (by kernel_rfl) (by kernel_rfl) (by kernel_rfl) (fun _ _ _ h => h) (Or.inl ⟨by rfl, ?_⟩) (by assumption) ?_
  rotate_left
  · (intro W hSw; (try dsimp only at hSw); go_simp <;> with_reducible rfl)
  (try simp only [Act.put, List.getElem_toArray, List.getElem_cons_succ, List.getElem_cons_zero, List.setIfInBounds_toArray, List.set_cons_succ, List.set_cons_zero])
  refine wpAnyH_take (i := 2) (v := ?_) rfl (by kernel_rfl) (by kernel_rfl) (by kernel_rfl) (fun _ _ _ h => h) (Or.inl ⟨by rfl, ?_⟩) (by assumption) ?_
  rotate_left
  · (intro W hSw; (try dsimp only at hSw); go_simp <;> with_reducible rfl)
  (try simp only [Act.put, List.getElem_toArray, List.getElem_cons_succ, List.getElem_cons_zero, List.setIfInBounds_toArray, List.set_cons_succ, List.set_cons_zero])
  refine wpAnyH_take (i := 3) (v := ?_) rfl (by kernel_rfl) (by kernel_rfl) (by kernel_rfl) (fun _ _ _ h => h) (Or.inl ⟨by rfl, ?_⟩) (by assumption) ?_
  rotate_left
  · (intro W hSw; (try dsimp only at hSw); go_simp <;> with_reducible rfl)
  (try simp only [Act.put, List.getElem_toArray, List.getElem_cons_succ, List.getElem_cons_zero, List.setIfInBounds_toArray, List.set_cons_succ, List.set_cons_zero])
  refine wpAnyH_take (i := 6) (v := ?_) rfl (by kernel_rfl) (by kernel_rfl) (by kernel_rfl) (fun _ _ _ h => h) (Or.inl ⟨by rfl, ?_⟩) (by assumption) ?_
  rotate_left
  · (intro W hSw; (try dsimp only at hSw); go_simp <;> with_reducible rfl)
  (try simp only [Act.put, List.getElem_toArray, List.getElem_cons_succ, List.getElem_cons_zero, List.setIfInBounds_toArray, List.set_cons_succ, List.set_cons_zero])
  refine wpAnyH_take (i := 7) (v := ?_) rfl (by kernel_rfl) (by kernel_rfl) (by kernel_rfl) (fun _ _ _ h => h) (Or.inl ⟨by rfl, ?_⟩) (by assumption) ?_
  rotate_left
  · (intro W hSw; (try dsimp only at hSw); go_simp <;> with_reducible rfl)
  (try simp only [Act.put, List.getElem_toArray, List.getElem_cons_succ, List.getElem_cons_zero, List.setIfInBounds_toArray, List.set_cons_succ, List.set_cons_zero])
  refine wpAnyH_ready (rs := [4]) (by kernel_rfl) (by simp) ?_
  refine AllReadyH.cons rfl (fun K hK => ?_) AllReadyH.nil
  go_simp
  go_at_call 104
  refine (HM1.out _ (by exact S1.out.1)).mono ?_
  rintro e w2 ⟨rfl, bb⟩
  have S2 := Lib.hid (S1.out.go bb)
  (first | done | go_wp2_with fail)
  refine hK.out _ _ (KW.out _ _ (Wr.of_below bb (Nat.le_refl _)) (by assumption)) (fun hHeld4 => ?_)
  clear hK K bb S1
  refine wpAnyH_take (i := 5) (v := ?_) rfl (by kernel_rfl) (by kernel_rfl) (by kernel_rfl) (fun _ _ _ h => h) (Or.inl ⟨by rfl, ?_⟩) (by assumption) ?_
  rotate_left
  · (intro W hSw; (try dsimp only at hSw); go_simp <;> with_reducible rfl)
  (try simp only [Act.put, List.getElem_toArray, List.getElem_cons_succ, List.getElem_cons_zero, List.setIfInBounds_toArray, List.set_cons_succ, List.set_cons_zero])
  refine wpAnyH_take (i := 8) (v := ?_) rfl (by kernel_rfl) (by kernel_rfl) (by kernel_rfl) (fun _ _ _ h => h) (Or.inl ⟨by rfl, ?_⟩) (by assumption) ?_
  rotate_left
  · (intro W hSw; (try dsimp only at hSw); go_simp <;> with_reducible rfl)
  (try simp only [Act.put, List.getElem_toArray, List.getElem_cons_succ, List.getElem_cons_zero, List.setIfInBounds_toArray, List.set_cons_succ, List.set_cons_zero])
  refine wpAnyH_take (i := 9) (v := ?_) rfl (by kernel_rfl) (by kernel_rfl) (by kernel_rfl) (fun _ _ _ h => h) (Or.inl ⟨by rfl, ?_⟩) (by assumption) ?_
  rotate_left
  · (intro W hSw; (try dsimp only at hSw); go_simp <;> with_reducible rfl)
  (try simp only [Act.put, List.getElem_toArray, List.getElem_cons_succ, List.getElem_cons_zero, List.setIfInBounds_toArray, List.set_cons_succ, List.set_cons_zero])
  refine wpAnyH_take (i := 10) (v := ?_) rfl (by kernel_rfl) (by kernel_rfl) (by kernel_rfl) (fun _ _ _ h => h) (Or.inl ⟨by rfl, ?_⟩) (by assumption) ?_
  rotate_left
  · (intro W hSw; (try dsimp only at hSw); go_simp <;> with_reducible rfl)
  (try simp only [Act.put, List.getElem_toArray, List.getElem_cons_succ, List.getElem_cons_zero, List.setIfInBounds_toArray, List.set_cons_succ, List.set_cons_zero])
  refine wpAnyH_take (i := 11) (v := ?_) rfl (by kernel_rfl) (by kernel_rfl) (by kernel_rfl) (fun _ _ _ h => h) (Or.inl ⟨by rfl, ?_⟩) (by assumption) ?_
  rotate_left
  · (intro W hSw; (try dsimp only at hSw); go_simp <;> with_reducible rfl)
  (try simp only [Act.put, List.getElem_toArray, List.getElem_cons_succ, List.getElem_cons_zero, List.setIfInBounds_toArray, List.set_cons_succ, List.set_cons_zero])
  refine wpAnyH_take (i := 12) (v := ?_) rfl (by kernel_rfl) (by kernel_rfl) (by kernel_rfl) (fun _ _ _ h => h) (Or.inl ⟨by rfl, ?_⟩) (by assumption) ?_
  rotate_left
  · (intro W hSw; (try dsimp only at hSw); go_simp <;> with_reducible rfl)
  (try simp only [Act.put, List.getElem_toArray, List.getElem_cons_succ, List.getElem_cons_zero, List.setIfInBounds_toArray, List.set_cons_succ, List.set_cons_zero])
  refine wpAnyH_take (i := 13) (v := ?_) rfl (by kernel_rfl) (by kernel_rfl) (by kernel_rfl) (fun _ _ _ h => h) (Or.inl ⟨by rfl, ?_⟩) (by assumption) ?_
  rotate_left
  · (intro W hSw; (try dsimp only at hSw); go_simp <;> with_reducible rfl)
  (try simp only [Act.put, List.getElem_toArray, List.getElem_cons_succ, List.getElem_cons_zero, List.setIfInBounds_toArray, List.set_cons_succ, List.set_cons_zero])
  refine wpAnyH_take (i := 14) (v := ?_) rfl (by kernel_rfl) (by kernel_rfl) (by kernel_rfl) (fun _ _ _ h => h) (Or.inl ⟨by rfl, ?_⟩) (by assumption) ?_
  rotate_left
  · (intro W hSw; (try dsimp only at hSw); go_simp <;> with_reducible rfl)
  (try simp only [Act.put, List.getElem_toArray, List.getElem_cons_succ, List.getElem_cons_zero, List.setIfInBounds_toArray, List.set_cons_succ, List.set_cons_zero])
  refine wpAnyH_take (i := 15) (v := ?_) rfl (by kernel_rfl) (by kernel_rfl) (by kernel_rfl) (fun _ _ _ h => h) (Or.inl ⟨by rfl, ?_⟩) (by assumption) ?_
  rotate_left
  · (intro W hSw; (try dsimp only at hSw); go_simp <;> with_reducible rfl)
  (try simp only [Act.put, List.getElem_toArray, List.getElem_cons_succ, List.getElem_cons_zero, List.setIfInBounds_toArray, List.set_cons_succ, List.set_cons_zero])
  refine wpAnyH_take (i := 18) (v := ?_) rfl (by kernel_rfl) (by kernel_rfl) (by kernel_rfl) (fun _ _ _ h => h) (Or.inl ⟨by rfl, ?_⟩) (by assumption) ?_
  rotate_left
  · (intro W hSw; (try dsimp only at hSw); go_simp <;> with_reducible rfl)
  (try simp only [Act.put, List.getElem_toArray, List.getElem_cons_succ, List.getElem_cons_zero, List.setIfInBounds_toArray, List.set_cons_succ, List.set_cons_zero])
  refine wpAnyH_take (i := 19) (v := ?_) rfl (by kernel_rfl) (by kernel_rfl) (by kernel_rfl) (fun _ _ _ h => h) (Or.inl ⟨by rfl, ?_⟩) (by assumption) ?_
  rotate_left
  · (intro W hSw; (try dsimp only at hSw); go_simp <;> with_reducible rfl)
  (try simp only [Act.put, List.getElem_toArray, List.getElem_cons_succ, List.getElem_cons_zero, List.setIfInBounds_toArray, List.set_cons_succ, List.set_cons_zero])
  refine wpAnyH_ready (rs := [16]) (by kernel_rfl) (by simp) ?_
  refine AllReadyH.cons rfl (fun K hK => ?_) AllReadyH.nil
  go_simp
  go_at_call 104
  refine (HM2.out _ (by exact S2.out.1)).mono ?_
  rintro e w3 ⟨rfl, bb⟩
  have S3 := Lib.hid (S2.out.go bb)
  (first | done | go_wp2_with fail)
  refine hK.out _ _ (KW.out _ _ (Wr.of_below bb (Nat.le_refl _)) (by assumption)) (fun hHeld16 => ?_)
  clear hK K bb S2
  refine wpAnyH_take (i := 17) (v := ?_) rfl (by kernel_rfl) (by kernel_rfl) (by kernel_rfl) (fun _ _ _ h => h) (Or.inl ⟨by rfl, ?_⟩) (by assumption) ?_
  rotate_left
  · (intro W hSw; (try dsimp only at hSw); go_simp <;> with_reducible rfl)
  (try simp only [Act.put, List.getElem_toArray, List.getElem_cons_succ, List.getElem_cons_zero, List.setIfInBounds_toArray, List.set_cons_succ, List.set_cons_zero])
  refine wpAnyH_take (i := 20) (v := ?_) rfl (by kernel_rfl) (by kernel_rfl) (by kernel_rfl) (fun _ _ _ h => h) (Or.inl ⟨by rfl, ?_⟩) (by assumption) ?_
  rotate_left
  · (intro W hSw; (try dsimp only at hSw); go_simp <;> with_reducible rfl)
  (try simp only [Act.put, List.getElem_toArray, List.getElem_cons_succ, List.getElem_cons_zero, List.setIfInBounds_toArray, List.set_cons_succ, List.set_cons_zero])
  refine wpAnyH_take (i := 21) (v := ?_) rfl (by kernel_rfl) (by kernel_rfl) (by kernel_rfl) (fun _ _ _ h => h) (Or.inl ⟨by rfl, ?_⟩) (by assumption) ?_
  rotate_left
  · (intro W hSw; (try dsimp only at hSw); go_simp <;> with_reducible rfl)
  (try simp only [Act.put, List.getElem_toArray, List.getElem_cons_succ, List.getElem_cons_zero, List.setIfInBounds_toArray, List.set_cons_succ, List.set_cons_zero])
  refine wpAnyH_take (i := 22) (v := ?_) rfl (by kernel_rfl) (by kernel_rfl) (by kernel_rfl) (fun _ _ _ h => h) (Or.inl ⟨by rfl, ?_⟩) (by assumption) ?_
  rotate_left
  · (intro W hSw; (try dsimp only at hSw); go_simp <;> with_reducible rfl)
  (try simp only [Act.put, List.getElem_toArray, List.getElem_cons_succ, List.getElem_cons_zero, List.setIfInBounds_toArray, List.set_cons_succ, List.set_cons_zero])
  refine wpAnyH_take (i := 23) (v := ?_) rfl (by kernel_rfl) (by kernel_rfl) (by kernel_rfl) (fun _ _ _ h => h) (Or.inl ⟨by rfl, ?_⟩) (by assumption) ?_
  rotate_left
  · (intro W hSw; (try dsimp only at hSw); go_simp <;> with_reducible rfl)
  (try simp only [Act.put, List.getElem_toArray, List.getElem_cons_succ, List.getElem_cons_zero, List.setIfInBounds_toArray, List.set_cons_succ, List.set_cons_zero])
  refine wpAnyH_done (by kernel_rfl) ?_ _
  clear hHeld hHeld4 hHeld16 CE INIT KW
  obtain ⟨p0, p1, p2, p3, p4, pf⟩ := (S3.out.bk 2 rfl).c5
  obtain ⟨q0, q1, qf⟩ := (S3.out.bk 1 rfl).c2
  obtain ⟨e0, e1, e2, e3, ef⟩ := (S3.out.bk 0 rfl).c4
  go_wp2_with fail
  clear p0 p1 p2 p3 p4 pf
  clear q0 q1 qf
  clear e0 e1 e2 e3 ef
  refine (specAhead_any p s r a b _ _ _ (by exact S3.out.old HV.out) (by exact S3.out.old HQ.out) HF.out HM.out hr ha hb).mono ?_
  rintro e w4 ⟨rfl, b⟩
  have S4 := Lib.hid (S3.out.go b)
  clear S3 b
  generalize aheadB p s r a b = x1 at P3 P5 ⊢
  rcases x1 with _ | _
  rotate_left
  · have HP := Lib.hid (P3.out rfl)
    go_wp2
    go_ret
    exact ⟨ret_bZ (by rw [HP.out]), S4.out.1⟩
  have P6 := Lib.hid (P5.out rfl)
  obtain ⟨p0, p1, p2, p3, p4, pf⟩ := (S4.out.bk 2 rfl).c5
  obtain ⟨q0, q1, qf⟩ := (S4.out.bk 1 rfl).c2
  obtain ⟨e0, e1, e2, e3, ef⟩ := (S4.out.bk 0 rfl).c4
  go_wp2_with fail
  clear p0 p1 p2 p3 p4 pf
  clear q0 q1 qf
  clear e0 e1 e2 e3 ef
  refine (specAhead_any p s r b a _ _ _ (by exact S4.out.old HV.out) (by exact S4.out.old HQ.out) HF.out HM.out hr hb ha).mono ?_
  rintro e w5 ⟨rfl, b⟩
  have S5 := Lib.hid (S4.out.go b)
  clear S4 b
  generalize aheadB p s r b a = x2 at P6 ⊢
  go_wp2
  go_ret
  exact ⟨ret_bZ (by rw [← P6.out]; simp), S5.out.1⟩
end Go.Proofs.YtaglfdkeomjpdaaGreat
