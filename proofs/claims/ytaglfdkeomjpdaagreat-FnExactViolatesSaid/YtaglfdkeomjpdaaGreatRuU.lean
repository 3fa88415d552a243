/- DERIVED. CONTRACTS of chapter 11, of the model: what each kind of rule asks (l10Fails). -/
import Derived.Test.YtaglfdkeomjpdaaGreatRuT
import Derived.Test.YtaglfdkeomjpdaaGreatRuY
import Derived.Test.YtaglfdkeomjpdaaGreatStpB
namespace Go.Proofs.YtaglfdkeomjpdaaGreat
open Go.RowKit Go.Shelf
set_option linter.unusedVariables false

set_option maxRecDepth 100000 in
set_option maxHeartbeats 8000000 in
theorem fail_fin (p : Pj) (s : Sc) (a : Nat) (v u : Value) (w : World) (hv : (trPj p).rd w v) (hs : (trSc s).rd w u) (hf : Form p s) (ha : a < p.acts.length) :
    Calls Tryz.prog 44 #[v, u, .agg #[.int .i64 2, .int .i64 (a : Int), .int .i64 0, .int .i64 0]] w fun e w' => e = .returned (.bool (failC p s (.fin (a : Int)))) ∧ Below w.heap.size w w' := by
  have HV := Lib.hid hv
  obtain ⟨A1, c1, A2, c2, A3, c3, A4, c4, rfl, r1, r2, r3, r4⟩ := rdProject_t hv
  clear hv
  have HQ := Lib.hid hs
  obtain ⟨E1, f1, E2, f2, rfl, q1, q2⟩ := rdSchedule_t hs
  obtain ⟨ht1, B8, d8, he, x1⟩ := rdI (rd_flat q1)
  injection he with he _ he2
  subst he he2
  have X1 := Lib.hid x1
  obtain ⟨ht2, B9, d9, he, x2⟩ := rdI (rd_flat q2)
  injection he with he _ he2
  subst he he2
  have X2 := Lib.hid x2
  clear hs q1 q2 x1 x2
  have S0 := Lib.hid ((((Sn.start w).box 36 [.int .i64 p.dl, .slice A1 p.acts.length c1, .slice A2 p.lks.length c2, .slice A3 p.ress.length c3, .slice A4 p.stk.length c4]).box 46 [.slice E1 s.st.length f1, .slice E2 s.mo.length f2]).box 38 [.int .i64 2, .int .i64 (a : Int), .int .i64 0, .int .i64 0])
  simp only [World.size_alloc] at S0
  go_enter Tryz.func44, Tryz.ntmps44
  have HF := Lib.hid hf
  have HR := Lib.hid (show failC p s (.fin (a : Int)) = decide (p.dl < endA p s a) from rfl)
  generalize failC p s (.fin (a : Int)) = fb at HR ⊢
  clear hf r1 r2 r3 r4
  go_wp2_with fail
  generalize World.alloc (World.alloc (World.alloc w _) _) _ = wv at S0 ⊢
  obtain ⟨p0, p1, p2, p3, p4, pf⟩ := (S0.out.bk 2 rfl).c5
  obtain ⟨q0, q1, qf⟩ := (S0.out.bk 1 rfl).c2
  obtain ⟨e0, e1, e2, e3, ef⟩ := (S0.out.bk 0 rfl).c4
  have hl0 := (S0.out.bk 0 rfl).lt
  have hl1 := (S0.out.bk 1 rfl).lt
  have hl2 := (S0.out.bk 2 rfl).lt
  have hsz := S0.out.1.size
  have S1 := Lib.hid S0.out.drew1
  have CE := Lib.hid (fun (W : World) (h : Wr [] wv.drew W) => show Hid (Wr [] wv.drew W) ∧ W.cell? ⟨w.heap.size, 0, none⟩ = some (.int .i64 p.dl) ∧ W.cell? ⟨w.heap.size, 1, none⟩ = some (.slice A1 p.acts.length c1) ∧ W.cell? ⟨w.heap.size, 2, none⟩ = some (.slice A2 p.lks.length c2) ∧ W.cell? ⟨w.heap.size, 3, none⟩ = some (.slice A3 p.ress.length c3) ∧ W.cell? ⟨w.heap.size, 4, none⟩ = some (.slice A4 p.stk.length c4) ∧ W.cell? ⟨w.heap.size + 1, 0, none⟩ = some (.slice E1 s.st.length f1) ∧ W.cell? ⟨w.heap.size + 1, 1, none⟩ = some (.slice E2 s.mo.length f2) ∧ W.cell? ⟨w.heap.size + 1 + 1, 1, none⟩ = some (.int .i64 (a : Int)) ∧ W.cell? ⟨w.heap.size + 1 + 1, 2, none⟩ = some (.int .i64 0) ∧ W.cell? ⟨w.heap.size + 1 + 1, 3, none⟩ = some (.int .i64 0) from ⟨Lib.hid h, (wr_cell h (p := ⟨w.heap.size, 0, none⟩) hl2 (by simp)).trans (by exact by simpa using p0), (wr_cell h (p := ⟨w.heap.size, 1, none⟩) hl2 (by simp)).trans (by exact by simpa using p1), (wr_cell h (p := ⟨w.heap.size, 2, none⟩) hl2 (by simp)).trans (by exact by simpa using p2), (wr_cell h (p := ⟨w.heap.size, 3, none⟩) hl2 (by simp)).trans (by exact by simpa using p3), (wr_cell h (p := ⟨w.heap.size, 4, none⟩) hl2 (by simp)).trans (by exact by simpa using p4), (wr_cell h (p := ⟨w.heap.size + 1, 0, none⟩) hl1 (by simp)).trans (by exact by simpa using q0), (wr_cell h (p := ⟨w.heap.size + 1, 1, none⟩) hl1 (by simp)).trans (by exact by simpa using q1), (wr_cell h (p := ⟨w.heap.size + 1 + 1, 1, none⟩) hl0 (by simp)).trans (by exact by simpa using e1), (wr_cell h (p := ⟨w.heap.size + 1 + 1, 2, none⟩) hl0 (by simp)).trans (by exact by simpa using e2), (wr_cell h (p := ⟨w.heap.size + 1 + 1, 3, none⟩) hl0 (by simp)).trans (by exact by simpa using e3)⟩)
  have INIT := Lib.hid (CE.out _ (Wr.refl _ _))
  have KW := Lib.hid (fun (W2 W : World) (hb : Wr [] W W2) (h : Hid (Wr [] wv.drew W) ∧ W.cell? ⟨w.heap.size, 0, none⟩ = some (.int .i64 p.dl) ∧ W.cell? ⟨w.heap.size, 1, none⟩ = some (.slice A1 p.acts.length c1) ∧ W.cell? ⟨w.heap.size, 2, none⟩ = some (.slice A2 p.lks.length c2) ∧ W.cell? ⟨w.heap.size, 3, none⟩ = some (.slice A3 p.ress.length c3) ∧ W.cell? ⟨w.heap.size, 4, none⟩ = some (.slice A4 p.stk.length c4) ∧ W.cell? ⟨w.heap.size + 1, 0, none⟩ = some (.slice E1 s.st.length f1) ∧ W.cell? ⟨w.heap.size + 1, 1, none⟩ = some (.slice E2 s.mo.length f2) ∧ W.cell? ⟨w.heap.size + 1 + 1, 1, none⟩ = some (.int .i64 (a : Int)) ∧ W.cell? ⟨w.heap.size + 1 + 1, 2, none⟩ = some (.int .i64 0) ∧ W.cell? ⟨w.heap.size + 1 + 1, 3, none⟩ = some (.int .i64 0)) => CE.out W2 (h.1.out.trans hb))
  clear p0 p1 p2 p3 p4 pf q0 q1 qf e0 e1 e2 e3 ef
  go_region_held3 (fun W => Hid (Wr [] wv.drew W) ∧ W.cell? ⟨w.heap.size, 0, none⟩ = some (.int .i64 p.dl) ∧ W.cell? ⟨w.heap.size, 1, none⟩ = some (.slice A1 p.acts.length c1) ∧ W.cell? ⟨w.heap.size, 2, none⟩ = some (.slice A2 p.lks.length c2) ∧ W.cell? ⟨w.heap.size, 3, none⟩ = some (.slice A3 p.ress.length c3) ∧ W.cell? ⟨w.heap.size, 4, none⟩ = some (.slice A4 p.stk.length c4) ∧ W.cell? ⟨w.heap.size + 1, 0, none⟩ = some (.slice E1 s.st.length f1) ∧ W.cell? ⟨w.heap.size + 1, 1, none⟩ = some (.slice E2 s.mo.length f2) ∧ W.cell? ⟨w.heap.size + 1 + 1, 1, none⟩ = some (.int .i64 (a : Int)) ∧ W.cell? ⟨w.heap.size + 1 + 1, 2, none⟩ = some (.int .i64 0) ∧ W.cell? ⟨w.heap.size + 1 + 1, 3, none⟩ = some (.int .i64 0)) (first | exact INIT.out | exact KW.out _ _ (by assumption) (by assumption) | exact KW.out _ _ (Wr.of_below (by assumption) (Nat.le_refl _)) (by assumption) | exact KW.out _ _ (Wr.of_below ((Below.refl _ _).alloc (Nat.le_refl _) _) (Nat.le_refl _)) (by assumption))
    ((go_at_call 68; refine (specEnd_any p s a _ _ _ (by exact S1.out.old HV.out) (by exact S1.out.old HQ.out) HF.out ha).mono ?_; rintro e w5 ⟨rfl, b⟩; have S2 := Lib.hid (S1.out.go b)))
  rename_i hHeld
  clear hHeld CE INIT KW S1 b
  go_wp2
  go_ret
  exact ⟨ret_bZ HR.out.symm, S2.out.1⟩

set_option maxRecDepth 100000 in
set_option maxHeartbeats 8000000 in
theorem fail_stk (p : Pj) (s : Sc) (a : Nat) (v u : Value) (w : World) (hv : (trPj p).rd w v) (hk : (trPj p).ok) (hs : (trSc s).rd w u) (hf : formB p s = true) (ha : a < p.stk.length) :
    Calls Tryz.prog 44 #[v, u, .agg #[.int .i64 6, .int .i64 (a : Int), .int .i64 0, .int .i64 0]] w fun e w' => e = .returned (.bool (failC p s (.stk (a : Int)))) ∧ Below w.heap.size w w' := by
  have HK := Lib.hid hk
  have HV := Lib.hid hv
  obtain ⟨A1, c1, A2, c2, A3, c3, A4, c4, rfl, r1, r2, r3, r4⟩ := rdProject_t hv
  clear hv
  have HQ := Lib.hid hs
  obtain ⟨E1, f1, E2, f2, rfl, q1, q2⟩ := rdSchedule_t hs
  obtain ⟨ht1, B8, d8, he, x1⟩ := rdI (rd_flat q1)
  injection he with he _ he2
  subst he he2
  have X1 := Lib.hid x1
  obtain ⟨ht2, B9, d9, he, x2⟩ := rdI (rd_flat q2)
  injection he with he _ he2
  subst he he2
  have X2 := Lib.hid x2
  clear hs q1 q2 x1 x2
  have S0 := Lib.hid ((((Sn.start w).box 36 [.int .i64 p.dl, .slice A1 p.acts.length c1, .slice A2 p.lks.length c2, .slice A3 p.ress.length c3, .slice A4 p.stk.length c4]).box 46 [.slice E1 s.st.length f1, .slice E2 s.mo.length f2]).box 38 [.int .i64 6, .int .i64 (a : Int), .int .i64 0, .int .i64 0])
  simp only [World.size_alloc] at S0
  go_enter Tryz.func44, Tryz.ntmps44
  obtain ⟨_, U4, u4, he, g4⟩ := rdI (rd_flat r4)
  injection he with he _ he2
  subst he he2
  obtain ⟨b4, o4, rfl, hb4, hc4⟩ := g4 a ha
  have hc4 := hc4 a ha
  rw [← skA_at] at hc4
  have HR := Lib.hid (show failC p s (.stk (a : Int)) = decide (skA p a < conB p s (a : Int)) from by rw [con_yes hf ha]; rfl)
  have ha' : (a : Int) < (p.stk.length : Int) := by omega
  have a0 : (0 : Int) ≤ (a : Int) := by omega
  generalize failC p s (.stk (a : Int)) = fb at HR ⊢
  clear hf hk g4 r1 r2 r3 r4
  go_wp2_with fail
  have y4 := (S0.out.1.cell (p := ⟨b4, o4 + a, none⟩) hb4).trans hc4
  generalize World.alloc (World.alloc (World.alloc w _) _) _ = wv at S0 y4 ⊢
  obtain ⟨p0, p1, p2, p3, p4, pf⟩ := (S0.out.bk 2 rfl).c5
  obtain ⟨q0, q1, qf⟩ := (S0.out.bk 1 rfl).c2
  obtain ⟨e0, e1, e2, e3, ef⟩ := (S0.out.bk 0 rfl).c4
  have hl0 := (S0.out.bk 0 rfl).lt
  have hl1 := (S0.out.bk 1 rfl).lt
  have hl2 := (S0.out.bk 2 rfl).lt
  have hsz := S0.out.1.size
  have hb4' : b4 < wv.heap.size := by omega
  have S1 := Lib.hid S0.out.drew1
  generalize skA p a = sk at y4 HR
  have CE := Lib.hid (fun (W : World) (h : Wr [] wv.drew W) => show Hid (Wr [] wv.drew W) ∧ W.cell? ⟨w.heap.size, 0, none⟩ = some (.int .i64 p.dl) ∧ W.cell? ⟨w.heap.size, 1, none⟩ = some (.slice A1 p.acts.length c1) ∧ W.cell? ⟨w.heap.size, 2, none⟩ = some (.slice A2 p.lks.length c2) ∧ W.cell? ⟨w.heap.size, 3, none⟩ = some (.slice A3 p.ress.length c3) ∧ W.cell? ⟨w.heap.size, 4, none⟩ = some (.slice (some ⟨b4, o4, none⟩) p.stk.length c4) ∧ W.cell? ⟨w.heap.size + 1, 0, none⟩ = some (.slice E1 s.st.length f1) ∧ W.cell? ⟨w.heap.size + 1, 1, none⟩ = some (.slice E2 s.mo.length f2) ∧ W.cell? ⟨w.heap.size + 1 + 1, 1, none⟩ = some (.int .i64 (a : Int)) ∧ W.cell? ⟨w.heap.size + 1 + 1, 2, none⟩ = some (.int .i64 0) ∧ W.cell? ⟨w.heap.size + 1 + 1, 3, none⟩ = some (.int .i64 0) ∧ W.cell? ⟨b4, o4 + a, none⟩ = some (.int .i64 sk) from ⟨Lib.hid h, (wr_cell h (p := ⟨w.heap.size, 0, none⟩) hl2 (by simp)).trans (by exact by simpa using p0), (wr_cell h (p := ⟨w.heap.size, 1, none⟩) hl2 (by simp)).trans (by exact by simpa using p1), (wr_cell h (p := ⟨w.heap.size, 2, none⟩) hl2 (by simp)).trans (by exact by simpa using p2), (wr_cell h (p := ⟨w.heap.size, 3, none⟩) hl2 (by simp)).trans (by exact by simpa using p3), (wr_cell h (p := ⟨w.heap.size, 4, none⟩) hl2 (by simp)).trans (by exact by simpa using p4), (wr_cell h (p := ⟨w.heap.size + 1, 0, none⟩) hl1 (by simp)).trans (by exact by simpa using q0), (wr_cell h (p := ⟨w.heap.size + 1, 1, none⟩) hl1 (by simp)).trans (by exact by simpa using q1), (wr_cell h (p := ⟨w.heap.size + 1 + 1, 1, none⟩) hl0 (by simp)).trans (by exact by simpa using e1), (wr_cell h (p := ⟨w.heap.size + 1 + 1, 2, none⟩) hl0 (by simp)).trans (by exact by simpa using e2), (wr_cell h (p := ⟨w.heap.size + 1 + 1, 3, none⟩) hl0 (by simp)).trans (by exact by simpa using e3), (wr_cell h (p := ⟨b4, o4 + a, none⟩) hb4' (by simp)).trans (by exact by simpa using y4)⟩)
  have INIT := Lib.hid (CE.out _ (Wr.refl _ _))
  have KW := Lib.hid (fun (W2 W : World) (hb : Wr [] W W2) (h : Hid (Wr [] wv.drew W) ∧ W.cell? ⟨w.heap.size, 0, none⟩ = some (.int .i64 p.dl) ∧ W.cell? ⟨w.heap.size, 1, none⟩ = some (.slice A1 p.acts.length c1) ∧ W.cell? ⟨w.heap.size, 2, none⟩ = some (.slice A2 p.lks.length c2) ∧ W.cell? ⟨w.heap.size, 3, none⟩ = some (.slice A3 p.ress.length c3) ∧ W.cell? ⟨w.heap.size, 4, none⟩ = some (.slice (some ⟨b4, o4, none⟩) p.stk.length c4) ∧ W.cell? ⟨w.heap.size + 1, 0, none⟩ = some (.slice E1 s.st.length f1) ∧ W.cell? ⟨w.heap.size + 1, 1, none⟩ = some (.slice E2 s.mo.length f2) ∧ W.cell? ⟨w.heap.size + 1 + 1, 1, none⟩ = some (.int .i64 (a : Int)) ∧ W.cell? ⟨w.heap.size + 1 + 1, 2, none⟩ = some (.int .i64 0) ∧ W.cell? ⟨w.heap.size + 1 + 1, 3, none⟩ = some (.int .i64 0) ∧ W.cell? ⟨b4, o4 + a, none⟩ = some (.int .i64 sk)) => CE.out W2 (h.1.out.trans hb))
  clear p0 p1 p2 p3 p4 pf q0 q1 qf e0 e1 e2 e3 ef y4 hc4
  go_region_held3 (fun W => Hid (Wr [] wv.drew W) ∧ W.cell? ⟨w.heap.size, 0, none⟩ = some (.int .i64 p.dl) ∧ W.cell? ⟨w.heap.size, 1, none⟩ = some (.slice A1 p.acts.length c1) ∧ W.cell? ⟨w.heap.size, 2, none⟩ = some (.slice A2 p.lks.length c2) ∧ W.cell? ⟨w.heap.size, 3, none⟩ = some (.slice A3 p.ress.length c3) ∧ W.cell? ⟨w.heap.size, 4, none⟩ = some (.slice (some ⟨b4, o4, none⟩) p.stk.length c4) ∧ W.cell? ⟨w.heap.size + 1, 0, none⟩ = some (.slice E1 s.st.length f1) ∧ W.cell? ⟨w.heap.size + 1, 1, none⟩ = some (.slice E2 s.mo.length f2) ∧ W.cell? ⟨w.heap.size + 1 + 1, 1, none⟩ = some (.int .i64 (a : Int)) ∧ W.cell? ⟨w.heap.size + 1 + 1, 2, none⟩ = some (.int .i64 0) ∧ W.cell? ⟨w.heap.size + 1 + 1, 3, none⟩ = some (.int .i64 0) ∧ W.cell? ⟨b4, o4 + a, none⟩ = some (.int .i64 sk)) (first | exact INIT.out | exact KW.out _ _ (by assumption) (by assumption) | exact KW.out _ _ (Wr.of_below (by assumption) (Nat.le_refl _)) (by assumption) | exact KW.out _ _ (Wr.of_below ((Below.refl _ _).alloc (Nat.le_refl _) _) (Nat.le_refl _)) (by assumption))
    ((go_at_call 73; refine (specConsumptionOf_any p s (a : Int) _ _ _ (by exact S1.out.old HV.out) HK.out (by exact S1.out.old HQ.out)).mono ?_; rintro e w5 ⟨rfl, b⟩; have S2 := Lib.hid (S1.out.go b)))
  rename_i hHeld
  clear hHeld CE INIT KW S1 b
  go_wp2
  go_ret
  exact ⟨ret_bZ HR.out.symm, S2.out.1⟩

set_option maxRecDepth 100000 in
set_option maxHeartbeats 8000000 in
theorem fail_par (p : Pj) (s : Sc) (r a b : Nat) (v u : Value) (w : World) (hv : (trPj p).rd w v) (hs : (trSc s).rd w u) (hf : Form p s) (hm : machB p (r : Int) = true) (hr : r < p.ress.length) (ha : a < p.acts.length) (hb : b < p.acts.length) :
    Calls Tryz.prog 44 #[v, u, .agg #[.int .i64 5, .int .i64 (r : Int), .int .i64 (a : Int), .int .i64 (b : Int)]] w fun e w' => e = .returned (.bool (failC p s (.par (r : Int) (a : Int) (b : Int)))) ∧ Below w.heap.size w w' := by
  have HR := Lib.hid (show failC p s (.par (r : Int) (a : Int) (b : Int)) = pairF p s r a b from rfl)
  generalize failC p s (.par (r : Int) (a : Int) (b : Int)) = fb at HR ⊢
  have HF := Lib.hid hf
  have HM := Lib.hid hm
  have HV := Lib.hid hv
  obtain ⟨A1, c1, A2, c2, A3, c3, A4, c4, rfl, r1, r2, r3, r4⟩ := rdProject_t hv
  clear hv
  have HQ := Lib.hid hs
  obtain ⟨E1, f1, E2, f2, rfl, q1, q2⟩ := rdSchedule_t hs
  obtain ⟨ht1, B8, d8, he, x1⟩ := rdI (rd_flat q1)
  injection he with he _ he2
  subst he he2
  have X1 := Lib.hid x1
  obtain ⟨ht2, B9, d9, he, x2⟩ := rdI (rd_flat q2)
  injection he with he _ he2
  subst he he2
  have X2 := Lib.hid x2
  clear hs q1 q2 x1 x2
  have S0 := Lib.hid ((((Sn.start w).box 36 [.int .i64 p.dl, .slice A1 p.acts.length c1, .slice A2 p.lks.length c2, .slice A3 p.ress.length c3, .slice A4 p.stk.length c4]).box 46 [.slice E1 s.st.length f1, .slice E2 s.mo.length f2]).box 38 [.int .i64 5, .int .i64 (r : Int), .int .i64 (a : Int), .int .i64 (b : Int)])
  simp only [World.size_alloc] at S0
  go_enter Tryz.func44, Tryz.ntmps44
  clear hf hm r1 r2 r3 r4
  go_wp2_with fail
  refine (specPair_any p s r a b _ _ _ (by exact S0.out.old HV.out) (by exact S0.out.old HQ.out) HF.out HM.out hr ha hb).mono ?_
  rintro e w1 ⟨rfl, b⟩
  have S1 := Lib.hid (S0.out.go b)
  clear S0 b
  go_wp2
  go_ret
  exact ⟨ret_bZ HR.out.symm, S1.out.1⟩

theorem timF_eq {p : Pj} {s : Sc} {r : Nat} {b : Int} (hr : r < p.ress.length) : failC p s (.tim (r : Int) b) = decide (atP p.ress[r].st b < useK p s r b p.acts.length) := by
  rw [← rsA_at hr]; rfl
theorem wrkF_eq {p : Pj} {s : Sc} {r : Nat} {b c : Int} (hf : Form p s) (hr : r < p.ress.length) (hb : 0 ≤ b ∧ b ≤ 60) (hc : 0 ≤ c ∧ c ≤ 60) : failC p s (.wrk (r : Int) b c) = decide (totalB p.ress[r].st b c < wrkT p s r b p.acts.length (c - b).toNat) := by
  rw [total_in (pok_st hf.ok hr) hb hc, ← rsA_at hr]; rfl


set_option maxRecDepth 100000 in
set_option maxHeartbeats 8000000 in
theorem fail_tim (p : Pj) (s : Sc) (r : Nat) (b : Int) (v u : Value) (w : World) (hv : (trPj p).rd w v) (hs : (trSc s).rd w u) (hf : Form p s) (hr : r < p.ress.length) :
    Calls Tryz.prog 44 #[v, u, .agg #[.int .i64 3, .int .i64 (r : Int), .int .i64 b, .int .i64 0]] w fun e w' => e = .returned (.bool (failC p s (.tim (r : Int) b))) ∧ Below w.heap.size w w' := by
  have HV := Lib.hid hv
  obtain ⟨A1, c1, A2, c2, A3, c3, A4, c4, rfl, r1, r2, r3, r4⟩ := rdProject_t hv
  clear hv
  have HQ := Lib.hid hs
  obtain ⟨E1, f1, E2, f2, rfl, q1, q2⟩ := rdSchedule_t hs
  obtain ⟨ht1, B8, d8, he, x1⟩ := rdI (rd_flat q1)
  injection he with he _ he2
  subst he he2
  have X1 := Lib.hid x1
  obtain ⟨ht2, B9, d9, he, x2⟩ := rdI (rd_flat q2)
  injection he with he _ he2
  subst he he2
  have X2 := Lib.hid x2
  clear hs q1 q2 x1 x2
  have S0 := Lib.hid ((((Sn.start w).box 36 [.int .i64 p.dl, .slice A1 p.acts.length c1, .slice A2 p.lks.length c2, .slice A3 p.ress.length c3, .slice A4 p.stk.length c4]).box 46 [.slice E1 s.st.length f1, .slice E2 s.mo.length f2]).box 38 [.int .i64 3, .int .i64 (r : Int), .int .i64 b, .int .i64 0])
  simp only [World.size_alloc] at S0
  go_enter Tryz.func44, Tryz.ntmps44
  obtain ⟨hl3, B3, d3, he, g3⟩ := rdResourceS_t r3
  injection he with he _ he2
  subst he he2
  obtain ⟨b3, o3, rfl, hb3, hc3⟩ := g3 r hr
  obtain ⟨U0, d0, U1, d1, y0, y1, ru, _⟩ := hc3 r hr
  have RU := Lib.hid ru
  have HF := Lib.hid hf
  have HR := Lib.hid (timF_eq (p := p) (s := s) (b := b) hr)
  have hr' : (r : Int) < (p.ress.length : Int) := by omega
  have r0 : (0 : Int) ≤ (r : Int) := by omega
  generalize failC p s (.tim (r : Int) b) = fb at HR ⊢
  clear hf r1 r2 r3 r4 g3 hc3 ru hl3
  go_wp2_with fail
  have z0 := (S0.out.1.cell (p := ⟨b3, o3 + r * 2, none⟩) hb3).trans y0
  generalize World.alloc (World.alloc (World.alloc w _) _) _ = wv at S0 z0 ⊢
  obtain ⟨p0, p1, p2, p3, p4, pf⟩ := (S0.out.bk 2 rfl).c5
  obtain ⟨q0, q1, qf⟩ := (S0.out.bk 1 rfl).c2
  obtain ⟨e0, e1, e2, e3, ef⟩ := (S0.out.bk 0 rfl).c4
  have hl0 := (S0.out.bk 0 rfl).lt
  have hl1 := (S0.out.bk 1 rfl).lt
  have hl2 := (S0.out.bk 2 rfl).lt
  have hsz := S0.out.1.size
  have hb3' : b3 < wv.heap.size := by omega
  have S1 := Lib.hid S0.out.drew1
  generalize hst : p.ress[r].st = st at RU z0 HR
  have CE := Lib.hid (fun (W : World) (h : Wr [] wv.drew W) => show Hid (Wr [] wv.drew W) ∧ W.cell? ⟨w.heap.size, 0, none⟩ = some (.int .i64 p.dl) ∧ W.cell? ⟨w.heap.size, 1, none⟩ = some (.slice A1 p.acts.length c1) ∧ W.cell? ⟨w.heap.size, 2, none⟩ = some (.slice A2 p.lks.length c2) ∧ W.cell? ⟨w.heap.size, 3, none⟩ = some (.slice (some ⟨b3, o3, none⟩) p.ress.length c3) ∧ W.cell? ⟨w.heap.size, 4, none⟩ = some (.slice A4 p.stk.length c4) ∧ W.cell? ⟨w.heap.size + 1, 0, none⟩ = some (.slice E1 s.st.length f1) ∧ W.cell? ⟨w.heap.size + 1, 1, none⟩ = some (.slice E2 s.mo.length f2) ∧ W.cell? ⟨w.heap.size + 1 + 1, 1, none⟩ = some (.int .i64 (r : Int)) ∧ W.cell? ⟨w.heap.size + 1 + 1, 2, none⟩ = some (.int .i64 b) ∧ W.cell? ⟨w.heap.size + 1 + 1, 3, none⟩ = some (.int .i64 0) ∧ W.cell? ⟨b3, o3 + r * 2, none⟩ = some (.slice U0 st.length d0) from ⟨Lib.hid h, (wr_cell h (p := ⟨w.heap.size, 0, none⟩) hl2 (by simp)).trans (by exact by simpa using p0), (wr_cell h (p := ⟨w.heap.size, 1, none⟩) hl2 (by simp)).trans (by exact by simpa using p1), (wr_cell h (p := ⟨w.heap.size, 2, none⟩) hl2 (by simp)).trans (by exact by simpa using p2), (wr_cell h (p := ⟨w.heap.size, 3, none⟩) hl2 (by simp)).trans (by exact by simpa using p3), (wr_cell h (p := ⟨w.heap.size, 4, none⟩) hl2 (by simp)).trans (by exact by simpa using p4), (wr_cell h (p := ⟨w.heap.size + 1, 0, none⟩) hl1 (by simp)).trans (by exact by simpa using q0), (wr_cell h (p := ⟨w.heap.size + 1, 1, none⟩) hl1 (by simp)).trans (by exact by simpa using q1), (wr_cell h (p := ⟨w.heap.size + 1 + 1, 1, none⟩) hl0 (by simp)).trans (by exact by simpa using e1), (wr_cell h (p := ⟨w.heap.size + 1 + 1, 2, none⟩) hl0 (by simp)).trans (by exact by simpa using e2), (wr_cell h (p := ⟨w.heap.size + 1 + 1, 3, none⟩) hl0 (by simp)).trans (by exact by simpa using e3), (wr_cell h (p := ⟨b3, o3 + r * 2, none⟩) hb3' (by simp)).trans (by exact by simpa using z0)⟩)
  have INIT := Lib.hid (CE.out _ (Wr.refl _ _))
  have KW := Lib.hid (fun (W2 W : World) (hb : Wr [] W W2) (h : Hid (Wr [] wv.drew W) ∧ W.cell? ⟨w.heap.size, 0, none⟩ = some (.int .i64 p.dl) ∧ W.cell? ⟨w.heap.size, 1, none⟩ = some (.slice A1 p.acts.length c1) ∧ W.cell? ⟨w.heap.size, 2, none⟩ = some (.slice A2 p.lks.length c2) ∧ W.cell? ⟨w.heap.size, 3, none⟩ = some (.slice (some ⟨b3, o3, none⟩) p.ress.length c3) ∧ W.cell? ⟨w.heap.size, 4, none⟩ = some (.slice A4 p.stk.length c4) ∧ W.cell? ⟨w.heap.size + 1, 0, none⟩ = some (.slice E1 s.st.length f1) ∧ W.cell? ⟨w.heap.size + 1, 1, none⟩ = some (.slice E2 s.mo.length f2) ∧ W.cell? ⟨w.heap.size + 1 + 1, 1, none⟩ = some (.int .i64 (r : Int)) ∧ W.cell? ⟨w.heap.size + 1 + 1, 2, none⟩ = some (.int .i64 b) ∧ W.cell? ⟨w.heap.size + 1 + 1, 3, none⟩ = some (.int .i64 0) ∧ W.cell? ⟨b3, o3 + r * 2, none⟩ = some (.slice U0 st.length d0)) => CE.out W2 (h.1.out.trans hb))
  clear p0 p1 p2 p3 p4 pf q0 q1 qf e0 e1 e2 e3 ef z0 y0 y1 hst
  go_region_held3 (fun W => Hid (Wr [] wv.drew W) ∧ W.cell? ⟨w.heap.size, 0, none⟩ = some (.int .i64 p.dl) ∧ W.cell? ⟨w.heap.size, 1, none⟩ = some (.slice A1 p.acts.length c1) ∧ W.cell? ⟨w.heap.size, 2, none⟩ = some (.slice A2 p.lks.length c2) ∧ W.cell? ⟨w.heap.size, 3, none⟩ = some (.slice (some ⟨b3, o3, none⟩) p.ress.length c3) ∧ W.cell? ⟨w.heap.size, 4, none⟩ = some (.slice A4 p.stk.length c4) ∧ W.cell? ⟨w.heap.size + 1, 0, none⟩ = some (.slice E1 s.st.length f1) ∧ W.cell? ⟨w.heap.size + 1, 1, none⟩ = some (.slice E2 s.mo.length f2) ∧ W.cell? ⟨w.heap.size + 1 + 1, 1, none⟩ = some (.int .i64 (r : Int)) ∧ W.cell? ⟨w.heap.size + 1 + 1, 2, none⟩ = some (.int .i64 b) ∧ W.cell? ⟨w.heap.size + 1 + 1, 3, none⟩ = some (.int .i64 0) ∧ W.cell? ⟨b3, o3 + r * 2, none⟩ = some (.slice U0 st.length d0)) (first | exact INIT.out | exact KW.out _ _ (by assumption) (by assumption) | exact KW.out _ _ (Wr.of_below (by assumption) (Nat.le_refl _)) (by assumption) | exact KW.out _ _ (Wr.of_below ((Below.refl _ _).alloc (Nat.le_refl _) _) (Nat.le_refl _)) (by assumption))
    ((first | (go_at_call 69; refine (specUse_any p s r b _ _ _ (by exact S1.out.old HV.out) (by exact S1.out.old HQ.out) HF.out hr).mono ?_; rintro e w5 ⟨rfl, bb⟩; have S2 := Lib.hid (S1.out.go bb)) | (go_at_call 70; refine (specAt_any st b _ _ (rdP_st (by exact S2.out.old RU.out))).mono ?_; rintro e w6 ⟨rfl, bb2⟩; have S3 := Lib.hid (S2.out.go bb2))))
  rename_i hHeld
  clear hHeld CE INIT KW S1 S2 bb bb2
  go_wp2
  go_ret
  exact ⟨ret_bZ HR.out.symm, S3.out.1⟩

set_option maxRecDepth 100000 in
set_option maxHeartbeats 8000000 in
theorem fail_wrk (p : Pj) (s : Sc) (r : Nat) (b c : Int) (v u : Value) (w : World) (hv : (trPj p).rd w v) (hs : (trSc s).rd w u) (hf : Form p s) (hr : r < p.ress.length) (hb : 0 ≤ b ∧ b ≤ 60) (hc : 0 ≤ c ∧ c ≤ 60) (hbc : b < c) :
    Calls Tryz.prog 44 #[v, u, .agg #[.int .i64 4, .int .i64 (r : Int), .int .i64 b, .int .i64 c]] w fun e w' => e = .returned (.bool (failC p s (.wrk (r : Int) b c))) ∧ Below w.heap.size w w' := by
  obtain ⟨n, hn⟩ : ∃ n : Nat, (c - b).toNat = n := ⟨_, rfl⟩
  obtain rfl : c = b + n := by omega
  have HV := Lib.hid hv
  obtain ⟨A1, c1, A2, c2, A3, c3, A4, c4, rfl, r1, r2, r3, r4⟩ := rdProject_t hv
  clear hv
  have HQ := Lib.hid hs
  obtain ⟨E1, f1, E2, f2, rfl, q1, q2⟩ := rdSchedule_t hs
  obtain ⟨ht1, B8, d8, he, x1⟩ := rdI (rd_flat q1)
  injection he with he _ he2
  subst he he2
  have X1 := Lib.hid x1
  obtain ⟨ht2, B9, d9, he, x2⟩ := rdI (rd_flat q2)
  injection he with he _ he2
  subst he he2
  have X2 := Lib.hid x2
  clear hs q1 q2 x1 x2
  have S0 := Lib.hid ((((Sn.start w).box 36 [.int .i64 p.dl, .slice A1 p.acts.length c1, .slice A2 p.lks.length c2, .slice A3 p.ress.length c3, .slice A4 p.stk.length c4]).box 46 [.slice E1 s.st.length f1, .slice E2 s.mo.length f2]).box 38 [.int .i64 4, .int .i64 (r : Int), .int .i64 b, .int .i64 (b + n)])
  simp only [World.size_alloc] at S0
  go_enter Tryz.func44, Tryz.ntmps44
  obtain ⟨hl3, B3, d3, he, g3⟩ := rdResourceS_t r3
  injection he with he _ he2
  subst he he2
  obtain ⟨b3, o3, rfl, hb3, hc3⟩ := g3 r hr
  obtain ⟨U0, d0, U1, d1, y0, y1, ru, _⟩ := hc3 r hr
  have RU := Lib.hid ru
  have HF := Lib.hid hf
  have HR := Lib.hid ((wrkF_eq (s := s) hf hr hb hc).trans (by rw [hn]))
  have hr' : (r : Int) < (p.ress.length : Int) := by omega
  have r0 : (0 : Int) ≤ (r : Int) := by omega
  generalize failC p s (.wrk (r : Int) b (b + n)) = fb at HR ⊢
  clear hf r1 r2 r3 r4 g3 hc3 ru hl3 hn
  go_wp2
  go_loopw [9, 10] (fun q i wr => ∃ k : Nat, k ≤ n ∧ i = .int .i64 (b + k) ∧ q = .int .i64 (wrkT p s r b p.acts.length k) ∧ Sn w wr [boxI (w.heap.size + 1 + 1) 38 [.int .i64 4, .int .i64 (r : Int), .int .i64 b, .int .i64 (b + n)], boxI (w.heap.size + 1) 46 [.slice E1 s.st.length f1, .slice E2 s.mo.length f2], boxI w.heap.size 36 [.int .i64 p.dl, .slice A1 p.acts.length c1, .slice A2 p.lks.length c2, .slice (some ⟨b3, o3, none⟩) p.ress.length c3, .slice A4 p.stk.length c4]]) (fun _ i _ => (b + n - intOf i).toNat)
  case atStart => exact ⟨0, Nat.zero_le _, by simp, rfl, S0.out⟩
  case round =>
    obtain ⟨k, hkl, rfl, rfl, hS⟩ := hrel
    have S1 := Lib.hid hS
    clear hS S0
    obtain ⟨p0, p1, p2, p3, p4, pf⟩ := (S1.out.bk 2 rfl).c5
    obtain ⟨q0, q1, qf⟩ := (S1.out.bk 1 rfl).c2
    obtain ⟨e0, e1, e2, e3, ef⟩ := (S1.out.bk 0 rfl).c4
    have hwt := wrkT_hi HF.out hr b k
    by_cases hlt : k < n
    · have hlt' : b + (k : Int) < b + (n : Int) := by omega
      have HT := Lib.hid (show wrkT p s r b p.acts.length (k + 1) = wrkT p s r b p.acts.length k + useK p s r (b + k) p.acts.length from rfl)
      have hu := useK_hi (t := b + k) HF.out hr p.acts.length (Nat.le_refl _)
      have h6 := HF.out.n6
      generalize wrkT p s r b p.acts.length k = su at HT hwt ⊢
      go_wp2_with fail
      clear p0 p1 p2 p3 p4 pf
      clear q0 q1 qf
      clear e0 e1 e2 e3 ef
      refine (specUse_any p s r (b + k) _ _ _ (by exact S1.out.old HV.out) (by exact S1.out.old HQ.out) HF.out hr).mono ?_
      rintro e w2 ⟨rfl, b⟩
      have S2 := Lib.hid (S1.out.go b)
      clear S1 b
      generalize useK p s r (b + k) p.acts.length = us at HT hu ⊢
      have hw : IntKind.i64.wrap (su + us) = su + us := by rw [IntKind.wrap_i64]; omega
      have hw2 : IntKind.i64.wrap (b + (k : Int) + 1) = b + ((k + 1 : Nat) : Int) := by rw [IntKind.wrap_i64]; omega
      go_wp2
      go_roundw
      case rel => exact ⟨k + 1, by omega, by first | rfl | go_num | (rw [hw2]), by rw [HT.out], S2.out⟩
      case measure => simp [intOf]; omega
    · have hge : ¬ b + (k : Int) < b + (n : Int) := by omega
      obtain rfl : k = n := by omega
      have z0 := (S1.out.1.cell (p := ⟨b3, o3 + r * 2, none⟩) hb3).trans y0
      have hl0 := (S1.out.bk 0 rfl).lt
      have hl1 := (S1.out.bk 1 rfl).lt
      have hl2 := (S1.out.bk 2 rfl).lt
      have hsz := S1.out.1.size
      have hb3' : b3 < wr.heap.size := by omega
      generalize wrkT p s r b p.acts.length k = su at HR ⊢
      generalize hst : p.ress[r].st = st at RU z0 HR
      go_wp2_with fail
      have S2 := Lib.hid S1.out.drew1
      have CE := Lib.hid (fun (W : World) (h : Wr [] wr.drew W) => show Hid (Wr [] wr.drew W) ∧ W.cell? ⟨w.heap.size, 0, none⟩ = some (.int .i64 p.dl) ∧ W.cell? ⟨w.heap.size, 1, none⟩ = some (.slice A1 p.acts.length c1) ∧ W.cell? ⟨w.heap.size, 2, none⟩ = some (.slice A2 p.lks.length c2) ∧ W.cell? ⟨w.heap.size, 3, none⟩ = some (.slice (some ⟨b3, o3, none⟩) p.ress.length c3) ∧ W.cell? ⟨w.heap.size, 4, none⟩ = some (.slice A4 p.stk.length c4) ∧ W.cell? ⟨w.heap.size + 1, 0, none⟩ = some (.slice E1 s.st.length f1) ∧ W.cell? ⟨w.heap.size + 1, 1, none⟩ = some (.slice E2 s.mo.length f2) ∧ W.cell? ⟨w.heap.size + 1 + 1, 1, none⟩ = some (.int .i64 (r : Int)) ∧ W.cell? ⟨w.heap.size + 1 + 1, 2, none⟩ = some (.int .i64 b) ∧ W.cell? ⟨w.heap.size + 1 + 1, 3, none⟩ = some (.int .i64 (b + (k : Int))) ∧ W.cell? ⟨b3, o3 + r * 2, none⟩ = some (.slice U0 st.length d0) from ⟨Lib.hid h, (wr_cell h (p := ⟨w.heap.size, 0, none⟩) hl2 (by simp)).trans (by exact by simpa using p0), (wr_cell h (p := ⟨w.heap.size, 1, none⟩) hl2 (by simp)).trans (by exact by simpa using p1), (wr_cell h (p := ⟨w.heap.size, 2, none⟩) hl2 (by simp)).trans (by exact by simpa using p2), (wr_cell h (p := ⟨w.heap.size, 3, none⟩) hl2 (by simp)).trans (by exact by simpa using p3), (wr_cell h (p := ⟨w.heap.size, 4, none⟩) hl2 (by simp)).trans (by exact by simpa using p4), (wr_cell h (p := ⟨w.heap.size + 1, 0, none⟩) hl1 (by simp)).trans (by exact by simpa using q0), (wr_cell h (p := ⟨w.heap.size + 1, 1, none⟩) hl1 (by simp)).trans (by exact by simpa using q1), (wr_cell h (p := ⟨w.heap.size + 1 + 1, 1, none⟩) hl0 (by simp)).trans (by exact by simpa using e1), (wr_cell h (p := ⟨w.heap.size + 1 + 1, 2, none⟩) hl0 (by simp)).trans (by exact by simpa using e2), (wr_cell h (p := ⟨w.heap.size + 1 + 1, 3, none⟩) hl0 (by simp)).trans (by exact by simpa using e3), (wr_cell h (p := ⟨b3, o3 + r * 2, none⟩) hb3' (by simp)).trans (by exact by simpa using z0)⟩)
      have INIT := Lib.hid (CE.out _ (Wr.refl _ _))
      have KW := Lib.hid (fun (W2 W : World) (hb : Wr [] W W2) (h : Hid (Wr [] wr.drew W) ∧ W.cell? ⟨w.heap.size, 0, none⟩ = some (.int .i64 p.dl) ∧ W.cell? ⟨w.heap.size, 1, none⟩ = some (.slice A1 p.acts.length c1) ∧ W.cell? ⟨w.heap.size, 2, none⟩ = some (.slice A2 p.lks.length c2) ∧ W.cell? ⟨w.heap.size, 3, none⟩ = some (.slice (some ⟨b3, o3, none⟩) p.ress.length c3) ∧ W.cell? ⟨w.heap.size, 4, none⟩ = some (.slice A4 p.stk.length c4) ∧ W.cell? ⟨w.heap.size + 1, 0, none⟩ = some (.slice E1 s.st.length f1) ∧ W.cell? ⟨w.heap.size + 1, 1, none⟩ = some (.slice E2 s.mo.length f2) ∧ W.cell? ⟨w.heap.size + 1 + 1, 1, none⟩ = some (.int .i64 (r : Int)) ∧ W.cell? ⟨w.heap.size + 1 + 1, 2, none⟩ = some (.int .i64 b) ∧ W.cell? ⟨w.heap.size + 1 + 1, 3, none⟩ = some (.int .i64 (b + (k : Int))) ∧ W.cell? ⟨b3, o3 + r * 2, none⟩ = some (.slice U0 st.length d0)) => CE.out W2 (h.1.out.trans hb))
      clear p0 p1 p2 p3 p4 pf q0 q1 qf e0 e1 e2 e3 ef z0 y0 y1 hst S1
      go_region_held3 (fun W => Hid (Wr [] wr.drew W) ∧ W.cell? ⟨w.heap.size, 0, none⟩ = some (.int .i64 p.dl) ∧ W.cell? ⟨w.heap.size, 1, none⟩ = some (.slice A1 p.acts.length c1) ∧ W.cell? ⟨w.heap.size, 2, none⟩ = some (.slice A2 p.lks.length c2) ∧ W.cell? ⟨w.heap.size, 3, none⟩ = some (.slice (some ⟨b3, o3, none⟩) p.ress.length c3) ∧ W.cell? ⟨w.heap.size, 4, none⟩ = some (.slice A4 p.stk.length c4) ∧ W.cell? ⟨w.heap.size + 1, 0, none⟩ = some (.slice E1 s.st.length f1) ∧ W.cell? ⟨w.heap.size + 1, 1, none⟩ = some (.slice E2 s.mo.length f2) ∧ W.cell? ⟨w.heap.size + 1 + 1, 1, none⟩ = some (.int .i64 (r : Int)) ∧ W.cell? ⟨w.heap.size + 1 + 1, 2, none⟩ = some (.int .i64 b) ∧ W.cell? ⟨w.heap.size + 1 + 1, 3, none⟩ = some (.int .i64 (b + (k : Int))) ∧ W.cell? ⟨b3, o3 + r * 2, none⟩ = some (.slice U0 st.length d0)) (first | exact INIT.out | exact KW.out _ _ (by assumption) (by assumption) | exact KW.out _ _ (Wr.of_below (by assumption) (Nat.le_refl _)) (by assumption) | exact KW.out _ _ (Wr.of_below ((Below.refl _ _).alloc (Nat.le_refl _) _) (Nat.le_refl _)) (by assumption))
        ((go_at_call 71; refine (specTotal_any st b (b + (k : Int)) _ _ (rdP_st (by exact S2.out.old RU.out))).mono ?_; rintro e w6 ⟨rfl, bb2⟩; have S3 := Lib.hid (S2.out.go bb2)))
      rename_i hHeld
      clear hHeld CE INIT KW S2 bb2
      go_wp2
      go_ret
      exact ⟨ret_bZ HR.out.symm, S3.out.1⟩

end Go.Proofs.YtaglfdkeomjpdaaGreat
