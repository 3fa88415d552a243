/- DERIVED. CONTRACTS of chapter 11: isMet of the rules of times, works, pairs and links. -/
import Derived.Test.YtaglfdkeomjpdaaGreatRuW
namespace Go.Proofs.YtaglfdkeomjpdaaGreat
open Go.RowKit Go.Shelf
set_option linter.unusedVariables false

theorem tim_eq {p : Pj} {s : Sc} {r : Nat} {b : Int} (hf : Form p s) (hr : r < p.ress.length) (hb : 0 ≤ b ∧ b ≤ 60) : (!failC p s (.tim (r : Int) b)) = decide (wsumK p s r b (b + 1) p.acts.length ≤ capB p.ress[r].st b) := by
  rw [cap_in (pok_st hf.ok hr) hb, wsum_one, ← rsA_at hr]
  exact not_lt_dec _ _
theorem wrk_eq {p : Pj} {s : Sc} {r : Nat} {b c : Int} (hf : Form p s) (hr : r < p.ress.length) (hb : 0 ≤ b ∧ b ≤ 60) (hc : 0 ≤ c ∧ c ≤ 60) (h : b < c) : (!failC p s (.wrk (r : Int) b c)) = decide (wsumK p s r b c p.acts.length ≤ totalB p.ress[r].st b c) := by
  rw [total_in (pok_st hf.ok hr) hb hc, ← rsA_at hr]
  have := wsum_wrk p s r b p.acts.length (c - b).toNat
  rw [show b + ((c - b).toNat : Int) = c from by omega] at this
  rw [this]
  exact not_lt_dec _ _

set_option maxRecDepth 100000 in
set_option maxHeartbeats 8000000 in
theorem met_tim (p : Pj) (s : Sc) (r : Nat) (b : Int) (v u : Value) (w : World) (hv : (trPj p).rd w v) (hs : (trSc s).rd w u) (hf : Form p s) (hr : r < p.ress.length) (hb : 0 ≤ b ∧ b ≤ 60) :
    Calls Tryz.prog 155 #[.agg #[.int .i64 (r : Int), .int .i64 b], v, u] w fun e w' => e = .returned (.bool (!failC p s (.tim (r : Int) b))) ∧ Below w.heap.size w w' := by
  have HV := Lib.hid hv
  obtain ⟨A1, c1, A2, c2, A3, c3, A4, c4, rfl, r1, r2, r3, r4⟩ := rdProject_t hv
  clear hv
  have HQ := Lib.hid hs
  obtain ⟨E1, f1, E2, f2, rfl, q1, q2⟩ := rdSchedule_t hs
  obtain ⟨ht1, B8, d8, he, x1⟩ := rdI (rd_flat q1)
  injection he with he _ he2
  subst he he2
  have X1 := Lib.hid x1
  obtain ⟨ht2, B9, d9, he, x2⟩ := rdI (rd_flat q2)
  injection he with he _ he2
  subst he he2
  have X2 := Lib.hid x2
  clear hs q1 q2 x1 x2
  have S0 := Lib.hid ((((Sn.start w).box 123 [.int .i64 (r : Int), .int .i64 b]).box 36 [.int .i64 p.dl, .slice A1 p.acts.length c1, .slice A2 p.lks.length c2, .slice A3 p.ress.length c3, .slice A4 p.stk.length c4]).box 46 [.slice E1 s.st.length f1, .slice E2 s.mo.length f2])
  simp only [World.size_alloc] at S0
  go_enter Tryz.func155, Tryz.ntmps155
  obtain ⟨hl3, B3, d3, he, g3⟩ := rdResourceS_t r3
  injection he with he _ he2
  subst he he2
  obtain ⟨b3, o3, rfl, hb3, hc3⟩ := g3 r hr
  obtain ⟨U0, d0, U1, d1, y0, y1, ru, _⟩ := hc3 r hr
  have RU := Lib.hid ru
  have HF := Lib.hid hf
  have HR := Lib.hid (tim_eq hf hr hb)
  have hr' : (r : Int) < (p.ress.length : Int) := by omega
  have r0 : (0 : Int) ≤ (r : Int) := by omega
  have hw : IntKind.i64.wrap (b + 1) = b + 1 := by rw [IntKind.wrap_i64]; omega
  clear hf r1 r2 r3 r4 g3 hc3 ru hl3
  go_wp2_with fail
  have z0 := (S0.out.1.cell (p := ⟨b3, o3 + r * 2, none⟩) hb3).trans y0
  generalize World.alloc (World.alloc (World.alloc w _) _) _ = wv at S0 z0 ⊢
  obtain ⟨e0, e1, ef⟩ := (S0.out.bk 2 rfl).c2
  obtain ⟨p0, p1, p2, p3, p4, pf⟩ := (S0.out.bk 1 rfl).c5
  obtain ⟨q0, q1, qf⟩ := (S0.out.bk 0 rfl).c2
  have hl0 := (S0.out.bk 0 rfl).lt
  have hl1 := (S0.out.bk 1 rfl).lt
  have hl2 := (S0.out.bk 2 rfl).lt
  have hsz := S0.out.1.size
  have hb3' : b3 < wv.heap.size := by omega
  have S1 := Lib.hid S0.out.drew1
  generalize hst : p.ress[r].st = st at RU z0 HR
  have CE := Lib.hid (fun (W : World) (h : Wr [] wv.drew W) => show Hid (Wr [] wv.drew W) ∧ W.cell? ⟨w.heap.size, 0, none⟩ = some (.int .i64 (r : Int)) ∧ W.cell? ⟨w.heap.size, 1, none⟩ = some (.int .i64 b) ∧ W.cell? ⟨w.heap.size + 1, 0, none⟩ = some (.int .i64 p.dl) ∧ W.cell? ⟨w.heap.size + 1, 1, none⟩ = some (.slice A1 p.acts.length c1) ∧ W.cell? ⟨w.heap.size + 1, 2, none⟩ = some (.slice A2 p.lks.length c2) ∧ W.cell? ⟨w.heap.size + 1, 3, none⟩ = some (.slice (some ⟨b3, o3, none⟩) p.ress.length c3) ∧ W.cell? ⟨w.heap.size + 1, 4, none⟩ = some (.slice A4 p.stk.length c4) ∧ W.cell? ⟨w.heap.size + 1 + 1, 0, none⟩ = some (.slice E1 s.st.length f1) ∧ W.cell? ⟨w.heap.size + 1 + 1, 1, none⟩ = some (.slice E2 s.mo.length f2) ∧ W.cell? ⟨b3, o3 + r * 2, none⟩ = some (.slice U0 st.length d0) from ⟨Lib.hid h, (wr_cell h (p := ⟨w.heap.size, 0, none⟩) hl2 (by simp)).trans (by exact by simpa using e0), (wr_cell h (p := ⟨w.heap.size, 1, none⟩) hl2 (by simp)).trans (by exact by simpa using e1), (wr_cell h (p := ⟨w.heap.size + 1, 0, none⟩) hl1 (by simp)).trans (by exact by simpa using p0), (wr_cell h (p := ⟨w.heap.size + 1, 1, none⟩) hl1 (by simp)).trans (by exact by simpa using p1), (wr_cell h (p := ⟨w.heap.size + 1, 2, none⟩) hl1 (by simp)).trans (by exact by simpa using p2), (wr_cell h (p := ⟨w.heap.size + 1, 3, none⟩) hl1 (by simp)).trans (by exact by simpa using p3), (wr_cell h (p := ⟨w.heap.size + 1, 4, none⟩) hl1 (by simp)).trans (by exact by simpa using p4), (wr_cell h (p := ⟨w.heap.size + 1 + 1, 0, none⟩) hl0 (by simp)).trans (by exact by simpa using q0), (wr_cell h (p := ⟨w.heap.size + 1 + 1, 1, none⟩) hl0 (by simp)).trans (by exact by simpa using q1), (wr_cell h (p := ⟨b3, o3 + r * 2, none⟩) hb3' (by simp)).trans (by exact by simpa using z0)⟩)
  have INIT := Lib.hid (CE.out _ (Wr.refl _ _))
  have KW := Lib.hid (fun (W2 W : World) (hb : Wr [] W W2) (h : Hid (Wr [] wv.drew W) ∧ W.cell? ⟨w.heap.size, 0, none⟩ = some (.int .i64 (r : Int)) ∧ W.cell? ⟨w.heap.size, 1, none⟩ = some (.int .i64 b) ∧ W.cell? ⟨w.heap.size + 1, 0, none⟩ = some (.int .i64 p.dl) ∧ W.cell? ⟨w.heap.size + 1, 1, none⟩ = some (.slice A1 p.acts.length c1) ∧ W.cell? ⟨w.heap.size + 1, 2, none⟩ = some (.slice A2 p.lks.length c2) ∧ W.cell? ⟨w.heap.size + 1, 3, none⟩ = some (.slice (some ⟨b3, o3, none⟩) p.ress.length c3) ∧ W.cell? ⟨w.heap.size + 1, 4, none⟩ = some (.slice A4 p.stk.length c4) ∧ W.cell? ⟨w.heap.size + 1 + 1, 0, none⟩ = some (.slice E1 s.st.length f1) ∧ W.cell? ⟨w.heap.size + 1 + 1, 1, none⟩ = some (.slice E2 s.mo.length f2) ∧ W.cell? ⟨b3, o3 + r * 2, none⟩ = some (.slice U0 st.length d0)) => CE.out W2 (h.1.out.trans hb))
  clear e0 e1 ef p0 p1 p2 p3 p4 pf q0 q1 qf z0 y0 y1 hst
  go_region_held3 (fun W => Hid (Wr [] wv.drew W) ∧ W.cell? ⟨w.heap.size, 0, none⟩ = some (.int .i64 (r : Int)) ∧ W.cell? ⟨w.heap.size, 1, none⟩ = some (.int .i64 b) ∧ W.cell? ⟨w.heap.size + 1, 0, none⟩ = some (.int .i64 p.dl) ∧ W.cell? ⟨w.heap.size + 1, 1, none⟩ = some (.slice A1 p.acts.length c1) ∧ W.cell? ⟨w.heap.size + 1, 2, none⟩ = some (.slice A2 p.lks.length c2) ∧ W.cell? ⟨w.heap.size + 1, 3, none⟩ = some (.slice (some ⟨b3, o3, none⟩) p.ress.length c3) ∧ W.cell? ⟨w.heap.size + 1, 4, none⟩ = some (.slice A4 p.stk.length c4) ∧ W.cell? ⟨w.heap.size + 1 + 1, 0, none⟩ = some (.slice E1 s.st.length f1) ∧ W.cell? ⟨w.heap.size + 1 + 1, 1, none⟩ = some (.slice E2 s.mo.length f2) ∧ W.cell? ⟨b3, o3 + r * 2, none⟩ = some (.slice U0 st.length d0)) (first | exact INIT.out | exact KW.out _ _ (by assumption) (by assumption) | exact KW.out _ _ (Wr.of_below (by assumption) (Nat.le_refl _)) (by assumption) | exact KW.out _ _ (Wr.of_below ((Below.refl _ _).alloc (Nat.le_refl _) _) (Nat.le_refl _)) (by assumption))
    ((first | (go_at_call 157; refine (workWithin_any p s r b (b + 1) _ _ _ (by exact S1.out.old HV.out) (by exact S1.out.old HQ.out) HF.out hr (by omega) (by omega)).mono ?_; rintro e w5 ⟨rfl, bb⟩; have S2 := Lib.hid (S1.out.go bb)) | (go_at_call 158; refine (implCap_any st b _ _ (rdP_st (by exact S2.out.old RU.out))).mono ?_; rintro e w6 ⟨rfl, bb2⟩; have S3 := Lib.hid (S2.out.go bb2))))
  rename_i hHeld
  clear hHeld CE INIT KW S1 S2 bb bb2
  go_wp2
  go_ret
  exact ⟨ret_bZ HR.out.symm, S3.out.1⟩

set_option maxRecDepth 100000 in
set_option maxHeartbeats 8000000 in
theorem met_wrk (p : Pj) (s : Sc) (r : Nat) (b c : Int) (v u : Value) (w : World) (hv : (trPj p).rd w v) (hs : (trSc s).rd w u) (hf : Form p s) (hr : r < p.ress.length) (hb : 0 ≤ b ∧ b ≤ 60) (hc : 0 ≤ c ∧ c ≤ 60) (hbc : b < c) :
    Calls Tryz.prog 163 #[.agg #[.int .i64 (r : Int), .int .i64 b, .int .i64 c], v, u] w fun e w' => e = .returned (.bool (!failC p s (.wrk (r : Int) b c))) ∧ Below w.heap.size w w' := by
  have HV := Lib.hid hv
  obtain ⟨A1, c1, A2, c2, A3, c3, A4, c4, rfl, r1, r2, r3, r4⟩ := rdProject_t hv
  clear hv
  have HQ := Lib.hid hs
  obtain ⟨E1, f1, E2, f2, rfl, q1, q2⟩ := rdSchedule_t hs
  obtain ⟨ht1, B8, d8, he, x1⟩ := rdI (rd_flat q1)
  injection he with he _ he2
  subst he he2
  have X1 := Lib.hid x1
  obtain ⟨ht2, B9, d9, he, x2⟩ := rdI (rd_flat q2)
  injection he with he _ he2
  subst he he2
  have X2 := Lib.hid x2
  clear hs q1 q2 x1 x2
  have S0 := Lib.hid ((((Sn.start w).box 125 [.int .i64 (r : Int), .int .i64 b, .int .i64 c]).box 36 [.int .i64 p.dl, .slice A1 p.acts.length c1, .slice A2 p.lks.length c2, .slice A3 p.ress.length c3, .slice A4 p.stk.length c4]).box 46 [.slice E1 s.st.length f1, .slice E2 s.mo.length f2])
  simp only [World.size_alloc] at S0
  go_enter Tryz.func163, Tryz.ntmps163
  obtain ⟨hl3, B3, d3, he, g3⟩ := rdResourceS_t r3
  injection he with he _ he2
  subst he he2
  obtain ⟨b3, o3, rfl, hb3, hc3⟩ := g3 r hr
  obtain ⟨U0, d0, U1, d1, y0, y1, ru, _⟩ := hc3 r hr
  have RU := Lib.hid ru
  have HF := Lib.hid hf
  have HR := Lib.hid (wrk_eq hf hr hb hc hbc)
  have hr' : (r : Int) < (p.ress.length : Int) := by omega
  have r0 : (0 : Int) ≤ (r : Int) := by omega
  clear hf r1 r2 r3 r4 g3 hc3 ru hl3
  go_wp2_with fail
  have z0 := (S0.out.1.cell (p := ⟨b3, o3 + r * 2, none⟩) hb3).trans y0
  generalize World.alloc (World.alloc (World.alloc w _) _) _ = wv at S0 z0 ⊢
  obtain ⟨e0, e1, e2, ef⟩ := (S0.out.bk 2 rfl).c3
  obtain ⟨p0, p1, p2, p3, p4, pf⟩ := (S0.out.bk 1 rfl).c5
  obtain ⟨q0, q1, qf⟩ := (S0.out.bk 0 rfl).c2
  have hl0 := (S0.out.bk 0 rfl).lt
  have hl1 := (S0.out.bk 1 rfl).lt
  have hl2 := (S0.out.bk 2 rfl).lt
  have hsz := S0.out.1.size
  have hb3' : b3 < wv.heap.size := by omega
  have S1 := Lib.hid S0.out.drew1
  generalize hst : p.ress[r].st = st at RU z0 HR
  have CE := Lib.hid (fun (W : World) (h : Wr [] wv.drew W) => show Hid (Wr [] wv.drew W) ∧ W.cell? ⟨w.heap.size, 0, none⟩ = some (.int .i64 (r : Int)) ∧ W.cell? ⟨w.heap.size, 1, none⟩ = some (.int .i64 b) ∧ W.cell? ⟨w.heap.size, 2, none⟩ = some (.int .i64 c) ∧ W.cell? ⟨w.heap.size + 1, 0, none⟩ = some (.int .i64 p.dl) ∧ W.cell? ⟨w.heap.size + 1, 1, none⟩ = some (.slice A1 p.acts.length c1) ∧ W.cell? ⟨w.heap.size + 1, 2, none⟩ = some (.slice A2 p.lks.length c2) ∧ W.cell? ⟨w.heap.size + 1, 3, none⟩ = some (.slice (some ⟨b3, o3, none⟩) p.ress.length c3) ∧ W.cell? ⟨w.heap.size + 1, 4, none⟩ = some (.slice A4 p.stk.length c4) ∧ W.cell? ⟨w.heap.size + 1 + 1, 0, none⟩ = some (.slice E1 s.st.length f1) ∧ W.cell? ⟨w.heap.size + 1 + 1, 1, none⟩ = some (.slice E2 s.mo.length f2) ∧ W.cell? ⟨b3, o3 + r * 2, none⟩ = some (.slice U0 st.length d0) from ⟨Lib.hid h, (wr_cell h (p := ⟨w.heap.size, 0, none⟩) hl2 (by simp)).trans (by exact by simpa using e0), (wr_cell h (p := ⟨w.heap.size, 1, none⟩) hl2 (by simp)).trans (by exact by simpa using e1), (wr_cell h (p := ⟨w.heap.size, 2, none⟩) hl2 (by simp)).trans (by exact by simpa using e2), (wr_cell h (p := ⟨w.heap.size + 1, 0, none⟩) hl1 (by simp)).trans (by exact by simpa using p0), (wr_cell h (p := ⟨w.heap.size + 1, 1, none⟩) hl1 (by simp)).trans (by exact by simpa using p1), (wr_cell h (p := ⟨w.heap.size + 1, 2, none⟩) hl1 (by simp)).trans (by exact by simpa using p2), (wr_cell h (p := ⟨w.heap.size + 1, 3, none⟩) hl1 (by simp)).trans (by exact by simpa using p3), (wr_cell h (p := ⟨w.heap.size + 1, 4, none⟩) hl1 (by simp)).trans (by exact by simpa using p4), (wr_cell h (p := ⟨w.heap.size + 1 + 1, 0, none⟩) hl0 (by simp)).trans (by exact by simpa using q0), (wr_cell h (p := ⟨w.heap.size + 1 + 1, 1, none⟩) hl0 (by simp)).trans (by exact by simpa using q1), (wr_cell h (p := ⟨b3, o3 + r * 2, none⟩) hb3' (by simp)).trans (by exact by simpa using z0)⟩)
  have INIT := Lib.hid (CE.out _ (Wr.refl _ _))
  have KW := Lib.hid (fun (W2 W : World) (hb : Wr [] W W2) (h : Hid (Wr [] wv.drew W) ∧ W.cell? ⟨w.heap.size, 0, none⟩ = some (.int .i64 (r : Int)) ∧ W.cell? ⟨w.heap.size, 1, none⟩ = some (.int .i64 b) ∧ W.cell? ⟨w.heap.size, 2, none⟩ = some (.int .i64 c) ∧ W.cell? ⟨w.heap.size + 1, 0, none⟩ = some (.int .i64 p.dl) ∧ W.cell? ⟨w.heap.size + 1, 1, none⟩ = some (.slice A1 p.acts.length c1) ∧ W.cell? ⟨w.heap.size + 1, 2, none⟩ = some (.slice A2 p.lks.length c2) ∧ W.cell? ⟨w.heap.size + 1, 3, none⟩ = some (.slice (some ⟨b3, o3, none⟩) p.ress.length c3) ∧ W.cell? ⟨w.heap.size + 1, 4, none⟩ = some (.slice A4 p.stk.length c4) ∧ W.cell? ⟨w.heap.size + 1 + 1, 0, none⟩ = some (.slice E1 s.st.length f1) ∧ W.cell? ⟨w.heap.size + 1 + 1, 1, none⟩ = some (.slice E2 s.mo.length f2) ∧ W.cell? ⟨b3, o3 + r * 2, none⟩ = some (.slice U0 st.length d0)) => CE.out W2 (h.1.out.trans hb))
  clear e0 e1 e2 ef p0 p1 p2 p3 p4 pf q0 q1 qf z0 y0 y1 hst
  go_region_held3 (fun W => Hid (Wr [] wv.drew W) ∧ W.cell? ⟨w.heap.size, 0, none⟩ = some (.int .i64 (r : Int)) ∧ W.cell? ⟨w.heap.size, 1, none⟩ = some (.int .i64 b) ∧ W.cell? ⟨w.heap.size, 2, none⟩ = some (.int .i64 c) ∧ W.cell? ⟨w.heap.size + 1, 0, none⟩ = some (.int .i64 p.dl) ∧ W.cell? ⟨w.heap.size + 1, 1, none⟩ = some (.slice A1 p.acts.length c1) ∧ W.cell? ⟨w.heap.size + 1, 2, none⟩ = some (.slice A2 p.lks.length c2) ∧ W.cell? ⟨w.heap.size + 1, 3, none⟩ = some (.slice (some ⟨b3, o3, none⟩) p.ress.length c3) ∧ W.cell? ⟨w.heap.size + 1, 4, none⟩ = some (.slice A4 p.stk.length c4) ∧ W.cell? ⟨w.heap.size + 1 + 1, 0, none⟩ = some (.slice E1 s.st.length f1) ∧ W.cell? ⟨w.heap.size + 1 + 1, 1, none⟩ = some (.slice E2 s.mo.length f2) ∧ W.cell? ⟨b3, o3 + r * 2, none⟩ = some (.slice U0 st.length d0)) (first | exact INIT.out | exact KW.out _ _ (by assumption) (by assumption) | exact KW.out _ _ (Wr.of_below (by assumption) (Nat.le_refl _)) (by assumption) | exact KW.out _ _ (Wr.of_below ((Below.refl _ _).alloc (Nat.le_refl _) _) (Nat.le_refl _)) (by assumption))
    ((first | (go_at_call 157; refine (workWithin_any p s r b c _ _ _ (by exact S1.out.old HV.out) (by exact S1.out.old HQ.out) HF.out hr (by omega) (by omega)).mono ?_; rintro e w5 ⟨rfl, bb⟩; have S2 := Lib.hid (S1.out.go bb)) | (go_at_call 165; refine (implTotal_any st b c _ _ (rdP_st (by exact S2.out.old RU.out))).mono ?_; rintro e w6 ⟨rfl, bb2⟩; have S3 := Lib.hid (S2.out.go bb2))))
  rename_i hHeld
  clear hHeld CE INIT KW S1 S2 bb bb2
  go_wp2
  go_ret
  exact ⟨ret_bZ HR.out.symm, S3.out.1⟩

set_option maxRecDepth 100000 in
set_option maxHeartbeats 8000000 in
theorem isReadyAfter_any (p : Pj) (s : Sc) (r a b : Nat) (v u : Value) (w : World) (hv : (trPj p).rd w v) (hs : (trSc s).rd w u) (hf : Form p s) (hm : machB p (r : Int) = true) (hr : r < p.ress.length) (ha : a < p.acts.length) (hb : b < p.acts.length) :
    Calls Tryz.prog 169 #[v, u, .int .i64 (r : Int), .int .i64 (a : Int), .int .i64 (b : Int)] w fun e w' => e = .returned (.bool (aheadB p s r a b)) ∧ Below w.heap.size w w' := by
  have HV := Lib.hid hv
  obtain ⟨A1, c1, A2, c2, A3, c3, A4, c4, rfl, r1, r2, r3, r4⟩ := rdProject_t hv
  obtain ⟨hl1, B1, d1, he, g1⟩ := rdActivityS_t r1
  injection he with he _ he2
  subst he he2
  obtain ⟨hl3, B3, d3, he, g3⟩ := rdResourceS_t r3
  injection he with he _ he2
  subst he he2
  have HQ := Lib.hid hs
  obtain ⟨E1, f1, E2, f2, rfl, q1, q2⟩ := rdSchedule_t hs
  obtain ⟨ht1, B8, d8, he, x1⟩ := rdI (rd_flat q1)
  injection he with he _ he2
  subst he he2
  have X1 := Lib.hid x1
  obtain ⟨ht2, B9, d9, he, x2⟩ := rdI (rd_flat q2)
  injection he with he _ he2
  subst he he2
  have X2 := Lib.hid x2
  clear hs q1 q2 x1 x2
  have S0 := Lib.hid (((Sn.start w).box 36 [.int .i64 p.dl, .slice A1 p.acts.length c1, .slice A2 p.lks.length c2, .slice A3 p.ress.length c3, .slice A4 p.stk.length c4]).box 46 [.slice E1 s.st.length f1, .slice E2 s.mo.length f2])
  simp only [World.size_alloc] at S0
  obtain ⟨b3, o3, rfl, hb3, hc3⟩ := g3 r hr
  obtain ⟨U0, d0, U1, d1, y0, y1, _, ru⟩ := hc3 r hr
  obtain ⟨b1, o1, rfl, hb1, hc1⟩ := g1 a ha
  obtain ⟨M1, m1, x0, x1, x2, _⟩ := hc1 a ha
  obtain ⟨M2, m2, t0, t1, t2, _⟩ := hc1 b hb
  have hb8 : b < s.st.length := by rw [hf.h1]; exact hb
  obtain ⟨b8, o8, rfl, hb8', hc8⟩ := X1.out b hb8
  have y8 := hc8 b hb8
  rw [← stA_at hb8] at y8
  obtain ⟨f, g, hfa, hga, hff, hgg, HT0⟩ := setupT_at hf.ok hm hr ha hb
  have RU := Lib.hid ru
  have HF := Lib.hid hf
  have HA := Lib.hid (show aheadB p s r a b = decide (endA p s a + (p.ress[r].su[f])[g] ≤ stA s b) from by rw [← HT0]; rfl)
  have hsu : 0 ≤ (p.ress[r].su[f])[g] ∧ (p.ress[r].su[f])[g] ≤ 12 := by
    have h1 := pok_ress hf.ok _ (List.getElem_mem hr)
    simp only [rokB, Bool.and_eq_true, List.all_eq_true] at h1
    have h2 := h1.1 _ (List.getElem_mem hff)
    simp only [rowB, Bool.and_eq_true, List.all_eq_true] at h2
    exact inB_iff.1 (h2.2 _ (List.getElem_mem hgg))
  have HFF := Lib.hid hff
  have HGG := Lib.hid hgg
  have hen := hf.en ha
  have hr' : (r : Int) < (p.ress.length : Int) := by omega
  have r0 : (0 : Int) ≤ (r : Int) := by omega
  have ha' : (a : Int) < (p.acts.length : Int) := by omega
  have a0 : (0 : Int) ≤ (a : Int) := by omega
  have hb' : (b : Int) < (p.acts.length : Int) := by omega
  have b0 : (0 : Int) ≤ (b : Int) := by omega
  have hb'' : (b : Int) < (s.st.length : Int) := by omega
  rw [hfa] at x1
  rw [hga] at t1
  clear hf hv r1 r2 r3 r4 g3 hc3 g1 hc1 ru hl3 hl1 hc8 HT0 hfa hga X1 X2
  go_enter Tryz.func169, Tryz.ntmps169
  go_wp2_with fail
  have z0 := (S0.out.1.cell (p := ⟨b3, o3 + r * 2, none⟩) hb3).trans y0
  have z1 := (S0.out.1.cell (p := ⟨b3, o3 + r * 2 + 1, none⟩) hb3).trans y1
  have k0 := (S0.out.1.cell (p := ⟨b1, o1 + a * 3, none⟩) hb1).trans x0
  have k1 := (S0.out.1.cell (p := ⟨b1, o1 + a * 3 + 1, none⟩) hb1).trans x1
  have k2 := (S0.out.1.cell (p := ⟨b1, o1 + a * 3 + 2, none⟩) hb1).trans x2
  have l0 := (S0.out.1.cell (p := ⟨b1, o1 + b * 3, none⟩) hb1).trans t0
  have l1 := (S0.out.1.cell (p := ⟨b1, o1 + b * 3 + 1, none⟩) hb1).trans t1
  have l2 := (S0.out.1.cell (p := ⟨b1, o1 + b * 3 + 2, none⟩) hb1).trans t2
  generalize World.alloc (World.alloc w _) _ = wv at S0 z0 z1 k0 k1 k2 l0 l1 l2 ⊢
  obtain ⟨p0, p1, p2, p3, p4, pf⟩ := (S0.out.bk 1 rfl).c5
  obtain ⟨q0, q1, qf⟩ := (S0.out.bk 0 rfl).c2
  have hl0 := (S0.out.bk 0 rfl).lt
  have hl1 := (S0.out.bk 1 rfl).lt
  have hsz := S0.out.1.size
  have hb3' : b3 < wv.heap.size := by omega
  have hb1' : b1 < wv.heap.size := by omega
  have S1 := Lib.hid S0.out.drew1
  have CE := Lib.hid (fun (W : World) (h : Wr [] wv.drew W) => show Hid (Wr [] wv.drew W) ∧ W.cell? ⟨w.heap.size, 0, none⟩ = some (.int .i64 p.dl) ∧ W.cell? ⟨w.heap.size, 1, none⟩ = some (.slice (some ⟨b1, o1, none⟩) p.acts.length c1) ∧ W.cell? ⟨w.heap.size, 2, none⟩ = some (.slice A2 p.lks.length c2) ∧ W.cell? ⟨w.heap.size, 3, none⟩ = some (.slice (some ⟨b3, o3, none⟩) p.ress.length c3) ∧ W.cell? ⟨w.heap.size, 4, none⟩ = some (.slice A4 p.stk.length c4) ∧ W.cell? ⟨b3, o3 + r * 2, none⟩ = some (.slice U0 p.ress[r].st.length d0) ∧ W.cell? ⟨b3, o3 + r * 2 + 1, none⟩ = some (.slice U1 p.ress[r].su.length d1) ∧ W.cell? ⟨b1, o1 + a * 3, none⟩ = some (.string p.acts[a].nm) ∧ W.cell? ⟨b1, o1 + a * 3 + 1, none⟩ = some (.int .i64 (f : Int)) ∧ W.cell? ⟨b1, o1 + a * 3 + 2, none⟩ = some (.slice M1 p.acts[a].ms.length m1) ∧ W.cell? ⟨b1, o1 + b * 3, none⟩ = some (.string p.acts[b].nm) ∧ W.cell? ⟨b1, o1 + b * 3 + 1, none⟩ = some (.int .i64 (g : Int)) ∧ W.cell? ⟨b1, o1 + b * 3 + 2, none⟩ = some (.slice M2 p.acts[b].ms.length m2) from ⟨Lib.hid h, (wr_cell h (p := ⟨w.heap.size, 0, none⟩) hl1 (by simp)).trans (by exact by simpa using p0), (wr_cell h (p := ⟨w.heap.size, 1, none⟩) hl1 (by simp)).trans (by exact by simpa using p1), (wr_cell h (p := ⟨w.heap.size, 2, none⟩) hl1 (by simp)).trans (by exact by simpa using p2), (wr_cell h (p := ⟨w.heap.size, 3, none⟩) hl1 (by simp)).trans (by exact by simpa using p3), (wr_cell h (p := ⟨w.heap.size, 4, none⟩) hl1 (by simp)).trans (by exact by simpa using p4), (wr_cell h (p := ⟨b3, o3 + r * 2, none⟩) hb3' (by simp)).trans (by exact by simpa using z0), (wr_cell h (p := ⟨b3, o3 + r * 2 + 1, none⟩) hb3' (by simp)).trans (by exact by simpa using z1), (wr_cell h (p := ⟨b1, o1 + a * 3, none⟩) hb1' (by simp)).trans (by exact by simpa using k0), (wr_cell h (p := ⟨b1, o1 + a * 3 + 1, none⟩) hb1' (by simp)).trans (by exact by simpa using k1), (wr_cell h (p := ⟨b1, o1 + a * 3 + 2, none⟩) hb1' (by simp)).trans (by exact by simpa using k2), (wr_cell h (p := ⟨b1, o1 + b * 3, none⟩) hb1' (by simp)).trans (by exact by simpa using l0), (wr_cell h (p := ⟨b1, o1 + b * 3 + 1, none⟩) hb1' (by simp)).trans (by exact by simpa using l1), (wr_cell h (p := ⟨b1, o1 + b * 3 + 2, none⟩) hb1' (by simp)).trans (by exact by simpa using l2)⟩)
  have INIT := Lib.hid (CE.out _ (Wr.refl _ _))
  have KW := Lib.hid (fun (W2 W : World) (hb : Wr [] W W2) (h : Hid (Wr [] wv.drew W) ∧ W.cell? ⟨w.heap.size, 0, none⟩ = some (.int .i64 p.dl) ∧ W.cell? ⟨w.heap.size, 1, none⟩ = some (.slice (some ⟨b1, o1, none⟩) p.acts.length c1) ∧ W.cell? ⟨w.heap.size, 2, none⟩ = some (.slice A2 p.lks.length c2) ∧ W.cell? ⟨w.heap.size, 3, none⟩ = some (.slice (some ⟨b3, o3, none⟩) p.ress.length c3) ∧ W.cell? ⟨w.heap.size, 4, none⟩ = some (.slice A4 p.stk.length c4) ∧ W.cell? ⟨b3, o3 + r * 2, none⟩ = some (.slice U0 p.ress[r].st.length d0) ∧ W.cell? ⟨b3, o3 + r * 2 + 1, none⟩ = some (.slice U1 p.ress[r].su.length d1) ∧ W.cell? ⟨b1, o1 + a * 3, none⟩ = some (.string p.acts[a].nm) ∧ W.cell? ⟨b1, o1 + a * 3 + 1, none⟩ = some (.int .i64 (f : Int)) ∧ W.cell? ⟨b1, o1 + a * 3 + 2, none⟩ = some (.slice M1 p.acts[a].ms.length m1) ∧ W.cell? ⟨b1, o1 + b * 3, none⟩ = some (.string p.acts[b].nm) ∧ W.cell? ⟨b1, o1 + b * 3 + 1, none⟩ = some (.int .i64 (g : Int)) ∧ W.cell? ⟨b1, o1 + b * 3 + 2, none⟩ = some (.slice M2 p.acts[b].ms.length m2)) => CE.out W2 (h.1.out.trans hb))
  clear p0 p1 p2 p3 p4 pf q0 q1 qf z0 z1 k0 k1 k2 l0 l1 l2 y0 y1 x0 x1 x2 t0 t1 t2
  go_region_held3 (fun W => Hid (Wr [] wv.drew W) ∧ W.cell? ⟨w.heap.size, 0, none⟩ = some (.int .i64 p.dl) ∧ W.cell? ⟨w.heap.size, 1, none⟩ = some (.slice (some ⟨b1, o1, none⟩) p.acts.length c1) ∧ W.cell? ⟨w.heap.size, 2, none⟩ = some (.slice A2 p.lks.length c2) ∧ W.cell? ⟨w.heap.size, 3, none⟩ = some (.slice (some ⟨b3, o3, none⟩) p.ress.length c3) ∧ W.cell? ⟨w.heap.size, 4, none⟩ = some (.slice A4 p.stk.length c4) ∧ W.cell? ⟨b3, o3 + r * 2, none⟩ = some (.slice U0 p.ress[r].st.length d0) ∧ W.cell? ⟨b3, o3 + r * 2 + 1, none⟩ = some (.slice U1 p.ress[r].su.length d1) ∧ W.cell? ⟨b1, o1 + a * 3, none⟩ = some (.string p.acts[a].nm) ∧ W.cell? ⟨b1, o1 + a * 3 + 1, none⟩ = some (.int .i64 (f : Int)) ∧ W.cell? ⟨b1, o1 + a * 3 + 2, none⟩ = some (.slice M1 p.acts[a].ms.length m1) ∧ W.cell? ⟨b1, o1 + b * 3, none⟩ = some (.string p.acts[b].nm) ∧ W.cell? ⟨b1, o1 + b * 3 + 1, none⟩ = some (.int .i64 (g : Int)) ∧ W.cell? ⟨b1, o1 + b * 3 + 2, none⟩ = some (.slice M2 p.acts[b].ms.length m2)) (first | exact INIT.out | exact KW.out _ _ (by assumption) (by assumption) | exact KW.out _ _ (Wr.of_below (by assumption) (Nat.le_refl _)) (by assumption) | exact KW.out _ _ (Wr.of_below ((Below.refl _ _).alloc (Nat.le_refl _) _) (Nat.le_refl _)) (by assumption))
    ((go_at_call 170; refine (setupBetween_any p.ress[r].su _ _ _ _ _ _ _ _ _ _ _ _ _ f g _ (by exact S1.out.old RU.out) HFF.out HGG.out).mono ?_; rintro e w5 ⟨rfl, bb⟩; have S2 := Lib.hid (S1.out.go bb)))
  rename_i hHeld
  clear hHeld CE INIT KW S1 bb
  generalize (p.ress[r].su[f])[g] = ans at HA hsu ⊢
  have z8 := (S2.out.1.cell (p := ⟨b8, o8 + b, none⟩) hb8').trans y8
  obtain ⟨p0, p1, p2, p3, p4, pf⟩ := (S2.out.bk 1 rfl).c5
  obtain ⟨q0, q1, qf⟩ := (S2.out.bk 0 rfl).c2
  have hm0 := (S2.out.bk 0 rfl).lt
  have hm1 := (S2.out.bk 1 rfl).lt
  have hsz2 := S2.out.1.size
  have hb8'' : b8 < w5.heap.size := by omega
  have S3 := Lib.hid S2.out.drew1
  generalize stA s b = sb at HA z8
  go_wp2_with fail
  have CE := Lib.hid (fun (W : World) (h : Wr [] w5.drew W) => show Hid (Wr [] w5.drew W) ∧ W.cell? ⟨w.heap.size, 0, none⟩ = some (.int .i64 p.dl) ∧ W.cell? ⟨w.heap.size, 1, none⟩ = some (.slice (some ⟨b1, o1, none⟩) p.acts.length c1) ∧ W.cell? ⟨w.heap.size, 2, none⟩ = some (.slice A2 p.lks.length c2) ∧ W.cell? ⟨w.heap.size, 3, none⟩ = some (.slice (some ⟨b3, o3, none⟩) p.ress.length c3) ∧ W.cell? ⟨w.heap.size, 4, none⟩ = some (.slice A4 p.stk.length c4) ∧ W.cell? ⟨w.heap.size + 1, 0, none⟩ = some (.slice (some ⟨b8, o8, none⟩) s.st.length f1) ∧ W.cell? ⟨w.heap.size + 1, 1, none⟩ = some (.slice E2 s.mo.length f2) ∧ W.cell? ⟨b8, o8 + b, none⟩ = some (.int .i64 sb) from ⟨Lib.hid h, (wr_cell h (p := ⟨w.heap.size, 0, none⟩) hm1 (by simp)).trans (by exact by simpa using p0), (wr_cell h (p := ⟨w.heap.size, 1, none⟩) hm1 (by simp)).trans (by exact by simpa using p1), (wr_cell h (p := ⟨w.heap.size, 2, none⟩) hm1 (by simp)).trans (by exact by simpa using p2), (wr_cell h (p := ⟨w.heap.size, 3, none⟩) hm1 (by simp)).trans (by exact by simpa using p3), (wr_cell h (p := ⟨w.heap.size, 4, none⟩) hm1 (by simp)).trans (by exact by simpa using p4), (wr_cell h (p := ⟨w.heap.size + 1, 0, none⟩) hm0 (by simp)).trans (by exact by simpa using q0), (wr_cell h (p := ⟨w.heap.size + 1, 1, none⟩) hm0 (by simp)).trans (by exact by simpa using q1), (wr_cell h (p := ⟨b8, o8 + b, none⟩) hb8'' (by simp)).trans (by exact by simpa using z8)⟩)
  have INIT := Lib.hid (CE.out _ (Wr.refl _ _))
  have KW := Lib.hid (fun (W2 W : World) (hb : Wr [] W W2) (h : Hid (Wr [] w5.drew W) ∧ W.cell? ⟨w.heap.size, 0, none⟩ = some (.int .i64 p.dl) ∧ W.cell? ⟨w.heap.size, 1, none⟩ = some (.slice (some ⟨b1, o1, none⟩) p.acts.length c1) ∧ W.cell? ⟨w.heap.size, 2, none⟩ = some (.slice A2 p.lks.length c2) ∧ W.cell? ⟨w.heap.size, 3, none⟩ = some (.slice (some ⟨b3, o3, none⟩) p.ress.length c3) ∧ W.cell? ⟨w.heap.size, 4, none⟩ = some (.slice A4 p.stk.length c4) ∧ W.cell? ⟨w.heap.size + 1, 0, none⟩ = some (.slice (some ⟨b8, o8, none⟩) s.st.length f1) ∧ W.cell? ⟨w.heap.size + 1, 1, none⟩ = some (.slice E2 s.mo.length f2) ∧ W.cell? ⟨b8, o8 + b, none⟩ = some (.int .i64 sb)) => CE.out W2 (h.1.out.trans hb))
  clear p0 p1 p2 p3 p4 pf q0 q1 qf z8 y8
  go_region_held3 (fun W => Hid (Wr [] w5.drew W) ∧ W.cell? ⟨w.heap.size, 0, none⟩ = some (.int .i64 p.dl) ∧ W.cell? ⟨w.heap.size, 1, none⟩ = some (.slice (some ⟨b1, o1, none⟩) p.acts.length c1) ∧ W.cell? ⟨w.heap.size, 2, none⟩ = some (.slice A2 p.lks.length c2) ∧ W.cell? ⟨w.heap.size, 3, none⟩ = some (.slice (some ⟨b3, o3, none⟩) p.ress.length c3) ∧ W.cell? ⟨w.heap.size, 4, none⟩ = some (.slice A4 p.stk.length c4) ∧ W.cell? ⟨w.heap.size + 1, 0, none⟩ = some (.slice (some ⟨b8, o8, none⟩) s.st.length f1) ∧ W.cell? ⟨w.heap.size + 1, 1, none⟩ = some (.slice E2 s.mo.length f2) ∧ W.cell? ⟨b8, o8 + b, none⟩ = some (.int .i64 sb)) (first | exact INIT.out | exact KW.out _ _ (by assumption) (by assumption) | exact KW.out _ _ (Wr.of_below (by assumption) (Nat.le_refl _)) (by assumption) | exact KW.out _ _ (Wr.of_below ((Below.refl _ _).alloc (Nat.le_refl _) _) (Nat.le_refl _)) (by assumption))
    ((go_at_call 149; refine (implEnd_any p s a _ _ _ (by exact S3.out.old HV.out) (by exact S3.out.old HQ.out) HF.out ha).mono ?_; rintro e w6 ⟨rfl, bb⟩; have S4 := Lib.hid (S3.out.go bb)))
  rename_i hHeld
  clear hHeld CE INIT KW S3 bb
  generalize endA p s a = en at HA hen ⊢
  have hw : IntKind.i64.wrap (en + ans) = en + ans := by rw [IntKind.wrap_i64]; omega
  go_wp2
  go_ret
  exact ⟨ret_bZ (by rw [hw]; exact HA.out.symm), S4.out.1⟩

theorem pairF_a {p : Pj} {s : Sc} {r a b : Nat} (h : usA p s r a = 0) : pairF p s r a b = false := by simp [pairF, h]
theorem pairF_b {p : Pj} {s : Sc} {r a b : Nat} (h : usA p s r b = 0) : pairF p s r a b = false := by simp [pairF, h]
theorem pairF_1 {p : Pj} {s : Sc} {r a b : Nat} (h : aheadB p s r a b = true) : pairF p s r a b = false := by simp [pairF, h]
theorem pairF_2 {p : Pj} {s : Sc} {r a b : Nat} (h : ¬ usA p s r a = 0) (h1 : ¬ usA p s r b = 0) (h2 : aheadB p s r a b = false) : (!pairF p s r a b) = aheadB p s r b a := by simp [pairF, h, h1, h2]
set_option maxRecDepth 100000 in
set_option maxHeartbeats 8000000 in
theorem met_par (p : Pj) (s : Sc) (r a b : Nat) (v u : Value) (w : World) (hv : (trPj p).rd w v) (hs : (trSc s).rd w u) (hf : Form p s) (hm : machB p (r : Int) = true) (hr : r < p.ress.length) (ha : a < p.acts.length) (hb : b < p.acts.length) :
    Calls Tryz.prog 167 #[.agg #[.int .i64 (r : Int), .int .i64 (a : Int), .int .i64 (b : Int)], v, u] w fun e w' => e = .returned (.bool (!failC p s (.par (r : Int) (a : Int) (b : Int)))) ∧ Below w.heap.size w w' := by
  have HX := Lib.hid (show failC p s (.par (r : Int) (a : Int) (b : Int)) = pairF p s r a b from rfl)
  rw [HX.out]
  have HV := Lib.hid hv
  obtain ⟨A1, c1, A2, c2, A3, c3, A4, c4, rfl, _⟩ := rdProject_t hv
  clear hv
  have HQ := Lib.hid hs
  obtain ⟨E1, f1, E2, f2, rfl, q1, q2⟩ := rdSchedule_t hs
  obtain ⟨ht1, B8, d8, he, x1⟩ := rdI (rd_flat q1)
  injection he with he _ he2
  subst he he2
  have X1 := Lib.hid x1
  obtain ⟨ht2, B9, d9, he, x2⟩ := rdI (rd_flat q2)
  injection he with he _ he2
  subst he he2
  have X2 := Lib.hid x2
  clear hs q1 q2 x1 x2
  have S0 := Lib.hid ((((Sn.start w).box 127 [.int .i64 (r : Int), .int .i64 (a : Int), .int .i64 (b : Int)]).box 36 [.int .i64 p.dl, .slice A1 p.acts.length c1, .slice A2 p.lks.length c2, .slice A3 p.ress.length c3, .slice A4 p.stk.length c4]).box 46 [.slice E1 s.st.length f1, .slice E2 s.mo.length f2])
  simp only [World.size_alloc] at S0
  go_enter Tryz.func167, Tryz.ntmps167
  have HF := Lib.hid hf
  have HM := Lib.hid hm
  have P1 := Lib.hid (@pairF_a p s r a b)
  have P2 := Lib.hid (@pairF_b p s r a b)
  have P3 := Lib.hid (@pairF_1 p s r a b)
  have P4 := Lib.hid (@pairF_2 p s r a b)
  clear hf hm HX
  generalize pairF p s r a b = pf0 at P1 P2 P3 P4 ⊢
  go_wp2_with fail
  refine (usageOf_any p s r a _ _ _ (by exact S0.out.old HV.out) (by exact S0.out.old HQ.out) HF.out hr ha).mono ?_
  rintro e w1 ⟨rfl, b⟩
  have S1 := Lib.hid (S0.out.go b)
  clear S0 b
  generalize usA p s r a = ua at P1 P4 ⊢
  by_cases hua : ua = 0
  · have HP := Lib.hid (P1.out hua)
    subst hua
    go_wp2
    go_ret
    exact ⟨ret_bZ (by rw [HP.out]; rfl), S1.out.1⟩
  have t1 : (ua == 0) = false := by simpa using hua
  have P4' := Lib.hid (P4.out hua)
  obtain ⟨t0, t1, t2, tf⟩ := (S1.out.bk 2 rfl).c3
  obtain ⟨e0, e1, e2, e3, e4, ef⟩ := (S1.out.bk 1 rfl).c5
  obtain ⟨q0, q1, qf⟩ := (S1.out.bk 0 rfl).c2
  clear P4 hua P1
  go_wp2_with fail
  clear t0 t1 t2 tf
  clear e0 e1 e2 e3 e4 ef
  clear q0 q1 qf
  refine (usageOf_any p s r b _ _ _ (by exact S1.out.old HV.out) (by exact S1.out.old HQ.out) HF.out hr hb).mono ?_
  rintro e w2 ⟨rfl, b⟩
  have S2 := Lib.hid (S1.out.go b)
  clear S1 b
  generalize usA p s r b = ub at P2 P4' ⊢
  by_cases hub : ub = 0
  · have HP := Lib.hid (P2.out hub)
    subst hub
    go_wp2
    go_ret
    exact ⟨ret_bZ (by rw [HP.out]; rfl), S2.out.1⟩
  have t2 : (ub == 0) = false := by simpa using hub
  have P5 := Lib.hid (P4'.out hub)
  obtain ⟨t0, t1, t2, tf⟩ := (S2.out.bk 2 rfl).c3
  obtain ⟨e0, e1, e2, e3, e4, ef⟩ := (S2.out.bk 1 rfl).c5
  obtain ⟨q0, q1, qf⟩ := (S2.out.bk 0 rfl).c2
  clear P4' hub P2
  go_wp2_with fail
  clear t0 t1 t2 tf
  clear e0 e1 e2 e3 e4 ef
  clear q0 q1 qf
  refine (isReadyAfter_any p s r a b _ _ _ (by exact S2.out.old HV.out) (by exact S2.out.old HQ.out) HF.out HM.out hr ha hb).mono ?_
  rintro e w3 ⟨rfl, b⟩
  have S3 := Lib.hid (S2.out.go b)
  clear S2 b
  generalize aheadB p s r a b = x1 at P3 P5 ⊢
  rcases x1 with _ | _
  rotate_left
  · have HP := Lib.hid (P3.out rfl)
    go_wp2
    go_ret
    exact ⟨ret_bZ (by rw [HP.out]; rfl), S3.out.1⟩
  have P6 := Lib.hid (P5.out rfl)
  obtain ⟨t0, t1, t2, tf⟩ := (S3.out.bk 2 rfl).c3
  obtain ⟨e0, e1, e2, e3, e4, ef⟩ := (S3.out.bk 1 rfl).c5
  obtain ⟨q0, q1, qf⟩ := (S3.out.bk 0 rfl).c2
  go_wp2_with fail
  clear t0 t1 t2 tf
  clear e0 e1 e2 e3 e4 ef
  clear q0 q1 qf
  refine (isReadyAfter_any p s r b a _ _ _ (by exact S3.out.old HV.out) (by exact S3.out.old HQ.out) HF.out HM.out hr hb ha).mono ?_
  rintro e w4 ⟨rfl, b⟩
  have S4 := Lib.hid (S3.out.go b)
  clear S3 b
  go_wp2
  go_ret
  exact ⟨ret_bZ P6.out.symm, S4.out.1⟩
end Go.Proofs.YtaglfdkeomjpdaaGreat
