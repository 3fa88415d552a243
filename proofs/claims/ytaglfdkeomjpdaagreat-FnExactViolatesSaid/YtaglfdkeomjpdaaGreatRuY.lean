/- DERIVED. CONTRACTS of chapter 11: isMet of the rule of links; exists of each kind. -/
import Derived.Test.YtaglfdkeomjpdaaGreatRuW
namespace Go.Proofs.YtaglfdkeomjpdaaGreat
open Go.RowKit Go.Shelf
set_option linter.unusedVariables false

theorem lnk_eq {p : Pj} {s : Sc} {i : Nat} (hi : i < p.lks.length) {fr to : Nat} (hfr : p.lks[i].fr = (fr : Int)) (hto : p.lks[i].to = (to : Int)) (x : Int) (hx : x = if p.lks[i].fe = true then endA p s fr else stA s fr) : (!failC p s (.lnk (i : Int))) = decide (x + p.lks[i].lag ≤ stA s to) := by
  rw [show failC p s (.lnk (i : Int)) = decide (stA s (lkA p i).to.toNat < frA p s (lkA p i) + (lkA p i).lag) from rfl, not_lt_dec, lkA_at hi, hto, frA, hfr, hx]
  rfl
theorem ge_dec (a b : Int) : decide (a ≤ b) = decide (b ≥ a) := rfl

set_option maxRecDepth 100000 in
set_option maxHeartbeats 8000000 in
theorem met_lnk (p : Pj) (s : Sc) (i : Nat) (v u : Value) (w : World) (hv : (trPj p).rd w v) (hs : (trSc s).rd w u) (hf : Form p s) (hi : i < p.lks.length) :
    Calls Tryz.prog 147 #[.agg #[.int .i64 (i : Int)], v, u] w fun e w' => e = .returned (.bool (!failC p s (.lnk (i : Int)))) ∧ Below w.heap.size w w' := by
  have HV := Lib.hid hv
  obtain ⟨A1, c1, A2, c2, A3, c3, A4, c4, rfl, r1, r2, r3, r4⟩ := rdProject_t hv
  clear hv
  have HQ := Lib.hid hs
  obtain ⟨E1, f1, E2, f2, rfl, q1, q2⟩ := rdSchedule_t hs
  obtain ⟨ht1, B8, d8, he, x1⟩ := rdI (rd_flat q1)
  injection he with he _ he2
  subst he he2
  have X1 := Lib.hid x1
  obtain ⟨ht2, B9, d9, he, x2⟩ := rdI (rd_flat q2)
  injection he with he _ he2
  subst he he2
  have X2 := Lib.hid x2
  clear hs q1 q2 x1 x2
  have S0 := Lib.hid ((((Sn.start w).box 119 [.int .i64 (i : Int)]).box 36 [.int .i64 p.dl, .slice A1 p.acts.length c1, .slice A2 p.lks.length c2, .slice A3 p.ress.length c3, .slice A4 p.stk.length c4]).box 46 [.slice E1 s.st.length f1, .slice E2 s.mo.length f2])
  simp only [World.size_alloc] at S0
  go_enter Tryz.func147, Tryz.ntmps147
  obtain ⟨hl2, B2, d2, he, g2⟩ := rdLinkS_t r2
  injection he with he _ he2
  subst he he2
  obtain ⟨b2, o2, rfl, hb2, hc2⟩ := g2 i hi
  obtain ⟨x0, x1, x2, x3⟩ := hc2 i hi
  have hlk := pok_lk hf.ok hi
  simp only [lokB, Bool.and_eq_true] at hlk
  have hfr := inB_iff.1 hlk.1
  have hto := inB_iff.1 hlk.2.1
  have hlag := inB_iff.1 hlk.2.2.2
  obtain ⟨fr, hfr'⟩ : ∃ k : Nat, p.lks[i].fr = (k : Int) := ⟨p.lks[i].fr.toNat, by omega⟩
  obtain ⟨to, hto'⟩ : ∃ k : Nat, p.lks[i].to = (k : Int) := ⟨p.lks[i].to.toNat, by omega⟩
  have HF := Lib.hid hf
  have HL := Lib.hid (@lnk_eq p s i hi fr to hfr' hto')
  rw [hfr'] at x0 hfr
  rw [hto'] at x1 hto
  have h1 := hf.h1
  have hfl : fr < s.st.length := by omega
  have htl : to < s.st.length := by omega
  have hfl2 : fr < p.acts.length := by omega
  obtain ⟨b8, o8, rfl, hb8, hc8⟩ := X1.out fr hfl
  have y8 := hc8 fr hfl
  have y9 := hc8 to htl
  rw [← stA_at hfl] at y8
  rw [← stA_at htl] at y9
  have hi' : (i : Int) < (p.lks.length : Int) := by omega
  have i0 : (0 : Int) ≤ (i : Int) := by omega
  have fr0 : (0 : Int) ≤ (fr : Int) := by omega
  have fr1 : (fr : Int) < (s.st.length : Int) := by omega
  have t0 : (0 : Int) ≤ (to : Int) := by omega
  have t1 : (to : Int) < (s.st.length : Int) := by omega
  have hen := hf.en hfl2
  have hsf := hf.st fr hfl2
  clear hf r1 r2 r3 r4 g2 hc2 hl2 hlk hfr' hto' X1 X2 hc8 hfr hto h1 hfl htl
  generalize failC p s (.lnk (i : Int)) = fb at HL ⊢
  generalize p.lks[i].lag = lag at x3 HL hlag
  have z0 : World.cell? (World.alloc (World.alloc (World.alloc w (.cells #[.int .i64 (i : Int)] 119)) (.cells #[.int .i64 p.dl, .slice A1 p.acts.length c1, .slice (some ⟨b2, o2, none⟩) p.lks.length c2, .slice A3 p.ress.length c3, .slice A4 p.stk.length c4] 36)) (.cells #[.slice (some ⟨b8, o8, none⟩) s.st.length f1, .slice E2 s.mo.length f2] 46)) ⟨b2, o2 + i * 4, none⟩ = some (.int .i64 (fr : Int)) := (S0.out.1.cell (p := ⟨b2, o2 + i * 4, none⟩) hb2).trans x0
  have z1 : World.cell? (World.alloc (World.alloc (World.alloc w (.cells #[.int .i64 (i : Int)] 119)) (.cells #[.int .i64 p.dl, .slice A1 p.acts.length c1, .slice (some ⟨b2, o2, none⟩) p.lks.length c2, .slice A3 p.ress.length c3, .slice A4 p.stk.length c4] 36)) (.cells #[.slice (some ⟨b8, o8, none⟩) s.st.length f1, .slice E2 s.mo.length f2] 46)) ⟨b2, o2 + i * 4 + 1, none⟩ = some (.int .i64 (to : Int)) := (S0.out.1.cell (p := ⟨b2, o2 + i * 4 + 1, none⟩) hb2).trans x1
  have z2 : World.cell? (World.alloc (World.alloc (World.alloc w (.cells #[.int .i64 (i : Int)] 119)) (.cells #[.int .i64 p.dl, .slice A1 p.acts.length c1, .slice (some ⟨b2, o2, none⟩) p.lks.length c2, .slice A3 p.ress.length c3, .slice A4 p.stk.length c4] 36)) (.cells #[.slice (some ⟨b8, o8, none⟩) s.st.length f1, .slice E2 s.mo.length f2] 46)) ⟨b2, o2 + i * 4 + 2, none⟩ = some (.bool p.lks[i].fe) := (S0.out.1.cell (p := ⟨b2, o2 + i * 4 + 2, none⟩) hb2).trans x2
  have z3 : World.cell? (World.alloc (World.alloc (World.alloc w (.cells #[.int .i64 (i : Int)] 119)) (.cells #[.int .i64 p.dl, .slice A1 p.acts.length c1, .slice (some ⟨b2, o2, none⟩) p.lks.length c2, .slice A3 p.ress.length c3, .slice A4 p.stk.length c4] 36)) (.cells #[.slice (some ⟨b8, o8, none⟩) s.st.length f1, .slice E2 s.mo.length f2] 46)) ⟨b2, o2 + i * 4 + 3, none⟩ = some (.int .i64 lag) := (S0.out.1.cell (p := ⟨b2, o2 + i * 4 + 3, none⟩) hb2).trans x3
  have S1 := Lib.hid (S0.out.box 106 [.int .i64 (fr : Int), .int .i64 (to : Int), .bool p.lks[i].fe, .int .i64 lag])
  simp only [World.size_alloc] at S1
  clear x0 x1 x2 x3
  rcases hfe : p.lks[i].fe with _ | _
  · rw [hfe] at z2 HL S1
    have z8 : World.cell? (World.alloc (World.alloc (World.alloc (World.alloc w (.cells #[.int .i64 (i : Int)] 119)) (.cells #[.int .i64 p.dl, .slice A1 p.acts.length c1, .slice (some ⟨b2, o2, none⟩) p.lks.length c2, .slice A3 p.ress.length c3, .slice A4 p.stk.length c4] 36)) (.cells #[.slice (some ⟨b8, o8, none⟩) s.st.length f1, .slice E2 s.mo.length f2] 46)) (.cells #[.int .i64 (fr : Int), .int .i64 (to : Int), .bool false, .int .i64 lag] 106)) ⟨b8, o8 + fr, none⟩ = some (.int .i64 (stA s fr)) := (S1.out.1.cell (p := ⟨b8, o8 + fr, none⟩) hb8).trans y8
    have z9 : World.cell? (World.alloc (World.alloc (World.alloc (World.alloc w (.cells #[.int .i64 (i : Int)] 119)) (.cells #[.int .i64 p.dl, .slice A1 p.acts.length c1, .slice (some ⟨b2, o2, none⟩) p.lks.length c2, .slice A3 p.ress.length c3, .slice A4 p.stk.length c4] 36)) (.cells #[.slice (some ⟨b8, o8, none⟩) s.st.length f1, .slice E2 s.mo.length f2] 46)) (.cells #[.int .i64 (fr : Int), .int .i64 (to : Int), .bool false, .int .i64 lag] 106)) ⟨b8, o8 + to, none⟩ = some (.int .i64 (stA s to)) := (S1.out.1.cell (p := ⟨b8, o8 + to, none⟩) hb8).trans y9
    have HR := Lib.hid (HL.out (stA s fr) rfl)
    clear y8 y9
    generalize stA s fr = sf at z8 HR hsf
    generalize stA s to = st at z9 HR
    have hw : IntKind.i64.wrap (sf + lag) = sf + lag := by rw [IntKind.wrap_i64]; omega
    go_wp2_with fail
    clear z0 z1 z2 z3
    generalize World.alloc (World.alloc (World.alloc (World.alloc w _) _) _) _ = wv at S1 z8 z9 ⊢
    obtain ⟨e0, e1, e2, e3, ef⟩ := (S1.out.bk 0 rfl).c4
    obtain ⟨q0, q1, qf⟩ := (S1.out.bk 1 rfl).c2
    have hl0 := (S1.out.bk 0 rfl).lt
    have hl1 := (S1.out.bk 1 rfl).lt
    have hsz := S1.out.1.size
    have hb8' : b8 < wv.heap.size := by omega
    have S2 := Lib.hid S1.out.drew1
    have CE := Lib.hid (fun (W : World) (h : Wr [] wv.drew W) => show Hid (Wr [] wv.drew W) ∧ W.cell? ⟨w.heap.size + 1 + 1, 0, none⟩ = some (.slice (some ⟨b8, o8, none⟩) s.st.length f1) ∧ W.cell? ⟨w.heap.size + 1 + 1 + 1, 1, none⟩ = some (.int .i64 (to : Int)) ∧ W.cell? ⟨w.heap.size + 1 + 1 + 1, 3, none⟩ = some (.int .i64 lag) ∧ W.cell? ⟨b8, o8 + to, none⟩ = some (.int .i64 st) from ⟨Lib.hid h, (wr_cell h (p := ⟨w.heap.size + 1 + 1, 0, none⟩) hl1 (by simp)).trans (by exact by simpa using q0), (wr_cell h (p := ⟨w.heap.size + 1 + 1 + 1, 1, none⟩) hl0 (by simp)).trans (by exact by simpa using e1), (wr_cell h (p := ⟨w.heap.size + 1 + 1 + 1, 3, none⟩) hl0 (by simp)).trans (by exact by simpa using e3), (wr_cell h (p := ⟨b8, o8 + to, none⟩) hb8' (by simp)).trans (by exact by simpa using z9)⟩)
    have INIT := Lib.hid (CE.out _ (Wr.refl _ _))
    have KW := Lib.hid (fun (W2 W : World) (hb : Wr [] W W2) (h : Hid (Wr [] wv.drew W) ∧ W.cell? ⟨w.heap.size + 1 + 1, 0, none⟩ = some (.slice (some ⟨b8, o8, none⟩) s.st.length f1) ∧ W.cell? ⟨w.heap.size + 1 + 1 + 1, 1, none⟩ = some (.int .i64 (to : Int)) ∧ W.cell? ⟨w.heap.size + 1 + 1 + 1, 3, none⟩ = some (.int .i64 lag) ∧ W.cell? ⟨b8, o8 + to, none⟩ = some (.int .i64 st)) => CE.out W2 (h.1.out.trans hb))
    clear e0 e1 e2 e3 ef q0 q1 qf z8 z9
    go_region_held3 (fun W => Hid (Wr [] wv.drew W) ∧ W.cell? ⟨w.heap.size + 1 + 1, 0, none⟩ = some (.slice (some ⟨b8, o8, none⟩) s.st.length f1) ∧ W.cell? ⟨w.heap.size + 1 + 1 + 1, 1, none⟩ = some (.int .i64 (to : Int)) ∧ W.cell? ⟨w.heap.size + 1 + 1 + 1, 3, none⟩ = some (.int .i64 lag) ∧ W.cell? ⟨b8, o8 + to, none⟩ = some (.int .i64 st)) (first | exact INIT.out | exact KW.out _ _ (by assumption) (by assumption) | exact KW.out _ _ (Wr.of_below (by assumption) (Nat.le_refl _)) (by assumption) | exact KW.out _ _ (Wr.of_below ((Below.refl _ _).alloc (Nat.le_refl _) _) (Nat.le_refl _)) (by assumption))
      (fail)
    go_wp2
    go_ret
    exact ⟨ret_bZ HR.out.symm, S2.out.1⟩
  · rw [hfe] at z2 HL S1
    have z8 : World.cell? (World.alloc (World.alloc (World.alloc (World.alloc w (.cells #[.int .i64 (i : Int)] 119)) (.cells #[.int .i64 p.dl, .slice A1 p.acts.length c1, .slice (some ⟨b2, o2, none⟩) p.lks.length c2, .slice A3 p.ress.length c3, .slice A4 p.stk.length c4] 36)) (.cells #[.slice (some ⟨b8, o8, none⟩) s.st.length f1, .slice E2 s.mo.length f2] 46)) (.cells #[.int .i64 (fr : Int), .int .i64 (to : Int), .bool true, .int .i64 lag] 106)) ⟨b8, o8 + fr, none⟩ = some (.int .i64 (stA s fr)) := (S1.out.1.cell (p := ⟨b8, o8 + fr, none⟩) hb8).trans y8
    have z9 : World.cell? (World.alloc (World.alloc (World.alloc (World.alloc w (.cells #[.int .i64 (i : Int)] 119)) (.cells #[.int .i64 p.dl, .slice A1 p.acts.length c1, .slice (some ⟨b2, o2, none⟩) p.lks.length c2, .slice A3 p.ress.length c3, .slice A4 p.stk.length c4] 36)) (.cells #[.slice (some ⟨b8, o8, none⟩) s.st.length f1, .slice E2 s.mo.length f2] 46)) (.cells #[.int .i64 (fr : Int), .int .i64 (to : Int), .bool true, .int .i64 lag] 106)) ⟨b8, o8 + to, none⟩ = some (.int .i64 (stA s to)) := (S1.out.1.cell (p := ⟨b8, o8 + to, none⟩) hb8).trans y9
    have HR := Lib.hid (HL.out (endA p s fr) rfl)
    generalize hsg : stA s fr = sf at z8 hsf
    clear hsg
    go_wp2_with fail
    clear z0 z1 z2 z3 z8 z9
    refine (implEnd_any p s fr _ _ _ (by exact S1.out.old HV.out) (by exact S1.out.old HQ.out) HF.out hfl2).mono ?_
    rintro e w2 ⟨rfl, b⟩
    have S2 := Lib.hid (S1.out.go b)
    clear S1 b
    have z9 := (S2.out.1.cell (p := ⟨b8, o8 + to, none⟩) hb8).trans y9
    clear y8 y9
    generalize endA p s fr = en at HR hen ⊢
    generalize stA s to = st at z9 HR
    have hw : IntKind.i64.wrap (en + lag) = en + lag := by rw [IntKind.wrap_i64]; omega
    go_wp2_with fail
    obtain ⟨e0, e1, e2, e3, ef⟩ := (S2.out.bk 0 rfl).c4
    obtain ⟨q0, q1, qf⟩ := (S2.out.bk 1 rfl).c2
    have hl0 := (S2.out.bk 0 rfl).lt
    have hl1 := (S2.out.bk 1 rfl).lt
    have hsz := S2.out.1.size
    have hb8' : b8 < w2.heap.size := by omega
    have S3 := Lib.hid S2.out.drew1
    have CE := Lib.hid (fun (W : World) (h : Wr [] w2.drew W) => show Hid (Wr [] w2.drew W) ∧ W.cell? ⟨w.heap.size + 1 + 1, 0, none⟩ = some (.slice (some ⟨b8, o8, none⟩) s.st.length f1) ∧ W.cell? ⟨w.heap.size + 1 + 1 + 1, 1, none⟩ = some (.int .i64 (to : Int)) ∧ W.cell? ⟨w.heap.size + 1 + 1 + 1, 3, none⟩ = some (.int .i64 lag) ∧ W.cell? ⟨b8, o8 + to, none⟩ = some (.int .i64 st) from ⟨Lib.hid h, (wr_cell h (p := ⟨w.heap.size + 1 + 1, 0, none⟩) hl1 (by simp)).trans (by exact by simpa using q0), (wr_cell h (p := ⟨w.heap.size + 1 + 1 + 1, 1, none⟩) hl0 (by simp)).trans (by exact by simpa using e1), (wr_cell h (p := ⟨w.heap.size + 1 + 1 + 1, 3, none⟩) hl0 (by simp)).trans (by exact by simpa using e3), (wr_cell h (p := ⟨b8, o8 + to, none⟩) hb8' (by simp)).trans (by exact by simpa using z9)⟩)
    have INIT := Lib.hid (CE.out _ (Wr.refl _ _))
    have KW := Lib.hid (fun (W2 W : World) (hb : Wr [] W W2) (h : Hid (Wr [] w2.drew W) ∧ W.cell? ⟨w.heap.size + 1 + 1, 0, none⟩ = some (.slice (some ⟨b8, o8, none⟩) s.st.length f1) ∧ W.cell? ⟨w.heap.size + 1 + 1 + 1, 1, none⟩ = some (.int .i64 (to : Int)) ∧ W.cell? ⟨w.heap.size + 1 + 1 + 1, 3, none⟩ = some (.int .i64 lag) ∧ W.cell? ⟨b8, o8 + to, none⟩ = some (.int .i64 st)) => CE.out W2 (h.1.out.trans hb))
    clear e0 e1 e2 e3 ef q0 q1 qf z9
    go_region_held3 (fun W => Hid (Wr [] w2.drew W) ∧ W.cell? ⟨w.heap.size + 1 + 1, 0, none⟩ = some (.slice (some ⟨b8, o8, none⟩) s.st.length f1) ∧ W.cell? ⟨w.heap.size + 1 + 1 + 1, 1, none⟩ = some (.int .i64 (to : Int)) ∧ W.cell? ⟨w.heap.size + 1 + 1 + 1, 3, none⟩ = some (.int .i64 lag) ∧ W.cell? ⟨b8, o8 + to, none⟩ = some (.int .i64 st)) (first | exact INIT.out | exact KW.out _ _ (by assumption) (by assumption) | exact KW.out _ _ (Wr.of_below (by assumption) (Nat.le_refl _)) (by assumption) | exact KW.out _ _ (Wr.of_below ((Below.refl _ _).alloc (Nat.le_refl _) _) (Nat.le_refl _)) (by assumption))
      (fail)
    go_wp2
    go_ret
    exact ⟨ret_bZ HR.out.symm, S3.out.1⟩

set_option maxRecDepth 100000 in
set_option maxHeartbeats 8000000 in
theorem ex_lnk (p : Pj) (a : Int) (v : Value) (w : World) (hv : (trPj p).rd w v) :
    Calls Tryz.prog 146 #[.agg #[.int .i64 a], v] w fun e w' => e = .returned (.bool (thereC p (.lnk a))) ∧ Below w.heap.size w w' := by
  obtain ⟨A1, c1, A2, c2, A3, c3, A4, c4, rfl, _⟩ := rdProject_t hv
  have S0 := Lib.hid (((Sn.start w).box 119 [.int .i64 a]).box 36 [.int .i64 p.dl, .slice A1 p.acts.length c1, .slice A2 p.lks.length c2, .slice A3 p.ress.length c3, .slice A4 p.stk.length c4])
  clear hv
  go_enter Tryz.func146, Tryz.ntmps146
  go_wp2_with fail
  refine (isBelow_any a (p.lks.length : Int) _).mono ?_
  rintro e w1 ⟨rfl, rfl⟩
  go_wp2
  go_ret
  exact ⟨rfl, S0.out.1⟩
set_option maxRecDepth 100000 in
set_option maxHeartbeats 8000000 in
theorem ex_fin (p : Pj) (a : Int) (v : Value) (w : World) (hv : (trPj p).rd w v) :
    Calls Tryz.prog 151 #[.agg #[.int .i64 a], v] w fun e w' => e = .returned (.bool (thereC p (.fin a))) ∧ Below w.heap.size w w' := by
  obtain ⟨A1, c1, A2, c2, A3, c3, A4, c4, rfl, _⟩ := rdProject_t hv
  have S0 := Lib.hid (((Sn.start w).box 121 [.int .i64 a]).box 36 [.int .i64 p.dl, .slice A1 p.acts.length c1, .slice A2 p.lks.length c2, .slice A3 p.ress.length c3, .slice A4 p.stk.length c4])
  clear hv
  go_enter Tryz.func151, Tryz.ntmps151
  go_wp2_with fail
  refine (isBelow_any a (p.acts.length : Int) _).mono ?_
  rintro e w1 ⟨rfl, rfl⟩
  go_wp2
  go_ret
  exact ⟨rfl, S0.out.1⟩
set_option maxRecDepth 100000 in
set_option maxHeartbeats 8000000 in
theorem ex_stk (p : Pj) (a : Int) (v : Value) (w : World) (hv : (trPj p).rd w v) :
    Calls Tryz.prog 171 #[.agg #[.int .i64 a], v] w fun e w' => e = .returned (.bool (thereC p (.stk a))) ∧ Below w.heap.size w w' := by
  obtain ⟨A1, c1, A2, c2, A3, c3, A4, c4, rfl, _⟩ := rdProject_t hv
  have S0 := Lib.hid (((Sn.start w).box 129 [.int .i64 a]).box 36 [.int .i64 p.dl, .slice A1 p.acts.length c1, .slice A2 p.lks.length c2, .slice A3 p.ress.length c3, .slice A4 p.stk.length c4])
  clear hv
  go_enter Tryz.func171, Tryz.ntmps171
  go_wp2_with fail
  refine (isBelow_any a (p.stk.length : Int) _).mono ?_
  rintro e w1 ⟨rfl, rfl⟩
  go_wp2
  go_ret
  exact ⟨rfl, S0.out.1⟩
set_option maxRecDepth 100000 in
set_option maxHeartbeats 8000000 in
theorem ex_tim (p : Pj) (a b : Int) (v : Value) (w : World) (hv : (trPj p).rd w v) :
    Calls Tryz.prog 154 #[.agg #[.int .i64 a, .int .i64 b], v] w fun e w' => e = .returned (.bool (thereC p (.tim a b))) ∧ Below w.heap.size w w' := by
  obtain ⟨A1, c1, A2, c2, A3, c3, A4, c4, rfl, _⟩ := rdProject_t hv
  have S0 := Lib.hid (((Sn.start w).box 123 [.int .i64 a, .int .i64 b]).box 36 [.int .i64 p.dl, .slice A1 p.acts.length c1, .slice A2 p.lks.length c2, .slice A3 p.ress.length c3, .slice A4 p.stk.length c4])
  clear hv
  have HR := Lib.hid (show thereC p (.tim a b) = (inB a 0 ((p.ress.length : Int) - 1) && inB b 0 60) from rfl)
  generalize thereC p (.tim a b) = res at HR ⊢
  go_enter Tryz.func154, Tryz.ntmps154
  go_wp2_with fail
  refine (isBelow_any a (p.ress.length : Int) _).mono ?_
  rintro e w1 ⟨rfl, rfl⟩
  generalize inB a 0 ((p.ress.length : Int) - 1) = x at HR ⊢
  rcases x with _ | _
  · go_wp2
    go_ret
    exact ⟨ret_bZ (by rw [HR.out]; rfl), S0.out.1⟩
  · go_wp2_with fail
    refine (isTime_any b _).mono ?_
    rintro e w1 ⟨rfl, rfl⟩
    go_wp2
    go_ret
    exact ⟨ret_bZ (by rw [HR.out]; simp), S0.out.1⟩
set_option maxRecDepth 100000 in
set_option maxHeartbeats 8000000 in
theorem ex_wrk (p : Pj) (a b c : Int) (v : Value) (w : World) (hv : (trPj p).rd w v) :
    Calls Tryz.prog 162 #[.agg #[.int .i64 a, .int .i64 b, .int .i64 c], v] w fun e w' => e = .returned (.bool (thereC p (.wrk a b c))) ∧ Below w.heap.size w w' := by
  obtain ⟨A1, c1, A2, c2, A3, c3, A4, c4, rfl, _⟩ := rdProject_t hv
  have S0 := Lib.hid (((Sn.start w).box 125 [.int .i64 a, .int .i64 b, .int .i64 c]).box 36 [.int .i64 p.dl, .slice A1 p.acts.length c1, .slice A2 p.lks.length c2, .slice A3 p.ress.length c3, .slice A4 p.stk.length c4])
  clear hv
  have HR := Lib.hid (show thereC p (.wrk a b c) = (inB a 0 ((p.ress.length : Int) - 1) && (inB b 0 60 && (inB c 0 60 && decide (b < c)))) from rfl)
  generalize thereC p (.wrk a b c) = res at HR ⊢
  go_enter Tryz.func162, Tryz.ntmps162
  go_wp2_with fail
  refine (isBelow_any a (p.ress.length : Int) _).mono ?_
  rintro e w1 ⟨rfl, rfl⟩
  generalize inB a 0 ((p.ress.length : Int) - 1) = x at HR ⊢
  rcases x with _ | _
  · go_wp2
    go_ret
    exact ⟨ret_bZ (by rw [HR.out]; rfl), S0.out.1⟩
  · go_wp2_with fail
    refine (isTime_any b _).mono ?_
    rintro e w1 ⟨rfl, rfl⟩
    generalize inB b 0 60 = y at HR ⊢
    rcases y with _ | _
    · go_wp2
      go_ret
      exact ⟨ret_bZ (by rw [HR.out]; rfl), S0.out.1⟩
    · go_wp2_with fail
      refine (isTime_any c _).mono ?_
      rintro e w1 ⟨rfl, rfl⟩
      generalize inB c 0 60 = z at HR ⊢
      rcases z with _ | _
      · go_wp2
        go_ret
        exact ⟨ret_bZ (by rw [HR.out]; rfl), S0.out.1⟩
      · go_wp2
        go_ret
        exact ⟨ret_bZ (by rw [HR.out]; simp), S0.out.1⟩
set_option maxRecDepth 100000 in
set_option maxHeartbeats 8000000 in
theorem ex_par (p : Pj) (a b c : Int) (v : Value) (w : World) (hv : (trPj p).rd w v) :
    Calls Tryz.prog 166 #[.agg #[.int .i64 a, .int .i64 b, .int .i64 c], v] w fun e w' => e = .returned (.bool (thereC p (.par a b c))) ∧ Below w.heap.size w w' := by
  have HV := Lib.hid hv
  obtain ⟨A1, c1, A2, c2, A3, c3, A4, c4, rfl, _⟩ := rdProject_t hv
  have S0 := Lib.hid (((Sn.start w).box 127 [.int .i64 a, .int .i64 b, .int .i64 c]).box 36 [.int .i64 p.dl, .slice A1 p.acts.length c1, .slice A2 p.lks.length c2, .slice A3 p.ress.length c3, .slice A4 p.stk.length c4])
  simp only [World.size_alloc] at S0
  clear hv
  have HR := Lib.hid (show thereC p (.par a b c) = (machB p a && (inB b 0 (c - 1) && inB c 0 ((p.acts.length : Int) - 1))) from rfl)
  generalize thereC p (.par a b c) = res at HR ⊢
  go_enter Tryz.func166, Tryz.ntmps166
  go_wp2_with fail
  refine (implIsMachine_any p a _ _ (by exact S0.out.old HV.out)).mono ?_
  rintro e w1 ⟨rfl, b⟩
  have S1 := Lib.hid (S0.out.go b)
  clear S0 b
  generalize machB p a = x at HR ⊢
  rcases x with _ | _
  · go_wp2
    go_ret
    exact ⟨ret_bZ (by rw [HR.out]; rfl), S1.out.1⟩
  · obtain ⟨t0, t1, t2, tf⟩ := (S1.out.bk 1 rfl).c3
    obtain ⟨e0, e1, e2, e3, e4, ef⟩ := (S1.out.bk 0 rfl).c5
    go_wp2_with fail
    refine (isBelow_any b c _).mono ?_
    rintro e w1 ⟨rfl, rfl⟩
    generalize inB b 0 (c - 1) = y at HR ⊢
    rcases y with _ | _
    · go_wp2
      go_ret
      exact ⟨ret_bZ (by rw [HR.out]; rfl), S1.out.1⟩
    · go_wp2_with fail
      refine (isBelow_any c (p.acts.length : Int) _).mono ?_
      rintro e w1 ⟨rfl, rfl⟩
      go_wp2
      go_ret
      exact ⟨ret_bZ (by rw [HR.out]; simp), S1.out.1⟩
end Go.Proofs.YtaglfdkeomjpdaaGreat
