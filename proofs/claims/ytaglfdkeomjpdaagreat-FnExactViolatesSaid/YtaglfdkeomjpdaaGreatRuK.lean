/- DERIVED. CONTRACTS of chapter 11, of the model: the rule of links; l10Fails of whatever condition; RuleOk. -/
import Derived.Test.YtaglfdkeomjpdaaGreatRuU
import Derived.Test.YtaglfdkeomjpdaaGreatRuZ
namespace Go.Proofs.YtaglfdkeomjpdaaGreat
open Go.RowKit Go.Shelf
set_option linter.unusedVariables false

theorem lnkF_eq {p : Pj} {s : Sc} {i : Nat} (hi : i < p.lks.length) {fr to : Nat} (hfr : p.lks[i].fr = (fr : Int)) (hto : p.lks[i].to = (to : Int)) (x : Int) (hx : x = if p.lks[i].fe = true then endA p s fr else stA s fr) : failC p s (.lnk (i : Int)) = decide (stA s to < x + p.lks[i].lag) := by
  rw [show failC p s (.lnk (i : Int)) = decide (stA s (lkA p i).to.toNat < frA p s (lkA p i) + (lkA p i).lag) from rfl, lkA_at hi, hto, frA, hfr, hx]
  rfl
set_option maxRecDepth 100000 in
set_option maxHeartbeats 8000000 in
theorem fail_lnk (p : Pj) (s : Sc) (i : Nat) (v u : Value) (w : World) (hv : (trPj p).rd w v) (hs : (trSc s).rd w u) (hf : Form p s) (hi : i < p.lks.length) :
    Calls Tryz.prog 44 #[v, u, .agg #[.int .i64 1, .int .i64 (i : Int), .int .i64 0, .int .i64 0]] w fun e w' => e = .returned (.bool (failC p s (.lnk (i : Int)))) ∧ Below w.heap.size w w' := by
  have HV := Lib.hid hv
  obtain ⟨A1, c1, A2, c2, A3, c3, A4, c4, rfl, r1, r2, r3, r4⟩ := rdProject_t hv
  clear hv
  have HQ := Lib.hid hs
  obtain ⟨E1, f1, E2, f2, rfl, q1, q2⟩ := rdSchedule_t hs
  obtain ⟨ht1, B8, d8, he, x1⟩ := rdI (rd_flat q1)
  injection he with he _ he2
  subst he he2
  have X1 := Lib.hid x1
  obtain ⟨ht2, B9, d9, he, x2⟩ := rdI (rd_flat q2)
  injection he with he _ he2
  subst he he2
  have X2 := Lib.hid x2
  clear hs q1 q2 x1 x2
  have S0 := Lib.hid ((((Sn.start w).box 36 [.int .i64 p.dl, .slice A1 p.acts.length c1, .slice A2 p.lks.length c2, .slice A3 p.ress.length c3, .slice A4 p.stk.length c4]).box 46 [.slice E1 s.st.length f1, .slice E2 s.mo.length f2]).box 38 [.int .i64 1, .int .i64 (i : Int), .int .i64 0, .int .i64 0])
  simp only [World.size_alloc] at S0
  go_enter Tryz.func44, Tryz.ntmps44
  obtain ⟨hl2, B2, d2, he, g2⟩ := rdLinkS_t r2
  injection he with he _ he2
  subst he he2
  obtain ⟨b2, o2, rfl, hb2, hc2⟩ := g2 i hi
  obtain ⟨x0, x1, x2, x3⟩ := hc2 i hi
  have hlk := pok_lk hf.ok hi
  simp only [lokB, Bool.and_eq_true] at hlk
  have hfr := inB_iff.1 hlk.1
  have hto := inB_iff.1 hlk.2.1
  have hlag := inB_iff.1 hlk.2.2.2
  obtain ⟨fr, hfr'⟩ : ∃ k : Nat, p.lks[i].fr = (k : Int) := ⟨p.lks[i].fr.toNat, by omega⟩
  obtain ⟨to, hto'⟩ : ∃ k : Nat, p.lks[i].to = (k : Int) := ⟨p.lks[i].to.toNat, by omega⟩
  have HF := Lib.hid hf
  have HL := Lib.hid (@lnkF_eq p s i hi fr to hfr' hto')
  rw [hfr'] at x0 hfr
  rw [hto'] at x1 hto
  have h1 := hf.h1
  have hfl : fr < s.st.length := by omega
  have htl : to < s.st.length := by omega
  have hfl2 : fr < p.acts.length := by omega
  obtain ⟨b8, o8, rfl, hb8, hc8⟩ := X1.out fr hfl
  have y8 := hc8 fr hfl
  have y9 := hc8 to htl
  rw [← stA_at hfl] at y8
  rw [← stA_at htl] at y9
  have hi' : (i : Int) < (p.lks.length : Int) := by omega
  have i0 : (0 : Int) ≤ (i : Int) := by omega
  have fr0 : (0 : Int) ≤ (fr : Int) := by omega
  have fr1 : (fr : Int) < (s.st.length : Int) := by omega
  have t0 : (0 : Int) ≤ (to : Int) := by omega
  have t1 : (to : Int) < (s.st.length : Int) := by omega
  have hen := hf.en hfl2
  have hsf := hf.st fr hfl2
  clear hf r1 r2 r3 r4 g2 hc2 hl2 hlk hfr' hto' X1 X2 hc8 hfr hto h1 hfl htl
  generalize failC p s (.lnk (i : Int)) = fb at HL ⊢
  generalize p.lks[i].lag = lag at x3 HL hlag
  have z0 : World.cell? (World.alloc (World.alloc (World.alloc w (.cells #[.int .i64 p.dl, .slice A1 p.acts.length c1, .slice (some ⟨b2, o2, none⟩) p.lks.length c2, .slice A3 p.ress.length c3, .slice A4 p.stk.length c4] 36)) (.cells #[.slice (some ⟨b8, o8, none⟩) s.st.length f1, .slice E2 s.mo.length f2] 46)) (.cells #[.int .i64 1, .int .i64 (i : Int), .int .i64 0, .int .i64 0] 38)) ⟨b2, o2 + i * 4, none⟩ = some (.int .i64 (fr : Int)) := (S0.out.1.cell (p := ⟨b2, o2 + i * 4, none⟩) hb2).trans x0
  have z1 : World.cell? (World.alloc (World.alloc (World.alloc w (.cells #[.int .i64 p.dl, .slice A1 p.acts.length c1, .slice (some ⟨b2, o2, none⟩) p.lks.length c2, .slice A3 p.ress.length c3, .slice A4 p.stk.length c4] 36)) (.cells #[.slice (some ⟨b8, o8, none⟩) s.st.length f1, .slice E2 s.mo.length f2] 46)) (.cells #[.int .i64 1, .int .i64 (i : Int), .int .i64 0, .int .i64 0] 38)) ⟨b2, o2 + i * 4 + 1, none⟩ = some (.int .i64 (to : Int)) := (S0.out.1.cell (p := ⟨b2, o2 + i * 4 + 1, none⟩) hb2).trans x1
  have z2 : World.cell? (World.alloc (World.alloc (World.alloc w (.cells #[.int .i64 p.dl, .slice A1 p.acts.length c1, .slice (some ⟨b2, o2, none⟩) p.lks.length c2, .slice A3 p.ress.length c3, .slice A4 p.stk.length c4] 36)) (.cells #[.slice (some ⟨b8, o8, none⟩) s.st.length f1, .slice E2 s.mo.length f2] 46)) (.cells #[.int .i64 1, .int .i64 (i : Int), .int .i64 0, .int .i64 0] 38)) ⟨b2, o2 + i * 4 + 2, none⟩ = some (.bool p.lks[i].fe) := (S0.out.1.cell (p := ⟨b2, o2 + i * 4 + 2, none⟩) hb2).trans x2
  have z3 : World.cell? (World.alloc (World.alloc (World.alloc w (.cells #[.int .i64 p.dl, .slice A1 p.acts.length c1, .slice (some ⟨b2, o2, none⟩) p.lks.length c2, .slice A3 p.ress.length c3, .slice A4 p.stk.length c4] 36)) (.cells #[.slice (some ⟨b8, o8, none⟩) s.st.length f1, .slice E2 s.mo.length f2] 46)) (.cells #[.int .i64 1, .int .i64 (i : Int), .int .i64 0, .int .i64 0] 38)) ⟨b2, o2 + i * 4 + 3, none⟩ = some (.int .i64 lag) := (S0.out.1.cell (p := ⟨b2, o2 + i * 4 + 3, none⟩) hb2).trans x3
  have S1 := Lib.hid (S0.out.box 106 [.int .i64 (fr : Int), .int .i64 (to : Int), .bool p.lks[i].fe, .int .i64 lag])
  simp only [World.size_alloc] at S1
  clear x0 x1 x2 x3
  rcases hfe : p.lks[i].fe with _ | _
  · rw [hfe] at z2 HL S1
    have z8 : World.cell? (World.alloc (World.alloc (World.alloc (World.alloc w (.cells #[.int .i64 p.dl, .slice A1 p.acts.length c1, .slice (some ⟨b2, o2, none⟩) p.lks.length c2, .slice A3 p.ress.length c3, .slice A4 p.stk.length c4] 36)) (.cells #[.slice (some ⟨b8, o8, none⟩) s.st.length f1, .slice E2 s.mo.length f2] 46)) (.cells #[.int .i64 1, .int .i64 (i : Int), .int .i64 0, .int .i64 0] 38)) (.cells #[.int .i64 (fr : Int), .int .i64 (to : Int), .bool false, .int .i64 lag] 106)) ⟨b8, o8 + fr, none⟩ = some (.int .i64 (stA s fr)) := (S1.out.1.cell (p := ⟨b8, o8 + fr, none⟩) hb8).trans y8
    have z9 : World.cell? (World.alloc (World.alloc (World.alloc (World.alloc w (.cells #[.int .i64 p.dl, .slice A1 p.acts.length c1, .slice (some ⟨b2, o2, none⟩) p.lks.length c2, .slice A3 p.ress.length c3, .slice A4 p.stk.length c4] 36)) (.cells #[.slice (some ⟨b8, o8, none⟩) s.st.length f1, .slice E2 s.mo.length f2] 46)) (.cells #[.int .i64 1, .int .i64 (i : Int), .int .i64 0, .int .i64 0] 38)) (.cells #[.int .i64 (fr : Int), .int .i64 (to : Int), .bool false, .int .i64 lag] 106)) ⟨b8, o8 + to, none⟩ = some (.int .i64 (stA s to)) := (S1.out.1.cell (p := ⟨b8, o8 + to, none⟩) hb8).trans y9
    have HR := Lib.hid (HL.out (stA s fr) rfl)
    clear y8 y9
    generalize stA s fr = sf at z8 HR hsf
    generalize stA s to = st at z9 HR
    have hw : IntKind.i64.wrap (sf + lag) = sf + lag := by rw [IntKind.wrap_i64]; omega
    go_wp2_with fail
    clear z0 z1 z2 z3
    generalize World.alloc (World.alloc (World.alloc (World.alloc w _) _) _) _ = wv at S1 z8 z9 ⊢
    obtain ⟨e0, e1, e2, e3, ef⟩ := (S1.out.bk 0 rfl).c4
    obtain ⟨q0, q1, qf⟩ := (S1.out.bk 2 rfl).c2
    have hl0 := (S1.out.bk 0 rfl).lt
    have hl1 := (S1.out.bk 2 rfl).lt
    have hsz := S1.out.1.size
    have hb8' : b8 < wv.heap.size := by omega
    have S2 := Lib.hid S1.out.drew1
    have CE := Lib.hid (fun (W : World) (h : Wr [] wv.drew W) => show Hid (Wr [] wv.drew W) ∧ W.cell? ⟨w.heap.size + 1, 0, none⟩ = some (.slice (some ⟨b8, o8, none⟩) s.st.length f1) ∧ W.cell? ⟨w.heap.size + 1 + 1 + 1, 1, none⟩ = some (.int .i64 (to : Int)) ∧ W.cell? ⟨w.heap.size + 1 + 1 + 1, 3, none⟩ = some (.int .i64 lag) ∧ W.cell? ⟨b8, o8 + to, none⟩ = some (.int .i64 st) from ⟨Lib.hid h, (wr_cell h (p := ⟨w.heap.size + 1, 0, none⟩) hl1 (by simp)).trans (by exact by simpa using q0), (wr_cell h (p := ⟨w.heap.size + 1 + 1 + 1, 1, none⟩) hl0 (by simp)).trans (by exact by simpa using e1), (wr_cell h (p := ⟨w.heap.size + 1 + 1 + 1, 3, none⟩) hl0 (by simp)).trans (by exact by simpa using e3), (wr_cell h (p := ⟨b8, o8 + to, none⟩) hb8' (by simp)).trans (by exact by simpa using z9)⟩)
    have INIT := Lib.hid (CE.out _ (Wr.refl _ _))
    have KW := Lib.hid (fun (W2 W : World) (hb : Wr [] W W2) (h : Hid (Wr [] wv.drew W) ∧ W.cell? ⟨w.heap.size + 1, 0, none⟩ = some (.slice (some ⟨b8, o8, none⟩) s.st.length f1) ∧ W.cell? ⟨w.heap.size + 1 + 1 + 1, 1, none⟩ = some (.int .i64 (to : Int)) ∧ W.cell? ⟨w.heap.size + 1 + 1 + 1, 3, none⟩ = some (.int .i64 lag) ∧ W.cell? ⟨b8, o8 + to, none⟩ = some (.int .i64 st)) => CE.out W2 (h.1.out.trans hb))
    clear e0 e1 e2 e3 ef q0 q1 qf z8 z9
    go_region_held3 (fun W => Hid (Wr [] wv.drew W) ∧ W.cell? ⟨w.heap.size + 1, 0, none⟩ = some (.slice (some ⟨b8, o8, none⟩) s.st.length f1) ∧ W.cell? ⟨w.heap.size + 1 + 1 + 1, 1, none⟩ = some (.int .i64 (to : Int)) ∧ W.cell? ⟨w.heap.size + 1 + 1 + 1, 3, none⟩ = some (.int .i64 lag) ∧ W.cell? ⟨b8, o8 + to, none⟩ = some (.int .i64 st)) (first | exact INIT.out | exact KW.out _ _ (by assumption) (by assumption) | exact KW.out _ _ (Wr.of_below (by assumption) (Nat.le_refl _)) (by assumption) | exact KW.out _ _ (Wr.of_below ((Below.refl _ _).alloc (Nat.le_refl _) _) (Nat.le_refl _)) (by assumption))
      (fail)
    go_wp2
    go_ret
    exact ⟨ret_bZ HR.out.symm, S2.out.1⟩
  · rw [hfe] at z2 HL S1
    have z8 : World.cell? (World.alloc (World.alloc (World.alloc (World.alloc w (.cells #[.int .i64 p.dl, .slice A1 p.acts.length c1, .slice (some ⟨b2, o2, none⟩) p.lks.length c2, .slice A3 p.ress.length c3, .slice A4 p.stk.length c4] 36)) (.cells #[.slice (some ⟨b8, o8, none⟩) s.st.length f1, .slice E2 s.mo.length f2] 46)) (.cells #[.int .i64 1, .int .i64 (i : Int), .int .i64 0, .int .i64 0] 38)) (.cells #[.int .i64 (fr : Int), .int .i64 (to : Int), .bool true, .int .i64 lag] 106)) ⟨b8, o8 + fr, none⟩ = some (.int .i64 (stA s fr)) := (S1.out.1.cell (p := ⟨b8, o8 + fr, none⟩) hb8).trans y8
    have z9 : World.cell? (World.alloc (World.alloc (World.alloc (World.alloc w (.cells #[.int .i64 p.dl, .slice A1 p.acts.length c1, .slice (some ⟨b2, o2, none⟩) p.lks.length c2, .slice A3 p.ress.length c3, .slice A4 p.stk.length c4] 36)) (.cells #[.slice (some ⟨b8, o8, none⟩) s.st.length f1, .slice E2 s.mo.length f2] 46)) (.cells #[.int .i64 1, .int .i64 (i : Int), .int .i64 0, .int .i64 0] 38)) (.cells #[.int .i64 (fr : Int), .int .i64 (to : Int), .bool true, .int .i64 lag] 106)) ⟨b8, o8 + to, none⟩ = some (.int .i64 (stA s to)) := (S1.out.1.cell (p := ⟨b8, o8 + to, none⟩) hb8).trans y9
    have HR := Lib.hid (HL.out (endA p s fr) rfl)
    generalize hsg : stA s fr = sf at z8 hsf
    clear hsg
    go_wp2_with fail
    clear z0 z1 z2 z3 z8 z9
    refine (specEnd_any p s fr _ _ _ (by exact S1.out.old HV.out) (by exact S1.out.old HQ.out) HF.out hfl2).mono ?_
    rintro e w2 ⟨rfl, b⟩
    have S2 := Lib.hid (S1.out.go b)
    clear S1 b
    have z9 := (S2.out.1.cell (p := ⟨b8, o8 + to, none⟩) hb8).trans y9
    clear y8 y9
    generalize endA p s fr = en at HR hen ⊢
    generalize stA s to = st at z9 HR
    have hw : IntKind.i64.wrap (en + lag) = en + lag := by rw [IntKind.wrap_i64]; omega
    go_wp2_with fail
    obtain ⟨e0, e1, e2, e3, ef⟩ := (S2.out.bk 0 rfl).c4
    obtain ⟨q0, q1, qf⟩ := (S2.out.bk 2 rfl).c2
    have hl0 := (S2.out.bk 0 rfl).lt
    have hl1 := (S2.out.bk 2 rfl).lt
    have hsz := S2.out.1.size
    have hb8' : b8 < w2.heap.size := by omega
    have S3 := Lib.hid S2.out.drew1
    have CE := Lib.hid (fun (W : World) (h : Wr [] w2.drew W) => show Hid (Wr [] w2.drew W) ∧ W.cell? ⟨w.heap.size + 1, 0, none⟩ = some (.slice (some ⟨b8, o8, none⟩) s.st.length f1) ∧ W.cell? ⟨w.heap.size + 1 + 1 + 1, 1, none⟩ = some (.int .i64 (to : Int)) ∧ W.cell? ⟨w.heap.size + 1 + 1 + 1, 3, none⟩ = some (.int .i64 lag) ∧ W.cell? ⟨b8, o8 + to, none⟩ = some (.int .i64 st) from ⟨Lib.hid h, (wr_cell h (p := ⟨w.heap.size + 1, 0, none⟩) hl1 (by simp)).trans (by exact by simpa using q0), (wr_cell h (p := ⟨w.heap.size + 1 + 1 + 1, 1, none⟩) hl0 (by simp)).trans (by exact by simpa using e1), (wr_cell h (p := ⟨w.heap.size + 1 + 1 + 1, 3, none⟩) hl0 (by simp)).trans (by exact by simpa using e3), (wr_cell h (p := ⟨b8, o8 + to, none⟩) hb8' (by simp)).trans (by exact by simpa using z9)⟩)
    have INIT := Lib.hid (CE.out _ (Wr.refl _ _))
    have KW := Lib.hid (fun (W2 W : World) (hb : Wr [] W W2) (h : Hid (Wr [] w2.drew W) ∧ W.cell? ⟨w.heap.size + 1, 0, none⟩ = some (.slice (some ⟨b8, o8, none⟩) s.st.length f1) ∧ W.cell? ⟨w.heap.size + 1 + 1 + 1, 1, none⟩ = some (.int .i64 (to : Int)) ∧ W.cell? ⟨w.heap.size + 1 + 1 + 1, 3, none⟩ = some (.int .i64 lag) ∧ W.cell? ⟨b8, o8 + to, none⟩ = some (.int .i64 st)) => CE.out W2 (h.1.out.trans hb))
    clear e0 e1 e2 e3 ef q0 q1 qf z9
    go_region_held3 (fun W => Hid (Wr [] w2.drew W) ∧ W.cell? ⟨w.heap.size + 1, 0, none⟩ = some (.slice (some ⟨b8, o8, none⟩) s.st.length f1) ∧ W.cell? ⟨w.heap.size + 1 + 1 + 1, 1, none⟩ = some (.int .i64 (to : Int)) ∧ W.cell? ⟨w.heap.size + 1 + 1 + 1, 3, none⟩ = some (.int .i64 lag) ∧ W.cell? ⟨b8, o8 + to, none⟩ = some (.int .i64 st)) (first | exact INIT.out | exact KW.out _ _ (by assumption) (by assumption) | exact KW.out _ _ (Wr.of_below (by assumption) (Nat.le_refl _)) (by assumption) | exact KW.out _ _ (Wr.of_below ((Below.refl _ _).alloc (Nat.le_refl _) _) (Nat.le_refl _)) (by assumption))
      (fail)
    go_wp2
    go_ret
    exact ⟨ret_bZ HR.out.symm, S3.out.1⟩

theorem fails_any (c : Cd) (p : Pj) (s : Sc) (v u : Value) (w : World) (hv : (trPj p).rd w v) (hk : (trPj p).ok) (hs : (trSc s).rd w u) (hf : formB p s = true) (ht : thereC p c = true) :
    Calls Tryz.prog 44 #[v, u, ruV c.ru] w fun e w' => e = .returned (.bool (failC p s c)) ∧ Below w.heap.size w w' := by
  have F := form_of hf
  cases c with
  | lnk a =>
    obtain ⟨k, rfl, hk2⟩ := in_nat ht
    exact fail_lnk p s k v u w hv hs F hk2
  | fin a =>
    obtain ⟨k, rfl, hk2⟩ := in_nat ht
    exact fail_fin p s k v u w hv hs F hk2
  | tim a b =>
    simp only [thereC, Bool.and_eq_true] at ht
    obtain ⟨k, rfl, hk2⟩ := in_nat ht.1
    exact fail_tim p s k b v u w hv hs F hk2
  | wrk a b c =>
    simp only [thereC, Bool.and_eq_true, decide_eq_true_eq] at ht
    obtain ⟨k, rfl, hk2⟩ := in_nat ht.1
    exact fail_wrk p s k b c v u w hv hs F hk2 (inB_iff.1 ht.2.1) (inB_iff.1 ht.2.2.1) ht.2.2.2
  | par a b c =>
    simp only [thereC, Bool.and_eq_true] at ht
    obtain ⟨k, rfl, hk2⟩ := machB_in ht.1
    obtain ⟨j, rfl, hj⟩ := in_nat ht.2.2
    have := inB_iff.1 ht.2.1
    obtain ⟨i, rfl⟩ : ∃ i : Nat, b = (i : Int) := ⟨b.toNat, by omega⟩
    exact fail_par p s k i j v u w hv hs F ht.1 hk2 (by omega) hj
  | stk a =>
    obtain ⟨k, rfl, hk2⟩ := in_nat ht
    exact fail_stk p s k v u w hv hk hs hf hk2

theorem dec_and (a b : Prop) [Decidable a] [Decidable b] : decide (a ∧ b) = (decide a && decide b) := by simp
theorem ruOk_1 {p : Pj} {a b c : Int} (hp : pokB p = true) : ruOkB p ⟨1, a, b, c⟩ = (inB a 0 ((p.lks.length : Int) - 1) && (decide (b = 0) && decide (c = 0))) := by
  by_cases h : b = 0 ∧ c = 0
  · obtain ⟨rfl, rfl⟩ := h
    rw [show (⟨1, a, 0, 0⟩ : Ru) = (Cd.lnk a).ru from rfl, ruOk_ru hp]
    simp [thereC]
  · rw [ruOk_none (cond_odd (c := .lnk a) (by simp [kindC]) (fun e => h (by simpa [Cd.ru, ru_ext, eq_comm] using e))), ← dec_and, decide_eq_false h, Bool.and_false]
theorem ruOk_2 {p : Pj} {a b c : Int} (hp : pokB p = true) : ruOkB p ⟨2, a, b, c⟩ = (inB a 0 ((p.acts.length : Int) - 1) && (decide (b = 0) && decide (c = 0))) := by
  by_cases h : b = 0 ∧ c = 0
  · obtain ⟨rfl, rfl⟩ := h
    rw [show (⟨2, a, 0, 0⟩ : Ru) = (Cd.fin a).ru from rfl, ruOk_ru hp]
    simp [thereC]
  · rw [ruOk_none (cond_odd (c := .fin a) (by simp [kindC]) (fun e => h (by simpa [Cd.ru, ru_ext, eq_comm] using e))), ← dec_and, decide_eq_false h, Bool.and_false]
theorem ruOk_6 {p : Pj} {a b c : Int} (hp : pokB p = true) : ruOkB p ⟨6, a, b, c⟩ = (inB a 0 ((p.stk.length : Int) - 1) && (decide (b = 0) && decide (c = 0))) := by
  by_cases h : b = 0 ∧ c = 0
  · obtain ⟨rfl, rfl⟩ := h
    rw [show (⟨6, a, 0, 0⟩ : Ru) = (Cd.stk a).ru from rfl, ruOk_ru hp]
    simp [thereC]
  · rw [ruOk_none (cond_odd (c := .stk a) (by simp [kindC]) (fun e => h (by simpa [Cd.ru, ru_ext, eq_comm] using e))), ← dec_and, decide_eq_false h, Bool.and_false]
theorem ruOk_3 {p : Pj} {a b c : Int} (hp : pokB p = true) : ruOkB p ⟨3, a, b, c⟩ = (inB a 0 ((p.ress.length : Int) - 1) && (inB b 0 60 && decide (c = 0))) := by
  by_cases h : c = 0
  · subst h
    rw [show (⟨3, a, b, 0⟩ : Ru) = (Cd.tim a b).ru from rfl, ruOk_ru hp]
    simp [thereC]
  · rw [ruOk_none (cond_odd (c := .tim a b) (by simp [kindC]) (fun e => h (by simpa [Cd.ru, ru_ext, eq_comm] using e))), decide_eq_false h, Bool.and_false, Bool.and_false]
theorem ruOk_4 {p : Pj} {a b c : Int} (hp : pokB p = true) : ruOkB p ⟨4, a, b, c⟩ = (inB a 0 ((p.ress.length : Int) - 1) && (inB b 0 60 && (inB c 0 60 && decide (b < c)))) := by
  rw [show (⟨4, a, b, c⟩ : Ru) = (Cd.wrk a b c).ru from rfl, ruOk_ru hp]
  rfl
theorem ruOk_5 {p : Pj} {a b c : Int} (hp : pokB p = true) : ruOkB p ⟨5, a, b, c⟩ = (machB p a && (inB b 0 ((p.acts.length : Int) - 1) && (inB c 0 ((p.acts.length : Int) - 1) && decide (b < c)))) := by
  rw [show (⟨5, a, b, c⟩ : Ru) = (Cd.par a b c).ru from rfl, ruOk_ru hp]
  show (machB p a && (inB b 0 (c - 1) && inB c 0 ((p.acts.length : Int) - 1))) = _
  congr 1
  rw [Bool.eq_iff_iff]
  simp only [Bool.and_eq_true, inB_iff, decide_eq_true_eq]
  omega
theorem ruOk_0 {p : Pj} {r : Ru} (h1 : ¬ r.ki = 1) (h2 : ¬ r.ki = 2) (h3 : ¬ r.ki = 3) (h4 : ¬ r.ki = 4) (h5 : ¬ r.ki = 5) (h6 : ¬ r.ki = 6) : ruOkB p r = false := ruOk_none (cond_none (by simp [kindC, h1, h2, h3, h4, h5, h6]))

set_option maxRecDepth 100000 in
set_option maxHeartbeats 8000000 in
theorem specRuleOk_any (p : Pj) (r : Ru) (v : Value) (w : World) (hv : (trPj p).rd w v) (hk : (trPj p).ok) :
    Calls Tryz.prog 8 #[v, ruV r] w fun e w' => e = .returned (.bool (ruOkB p r)) ∧ Below w.heap.size w w' := by
  have HK := Lib.hid hk
  obtain ⟨ki, a, b, c⟩ := r
  have HV := Lib.hid hv
  obtain ⟨A1, c1, A2, c2, A3, c3, A4, c4, rfl, r1, r2, r3, r4⟩ := rdProject_t hv
  have hl1 : (p.acts.length : Int) ≤ 9223372036854775807 := by have := (rdActivityS_t r1).1; omega
  have hl2 : (p.lks.length : Int) ≤ 9223372036854775807 := by have := (rdLinkS_t r2).1; omega
  have hl3 : (p.ress.length : Int) ≤ 9223372036854775807 := by have := (rdResourceS_t r3).1; omega
  have hl4 : (p.stk.length : Int) ≤ 9223372036854775807 := by
    have := (rdI (rd_flat r4)).1
    unfold maxLen at this
    omega
  have w1' : IntKind.i64.wrap ((p.acts.length : Int) - 1) = (p.acts.length : Int) - 1 := by rw [IntKind.wrap_i64]; omega
  have w2' : IntKind.i64.wrap ((p.lks.length : Int) - 1) = (p.lks.length : Int) - 1 := by rw [IntKind.wrap_i64]; omega
  have w3' : IntKind.i64.wrap ((p.ress.length : Int) - 1) = (p.ress.length : Int) - 1 := by rw [IntKind.wrap_i64]; omega
  have w4' : IntKind.i64.wrap ((p.stk.length : Int) - 1) = (p.stk.length : Int) - 1 := by rw [IntKind.wrap_i64]; omega
  have S0 := Lib.hid (((Sn.start w).box 36 [.int .i64 p.dl, .slice A1 p.acts.length c1, .slice A2 p.lks.length c2, .slice A3 p.ress.length c3, .slice A4 p.stk.length c4]).box 38 [.int .i64 ki, .int .i64 a, .int .i64 b, .int .i64 c])
  simp only [World.size_alloc] at S0
  clear hv hk r1 r2 r3 r4 hl1 hl2 hl3 hl4
  unfold ruV
  generalize hres : ruOkB p ⟨ki, a, b, c⟩ = res
  have RES := Lib.hid hres
  clear hres
  go_enter Tryz.func8, Tryz.ntmps8
  go_wp2_with fail
  refine (specProjectOk_any p _ _ (by exact S0.out.old HV.out) HK.out).mono ?_
  rintro e w1 ⟨rfl, b⟩
  have S1 := Lib.hid (S0.out.go b)
  clear S0 b
  rcases hp : pokB p with _ | _
  · have HN := Lib.hid (ruOk_pok (r := ⟨ki, a, b, c⟩) hp)
    clear hp
    go_wp2
    go_ret
    exact ⟨ret_bZ (by rw [← RES.out, HN.out]), S1.out.1⟩
  have HP := Lib.hid hp
  clear hp
  obtain ⟨e0, e1, e2, e3, e4, ef⟩ := (S1.out.bk 1 rfl).c5
  obtain ⟨q0, q1, q2, q3, qf⟩ := (S1.out.bk 0 rfl).c4
  by_cases k1 : ki = 1
  · subst k1
    have HR := Lib.hid (@ruOk_1 p a b c HP.out)
    go_wp2_with fail
    refine (in_any a 0 ((p.lks.length : Int) - 1) _).mono ?_
    rintro e w2 ⟨rfl, rfl⟩
    generalize inB a 0 ((p.lks.length : Int) - 1) = x at HR ⊢
    rcases x with _ | _
    · go_wp2
      go_ret
      exact ⟨ret_bZ (by rw [← RES.out, HR.out]; simp), S1.out.1⟩
    by_cases hb : b = 0
    rotate_left
    · have tb : (b == 0) = false := by simpa using hb
      have HB := Lib.hid (decide_eq_false hb)
      clear hb
      go_wp2
      go_ret
      exact ⟨ret_bZ (by rw [← RES.out, HR.out, HB.out]; rfl), S1.out.1⟩
    subst hb
    by_cases hc : c = 0
    rotate_left
    · have tc : (c == 0) = false := by simpa using hc
      have HB := Lib.hid (decide_eq_false hc)
      clear hc
      go_wp2
      go_ret
      exact ⟨ret_bZ (by rw [← RES.out, HR.out, HB.out]; rfl), S1.out.1⟩
    subst hc
    go_wp2
    go_ret
    exact ⟨ret_bZ (by rw [← RES.out, HR.out]; simp), S1.out.1⟩
  by_cases k2 : ki = 2
  · subst k2
    have HR := Lib.hid (@ruOk_2 p a b c HP.out)
    go_wp2_with fail
    refine (in_any a 0 ((p.acts.length : Int) - 1) _).mono ?_
    rintro e w2 ⟨rfl, rfl⟩
    generalize inB a 0 ((p.acts.length : Int) - 1) = x at HR ⊢
    rcases x with _ | _
    · go_wp2
      go_ret
      exact ⟨ret_bZ (by rw [← RES.out, HR.out]; simp), S1.out.1⟩
    by_cases hb : b = 0
    rotate_left
    · have tb : (b == 0) = false := by simpa using hb
      have HB := Lib.hid (decide_eq_false hb)
      clear hb
      go_wp2
      go_ret
      exact ⟨ret_bZ (by rw [← RES.out, HR.out, HB.out]; rfl), S1.out.1⟩
    subst hb
    by_cases hc : c = 0
    rotate_left
    · have tc : (c == 0) = false := by simpa using hc
      have HB := Lib.hid (decide_eq_false hc)
      clear hc
      go_wp2
      go_ret
      exact ⟨ret_bZ (by rw [← RES.out, HR.out, HB.out]; rfl), S1.out.1⟩
    subst hc
    go_wp2
    go_ret
    exact ⟨ret_bZ (by rw [← RES.out, HR.out]; simp), S1.out.1⟩
  by_cases k3 : ki = 3
  · subst k3
    have HR := Lib.hid (@ruOk_3 p a b c HP.out)
    go_wp2_with fail
    refine (in_any a 0 ((p.ress.length : Int) - 1) _).mono ?_
    rintro e w2 ⟨rfl, rfl⟩
    generalize inB a 0 ((p.ress.length : Int) - 1) = x at HR ⊢
    rcases x with _ | _
    · go_wp2
      go_ret
      exact ⟨ret_bZ (by rw [← RES.out, HR.out]; simp), S1.out.1⟩
    go_wp2_with fail
    refine (in_any b 0 60 _).mono ?_
    rintro e w2 ⟨rfl, rfl⟩
    generalize inB b 0 60 = x at HR ⊢
    rcases x with _ | _
    · go_wp2
      go_ret
      exact ⟨ret_bZ (by rw [← RES.out, HR.out]; simp), S1.out.1⟩
    by_cases hc : c = 0
    rotate_left
    · have tc : (c == 0) = false := by simpa using hc
      have HB := Lib.hid (decide_eq_false hc)
      clear hc
      go_wp2
      go_ret
      exact ⟨ret_bZ (by rw [← RES.out, HR.out, HB.out]; rfl), S1.out.1⟩
    subst hc
    go_wp2
    go_ret
    exact ⟨ret_bZ (by rw [← RES.out, HR.out]; simp), S1.out.1⟩
  by_cases k4 : ki = 4
  · subst k4
    have HR := Lib.hid (@ruOk_4 p a b c HP.out)
    go_wp2_with fail
    refine (in_any a 0 ((p.ress.length : Int) - 1) _).mono ?_
    rintro e w2 ⟨rfl, rfl⟩
    generalize inB a 0 ((p.ress.length : Int) - 1) = x at HR ⊢
    rcases x with _ | _
    · go_wp2
      go_ret
      exact ⟨ret_bZ (by rw [← RES.out, HR.out]; simp), S1.out.1⟩
    go_wp2_with fail
    refine (in_any b 0 60 _).mono ?_
    rintro e w2 ⟨rfl, rfl⟩
    generalize inB b 0 60 = x at HR ⊢
    rcases x with _ | _
    · go_wp2
      go_ret
      exact ⟨ret_bZ (by rw [← RES.out, HR.out]; simp), S1.out.1⟩
    go_wp2_with fail
    refine (in_any c 0 60 _).mono ?_
    rintro e w2 ⟨rfl, rfl⟩
    generalize inB c 0 60 = x at HR ⊢
    rcases x with _ | _
    · go_wp2
      go_ret
      exact ⟨ret_bZ (by rw [← RES.out, HR.out]; simp), S1.out.1⟩
    go_wp2
    go_ret
    exact ⟨ret_bZ (by rw [← RES.out, HR.out]; simp), S1.out.1⟩
  by_cases k5 : ki = 5
  · subst k5
    have HR := Lib.hid (@ruOk_5 p a b c HP.out)
    go_wp2_with fail
    clear e0 e1 e2 e3 e4 ef q0 q1 q2 q3 qf
    refine (specIsMachine_any p a _ _ (by exact S1.out.old HV.out)).mono ?_
    rintro e w2 ⟨rfl, b⟩
    have S2 := Lib.hid (S1.out.go b)
    clear S1 b
    obtain ⟨e0, e1, e2, e3, e4, ef⟩ := (S2.out.bk 1 rfl).c5
    obtain ⟨q0, q1, q2, q3, qf⟩ := (S2.out.bk 0 rfl).c4
    generalize machB p a = x at HR ⊢
    rcases x with _ | _
    · go_wp2
      go_ret
      exact ⟨ret_bZ (by rw [← RES.out, HR.out]; simp), S2.out.1⟩
    go_wp2_with fail
    refine (in_any b 0 ((p.acts.length : Int) - 1) _).mono ?_
    rintro e w3 ⟨rfl, rfl⟩
    generalize inB b 0 ((p.acts.length : Int) - 1) = x at HR ⊢
    rcases x with _ | _
    · go_wp2
      go_ret
      exact ⟨ret_bZ (by rw [← RES.out, HR.out]; simp), S2.out.1⟩
    go_wp2_with fail
    refine (in_any c 0 ((p.acts.length : Int) - 1) _).mono ?_
    rintro e w3 ⟨rfl, rfl⟩
    generalize inB c 0 ((p.acts.length : Int) - 1) = x at HR ⊢
    rcases x with _ | _
    · go_wp2
      go_ret
      exact ⟨ret_bZ (by rw [← RES.out, HR.out]; simp), S2.out.1⟩
    go_wp2
    go_ret
    exact ⟨ret_bZ (by rw [← RES.out, HR.out]; simp), S2.out.1⟩
  by_cases k6 : ki = 6
  · subst k6
    have HR := Lib.hid (@ruOk_6 p a b c HP.out)
    go_wp2_with fail
    refine (in_any a 0 ((p.stk.length : Int) - 1) _).mono ?_
    rintro e w2 ⟨rfl, rfl⟩
    generalize inB a 0 ((p.stk.length : Int) - 1) = x at HR ⊢
    rcases x with _ | _
    · go_wp2
      go_ret
      exact ⟨ret_bZ (by rw [← RES.out, HR.out]; simp), S1.out.1⟩
    by_cases hb : b = 0
    rotate_left
    · have tb : (b == 0) = false := by simpa using hb
      have HB := Lib.hid (decide_eq_false hb)
      clear hb
      go_wp2
      go_ret
      exact ⟨ret_bZ (by rw [← RES.out, HR.out, HB.out]; rfl), S1.out.1⟩
    subst hb
    by_cases hc : c = 0
    rotate_left
    · have tc : (c == 0) = false := by simpa using hc
      have HB := Lib.hid (decide_eq_false hc)
      clear hc
      go_wp2
      go_ret
      exact ⟨ret_bZ (by rw [← RES.out, HR.out, HB.out]; rfl), S1.out.1⟩
    subst hc
    go_wp2
    go_ret
    exact ⟨ret_bZ (by rw [← RES.out, HR.out]; simp), S1.out.1⟩
  have HR := Lib.hid (@ruOk_0 p ⟨ki, a, b, c⟩ k1 k2 k3 k4 k5 k6)
  go_wp2
  go_ret
  exact ⟨ret_bZ (by rw [← RES.out, HR.out]), S1.out.1⟩
end Go.Proofs.YtaglfdkeomjpdaaGreat
