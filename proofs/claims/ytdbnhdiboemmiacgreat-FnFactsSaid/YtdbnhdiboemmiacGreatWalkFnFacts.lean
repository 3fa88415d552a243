/- DERIVED. The walk of the law FnFacts, by contracts. -/
import Derived.Test.YtdbnhdiboemmiacGreatDmYG
import Derived.Test.YtdbnhdiboemmiacGreatDmIG
import Derived.Test.YtdbnhdiboemmiacGreatDmKG
import Derived.Test.YtdbnhdiboemmiacGreatDmQG
import Derived.Test.YtdbnhdiboemmiacGreatDmRG
import Derived.Test.YtdbnhdiboemmiacGreatLtO
import Derived.Test.YtdbnhdiboemmiacGreatMkP
import Derived.Test.YtdbnhdiboemmiacGreatRuDr
import Derived.Test.YtdbnhdiboemmiacGreatTrOk
import Derived.Test.YtdbnhdiboemmiacGreatBts
namespace Go.Proofs.YtdbnhdiboemmiacGreat
open Go.RowKit Go.Shelf
set_option linter.unusedVariables false

noncomputable def XJ (p : Pj) (b : Dm) (j : Nat) : Dm := ((litsD p b).take j).foldl restD (initD p)
theorem xj_zero (p : Pj) (b : Dm) : XJ p b 0 = initD p := rfl
theorem xj_succ {p : Pj} {b : Dm} {j : Nat} (h : j < (litsD p b).length) : XJ p b (j + 1) = restD (XJ p b j) ((litsD p b)[j]) := by
  unfold XJ
  rw [List.take_succ_eq_append_getElem h, List.foldl_append]; rfl
theorem xj_all {p : Pj} {b : Dm} (hp : pokB p = true) (h : Bx p b) : XJ p b (litsD p b).length = b := by
  unfold XJ
  rw [List.take_length, fold_lits hp h]
theorem xj_sz (p : Pj) (b : Dm) (j : Nat) : (trDm (XJ p b j)).sz ≤ 1048576 := by
  have h1 := fold_sz (initD p) ((litsD p b).take j)
  have h2 := init_sz p
  unfold XJ
  omega
set_option maxRecDepth 100000 in
set_option maxHeartbeats 16000000 in
theorem walkFnFacts (c0 : Option Addr) (len0 cap0 : Nat) (zs0 : List Int) (w : World) (hz0 : IsBytes w c0 len0 cap0 zs0) :
    Calls Tryz.prog 3 #[.slice c0 len0 cap0] w fun e w' => e = .returned (.bool true) ∧ Below w.heap.size w w' := by
  have hlz0 := (isBytes_rd hz0).1
  have hr0 := (isBytes_rd hz0).2
  generalize hxs0 : zs0.take len0 = bs at hr0
  have hlen0 : bs.length = len0 := by rw [← hxs0]; simp; omega
  have hlm0 : bs.length ≤ maxLen := by simpa using hr0.1.1
  unfold maxLen at hlm0
  clear hz0 hxs0
  have HR := Lib.hid hr0
  clear hr0
  subst hlen0
  by_cases hbig0 : (1048576 : Int) < bs.length
  · go_enter Tryz.func3, Tryz.ntmps3
    go_wp2
    go_ret
    exact ⟨rfl, Below.refl _ _⟩
  have hl0 : bs.length ≤ 1048576 := by omega
  clear hbig0
  have S0 := Lib.hid (Sn.start w)
  go_enter Tryz.func3, Tryz.ntmps3
  go_wp2_with fail
  refine (makeProject_any c0 _ bs _ HR.out.1 HR.out.2 hl0).mono ?_
  rintro e w1 ⟨v1, p, F1, rfl, hp, o, h, b⟩
  obtain ⟨A1, c1, A2, c2, A3, c3, A4, c4, rfl, _⟩ := rdProject_t (Tr.own_rd _ _ _ o)
  have S1 := Lib.hid ((S0.out.new o h b).box 28 [.int .i64 p.dl, .slice A1 p.acts.length c1, .slice A2 p.lks.length c2, .slice A3 p.ress.length c3, .slice A4 p.stk.length c4])
  have POK := Lib.hid (drPj_ok hp (by omega))
  have TOK := Lib.hid (drPj_trok hp (by omega))
  clear o h b hp S0
  obtain ⟨e0, e1, e2, e3, e4, ef⟩ := (S1.out.bk 0 rfl).c5
  go_wp2_with fail
  clear e0 e1 e2 e3 e4 ef
  generalize hgp : w1.heap.size = gp at S1 ⊢
  refine (makeBox_any p POK.out c0 _ bs _ _ (HR.out.1.below S1.out.1 (Nat.le_refl _)) HR.out.2 hl0 (by exact S1.out.rd 1 rfl) TOK.out).mono ?_
  rintro e w2 ⟨v2, bx, F2, rfl, hB, o, h, b⟩
  obtain ⟨X0, x0, X1, x1, X2, x2, rfl, _⟩ := rdDomain_t (Tr.own_rd _ _ _ o)
  have HB := Lib.hid hB
  have BOK := Lib.hid (bx_ok POK.out hB)
  have BSZ := Lib.hid (bx_sz POK.out hB)
  have S2 := Lib.hid ((S1.out.new o h b).box 32 [.slice X0 bx.mn.length x0, .slice X1 bx.mx.length x1, .slice X2 bx.md.length x2])
  clear o h b hB S1 hgp
  obtain ⟨e0, e1, e2, e3, e4, ef⟩ := (S2.out.bk 2 rfl).c5
  go_wp2_with fail
  clear e0 e1 e2 e3 e4 ef
  generalize hgb : w2.heap.size = gb at S2 ⊢
  refine (implInitialDomain_any p _ _ (by exact S2.out.rd 3 rfl) TOK.out).mono ?_
  rintro e w3 ⟨v3, F3, rfl, o, h, b⟩
  obtain ⟨Y0, y0, Y1, y1, Y2, y2, rfl, _⟩ := rdDomain_t (Tr.own_rd _ _ _ o)
  have S3 := Lib.hid ((S2.out.new o h b).box 32 [.slice Y0 (initD p).mn.length y0, .slice Y1 (initD p).mx.length y1, .slice Y2 (initD p).md.length y2])
  clear o h b S2 hgb
  obtain ⟨e0, e1, e2, e3, e4, ef⟩ := (S3.out.bk 4 rfl).c5
  obtain ⟨q0, q1, q2, qf⟩ := (S3.out.bk 2 rfl).c3
  go_wp2_with fail
  clear e0 e1 e2 e3 e4 ef
  clear q0 q1 q2 qf
  generalize hgx : w3.heap.size = gx at S3 ⊢
  refine (implDomainLiterals_any p bx _ _ _ (by exact S3.out.rd 5 rfl) TOK.out (by exact (S3.out.own 3 rfl).1) BSZ.out).mono ?_
  rintro e w4 ⟨v4, F4, rfl, o, h, b⟩
  obtain ⟨UL, uL, rfl⟩ := rows_slice (Tr.own_rd _ _ _ o)
  have S4 := Lib.hid (S3.out.new o h b)
  clear o h b S3 hgx
  rw [← xj_zero p bx] at S4
  have hll := litsK_len (p := p) (d := bx) (k := p.acts.length) (fun a _ => acA_le POK.out a)
  rw [← lits_yes (bx_form POK.out HB.out)] at hll
  have h6 := (pok_acts POK.out).1
  go_wp2_with fail
  go_loopw [22] (fun i wr => ∃ (j : Nat) (Y0 Y1 Y2 : Option Addr) (y0 y1 y2 : Nat) (FX : List Nat), j ≤ (litsD p bx).length ∧ i = .int .i64 j ∧ Sn w wr [boxI gx 32 [.slice Y0 (XJ p bx j).mn.length y0, .slice Y1 (XJ p bx j).mx.length y1, .slice Y2 (XJ p bx j).md.length y2], ⟨trDm (XJ p bx j), .agg #[.slice Y0 (XJ p bx j).mn.length y0, .slice Y1 (XJ p bx j).mx.length y1, .slice Y2 (XJ p bx j).md.length y2], FX⟩, ⟨trLts (litsD p bx), .slice UL (litsD p bx).length uL, F4⟩, boxI gb 32 [.slice X0 bx.mn.length x0, .slice X1 bx.mx.length x1, .slice X2 bx.md.length x2], ⟨trDm bx, .agg #[.slice X0 bx.mn.length x0, .slice X1 bx.mx.length x1, .slice X2 bx.md.length x2], F2⟩, boxI gp 28 [.int .i64 p.dl, .slice A1 p.acts.length c1, .slice A2 p.lks.length c2, .slice A3 p.ress.length c3, .slice A4 p.stk.length c4], ⟨trPj p, .agg #[.int .i64 p.dl, .slice A1 p.acts.length c1, .slice A2 p.lks.length c2, .slice A3 p.ress.length c3, .slice A4 p.stk.length c4], F1⟩]) (fun i _ => (litsD p bx).length - (intOf i).toNat)
  case atStart => exact ⟨0, Y0, Y1, Y2, y0, y1, y2, _, Nat.zero_le _, rfl, (S4.out.pick 2 rfl).pick 2 rfl⟩
  case round =>
    obtain ⟨j, Y0, Y1, Y2, y0, y1, y2, FX, hjl, rfl, hS⟩ := hrel
    have S5 := Lib.hid hS
    clear hS S4
    by_cases hjt : j < (litsD p bx).length
    · have hjt' : (j : Int) < ((litsD p bx).length : Int) := by omega
      have j0 : (0 : Int) ≤ (j : Int) := by omega
      obtain ⟨HO1, HO2⟩ := lits_good POK.out HB.out (List.getElem_mem hjt)
      have HLO := Lib.hid HO1
      have HLV := Lib.hid HO2
      have XS := Lib.hid (xj_succ hjt)
      obtain ⟨_, B9, q9, he9, y9⟩ := rdLiteralS_t (S5.out.rd 2 rfl)
      injection he9 with he9 _ he8
      subst he9 he8
      obtain ⟨b9, o9, rfl, hb9, hc9⟩ := y9 j hjt
      obtain ⟨hc0, hc1, hc2⟩ := hc9 j hjt
      generalize (litsD p bx)[j] = l at hc0 hc1 hc2 HLO HLV XS
      clear y9 hc9 HO1 HO2
      have S6 := Lib.hid (S5.out.box 38 [.int .i64 l.ki, .int .i64 l.ac, .int .i64 l.va])
      clear S5
      obtain ⟨e0, e1, e2, e3, e4, ef⟩ := (S6.out.bk 6 rfl).c5
      go_wp2_with fail
      clear e0 e1 e2 e3 e4 ef
      clear hc0 hc1 hc2
      generalize wr.heap.size = gl at S6 ⊢
      generalize World.alloc wr _ = wa at S6 ⊢
      obtain ⟨ki, ac, va⟩ := l
      refine (implLiteralOk_any p ⟨ki, ac, va⟩ _ _ (by exact S6.out.rd 7 rfl) TOK.out).mono ?_
      rintro e w6 ⟨rfl, b⟩
      have S7 := Lib.hid (S6.out.go b)
      clear S6 b
      rw [HLO.out]
      obtain ⟨q0, q1, q2, qf⟩ := (S7.out.bk 4 rfl).c3
      obtain ⟨h0, h1, h2, hf⟩ := (S7.out.bk 0 rfl).c3
      go_wp2_with fail
      clear q0 q1 q2 qf h0 h1 h2 hf
      refine (implLiteralValue_any bx ⟨ki, ac, va⟩ _ _ (by exact S7.out.rd 5 rfl)).mono ?_
      rintro e w7 ⟨rfl, b⟩
      have S8 := Lib.hid (S7.out.go b)
      clear S7 b
      rw [HLV.out]
      obtain ⟨q0, q1, q2, qf⟩ := (S8.out.bk 1 rfl).c3
      obtain ⟨h0, h1, h2, hf⟩ := (S8.out.bk 0 rfl).c3
      go_wp2_with fail
      clear q0 q1 q2 qf h0 h1 h2 hf
      refine (implRestrict_any (XJ p bx j) ⟨ki, ac, va⟩ _ _ (by exact S8.out.rd 2 rfl) (xj_sz _ _ _)).mono ?_
      rintro e w8 ⟨v8, F8, rfl, o, h, b⟩
      rw [← XS.out] at o
      obtain ⟨Z0, z0, Z1, z1, Z2, z2, rfl, _⟩ := rdDomain_t (Tr.own_rd _ _ _ o)
      have S9 := Lib.hid (S8.out.new o h b)
      clear S8 o h b
      obtain ⟨q0, q1, q2, qf⟩ := (S9.out.bk 2 rfl).c3
      have S10 := Lib.hid (((S9.out.boxSet 2 rfl 0 (.slice Z0 (XJ p bx (j + 1)).mn.length z0)).boxSet 2 rfl 1 (.slice Z1 (XJ p bx (j + 1)).mx.length z1)).boxSet 2 rfl 2 (.slice Z2 (XJ p bx (j + 1)).md.length z2))
      simp only [List.set_cons_zero, List.set_cons_succ] at S10
      clear S9
      go_wp2
      go_roundw
      case rel => exact ⟨j + 1, Z0, Z1, Z2, z0, z1, z2, F8, by omega, by go_num, (((S10.out.drop 1).pick 1 rfl).drop 2)⟩
      case measure => simp [intOf]; omega
    · have hge : ¬ (j : Int) < ((litsD p bx).length : Int) := by omega
      obtain rfl : j = (litsD p bx).length := by omega
      rw [xj_all POK.out HB.out] at S5
      obtain ⟨x0', x1', x2', xf'⟩ := (S5.out.bk 0 rfl).c3
      obtain ⟨q0, q1, q2, qf⟩ := (S5.out.bk 3 rfl).c3
      obtain ⟨p0, p1, p2, p3, p4, pf⟩ := (S5.out.bk 5 rfl).c5
      have hlx := (S5.out.bk 0 rfl).lt
      have hlq := (S5.out.bk 3 rfl).lt
      have hlp := (S5.out.bk 5 rfl).lt
      go_wp2_with fail
      have S6 := Lib.hid S5.out.drew1
      clear S5
      have CE := Lib.hid (fun (W : World) (h : Wr [] wr.drew W) => show Hid (Wr [] wr.drew W) ∧ W.cell? ⟨gx, 0, none⟩ = some (.slice Y0 bx.mn.length y0) ∧ W.cell? ⟨gx, 1, none⟩ = some (.slice Y1 bx.mx.length y1) ∧ W.cell? ⟨gx, 2, none⟩ = some (.slice Y2 bx.md.length y2) ∧ W.cell? ⟨gb, 0, none⟩ = some (.slice X0 bx.mn.length x0) ∧ W.cell? ⟨gb, 1, none⟩ = some (.slice X1 bx.mx.length x1) ∧ W.cell? ⟨gb, 2, none⟩ = some (.slice X2 bx.md.length x2) ∧ W.cell? ⟨gp, 0, none⟩ = some (.int .i64 p.dl) ∧ W.cell? ⟨gp, 1, none⟩ = some (.slice A1 p.acts.length c1) ∧ W.cell? ⟨gp, 2, none⟩ = some (.slice A2 p.lks.length c2) ∧ W.cell? ⟨gp, 3, none⟩ = some (.slice A3 p.ress.length c3) ∧ W.cell? ⟨gp, 4, none⟩ = some (.slice A4 p.stk.length c4) from ⟨Lib.hid h, (wr_cell h (p := ⟨gx, 0, none⟩) hlx (by simp)).trans (by exact by simpa using x0'), (wr_cell h (p := ⟨gx, 1, none⟩) hlx (by simp)).trans (by exact by simpa using x1'), (wr_cell h (p := ⟨gx, 2, none⟩) hlx (by simp)).trans (by exact by simpa using x2'), (wr_cell h (p := ⟨gb, 0, none⟩) hlq (by simp)).trans (by exact by simpa using q0), (wr_cell h (p := ⟨gb, 1, none⟩) hlq (by simp)).trans (by exact by simpa using q1), (wr_cell h (p := ⟨gb, 2, none⟩) hlq (by simp)).trans (by exact by simpa using q2), (wr_cell h (p := ⟨gp, 0, none⟩) hlp (by simp)).trans (by exact by simpa using p0), (wr_cell h (p := ⟨gp, 1, none⟩) hlp (by simp)).trans (by exact by simpa using p1), (wr_cell h (p := ⟨gp, 2, none⟩) hlp (by simp)).trans (by exact by simpa using p2), (wr_cell h (p := ⟨gp, 3, none⟩) hlp (by simp)).trans (by exact by simpa using p3), (wr_cell h (p := ⟨gp, 4, none⟩) hlp (by simp)).trans (by exact by simpa using p4)⟩)
      have INIT := Lib.hid (CE.out _ (Wr.refl _ _))
      have KW := Lib.hid (fun (W2 W : World) (hb : Wr [] W W2) (h : Hid (Wr [] wr.drew W) ∧ W.cell? ⟨gx, 0, none⟩ = some (.slice Y0 bx.mn.length y0) ∧ W.cell? ⟨gx, 1, none⟩ = some (.slice Y1 bx.mx.length y1) ∧ W.cell? ⟨gx, 2, none⟩ = some (.slice Y2 bx.md.length y2) ∧ W.cell? ⟨gb, 0, none⟩ = some (.slice X0 bx.mn.length x0) ∧ W.cell? ⟨gb, 1, none⟩ = some (.slice X1 bx.mx.length x1) ∧ W.cell? ⟨gb, 2, none⟩ = some (.slice X2 bx.md.length x2) ∧ W.cell? ⟨gp, 0, none⟩ = some (.int .i64 p.dl) ∧ W.cell? ⟨gp, 1, none⟩ = some (.slice A1 p.acts.length c1) ∧ W.cell? ⟨gp, 2, none⟩ = some (.slice A2 p.lks.length c2) ∧ W.cell? ⟨gp, 3, none⟩ = some (.slice A3 p.ress.length c3) ∧ W.cell? ⟨gp, 4, none⟩ = some (.slice A4 p.stk.length c4)) => CE.out W2 (h.1.out.trans hb))
      clear x0' x1' x2' xf' q0 q1 q2 qf p0 p1 p2 p3 p4 pf hlx hlq hlp
      refine wp_region_held_drew (S := fun W => Hid (Wr [] wr.drew W) ∧ W.cell? ⟨gx, 0, none⟩ = some (.slice Y0 bx.mn.length y0) ∧ W.cell? ⟨gx, 1, none⟩ = some (.slice Y1 bx.mx.length y1) ∧ W.cell? ⟨gx, 2, none⟩ = some (.slice Y2 bx.md.length y2) ∧ W.cell? ⟨gb, 0, none⟩ = some (.slice X0 bx.mn.length x0) ∧ W.cell? ⟨gb, 1, none⟩ = some (.slice X1 bx.mx.length x1) ∧ W.cell? ⟨gb, 2, none⟩ = some (.slice X2 bx.md.length x2) ∧ W.cell? ⟨gp, 0, none⟩ = some (.int .i64 p.dl) ∧ W.cell? ⟨gp, 1, none⟩ = some (.slice A1 p.acts.length c1) ∧ W.cell? ⟨gp, 2, none⟩ = some (.slice A2 p.lks.length c2) ∧ W.cell? ⟨gp, 3, none⟩ = some (.slice A3 p.ress.length c3) ∧ W.cell? ⟨gp, 4, none⟩ = some (.slice A4 p.stk.length c4)) (by kernel_rfl) INIT.out (fun hHeld => ?_)
      clear CE INIT
      refine wpAnyH_take (i := 0) (v := ?_) rfl (by kernel_rfl) (by kernel_rfl) (by kernel_rfl) (fun _ _ _ h => h) (Or.inl ⟨by rfl, ?_⟩) (by assumption) ?_
      rotate_left
      · (intro W hSw; (try dsimp only at hSw); go_simp <;> with_reducible rfl)
      (try simp only [Act.put, List.getElem_toArray, List.getElem_cons_zero, List.setIfInBounds_toArray, List.set_cons_succ, List.set_cons_zero])
      refine wpAnyH_take (i := 1) (v := ?_) rfl (by kernel_rfl) (by kernel_rfl) (by kernel_rfl) (fun _ _ _ h => h) (Or.inl ⟨by rfl, ?_⟩) (by assumption) ?_
      rotate_left
      · (intro W hSw; (try dsimp only at hSw); go_simp <;> with_reducible rfl)
      (try simp only [Act.put, List.getElem_toArray, List.getElem_cons_succ, List.getElem_cons_zero, List.setIfInBounds_toArray, List.set_cons_succ, List.set_cons_zero])
      refine wpAnyH_ready (rs := [2]) (by kernel_rfl) (by simp) ?_
      refine AllReadyH.cons rfl (fun K hK => ?_) AllReadyH.nil
      go_simp
      go_at_call 11
      refine (implDomainEqual_any bx bx _ _ _ (by exact S6.out.rd 1 rfl) (by exact S6.out.rd 4 rfl) BOK.out BOK.out).mono ?_
      rintro e w7 ⟨rfl, bb⟩
      have S7 := Lib.hid (S6.out.go bb)
      (first | done | go_wp2_with fail)
      refine hK.out _ _ (KW.out _ _ (Wr.of_below bb (Nat.le_refl _)) (by assumption)) (fun hHeld2 => ?_)
      clear hK K bb S6
      rw [bx_eq]
      refine wpAnyH_take (i := 3) (v := ?_) rfl (by kernel_rfl) (by kernel_rfl) (by kernel_rfl) (fun _ _ _ h => h) (Or.inl ⟨by rfl, ?_⟩) (by assumption) ?_
      rotate_left
      · (intro W hSw; (try dsimp only at hSw); go_simp <;> with_reducible rfl)
      (try simp only [Act.put, List.getElem_toArray, List.getElem_cons_succ, List.getElem_cons_zero, List.setIfInBounds_toArray, List.set_cons_succ, List.set_cons_zero])
      refine wpAnyH_take (i := 4) (v := ?_) rfl (by kernel_rfl) (by kernel_rfl) (by kernel_rfl) (fun _ _ _ h => h) (Or.inl ⟨by rfl, ?_⟩) (by assumption) ?_
      rotate_left
      · (intro W hSw; (try dsimp only at hSw); go_simp <;> with_reducible rfl)
      (try simp only [Act.put, List.getElem_toArray, List.getElem_cons_succ, List.getElem_cons_zero, List.setIfInBounds_toArray, List.set_cons_succ, List.set_cons_zero])
      refine wpAnyH_take (i := 5) (v := ?_) rfl (by kernel_rfl) (by kernel_rfl) (by kernel_rfl) (fun _ _ _ h => h) (Or.inl ⟨by rfl, ?_⟩) (by assumption) ?_
      rotate_left
      · (intro W hSw; (try dsimp only at hSw); go_simp <;> with_reducible rfl)
      (try simp only [Act.put, List.getElem_toArray, List.getElem_cons_succ, List.getElem_cons_zero, List.setIfInBounds_toArray, List.set_cons_succ, List.set_cons_zero])
      refine wpAnyH_ready (rs := [6]) (by kernel_rfl) (by simp) ?_
      refine AllReadyH.cons rfl (fun K hK => ?_) AllReadyH.nil
      go_simp
      refine (implInitialDomain_any p _ _ (by exact S7.out.rd 6 rfl) TOK.out).mono ?_
      rintro e w8 ⟨v8, F8, rfl, o, h, bb⟩
      have S8 := Lib.hid (S7.out.new o h bb)
      (first | done | go_wp2_with fail | skip)
      refine hK.out _ _ (KW.out _ _ (Wr.of_below bb (Nat.le_refl _)) (by assumption)) (fun hHeld6 => ?_)
      clear hK K bb o h S7
      have ISZ := Lib.hid (Nat.le_trans (init_sz p) (by omega : 60 ≤ 1048576))
      have HSB := Lib.hid (bx_sub POK.out HB.out)
      have HFM := Lib.hid (bx_form POK.out HB.out)
      refine wpAnyH_ready (rs := [7]) (by kernel_rfl) (by simp) ?_
      refine AllReadyH.cons rfl (fun K hK => ?_) AllReadyH.nil
      go_simp
      go_at_call 12
      refine (implDomainSubset_any bx (initD p) _ _ _ (by exact (S8.out.own 5 rfl).1) (by exact (S8.out.own 0 rfl).1) BSZ.out ISZ.out).mono ?_
      rintro e w9 ⟨rfl, bb⟩
      have S9 := Lib.hid (S8.out.go bb)
      (first | done | go_wp2_with fail)
      refine hK.out _ _ (KW.out _ _ (Wr.of_below bb (Nat.le_refl _)) (by assumption)) (fun hHeld7 => ?_)
      clear hK K bb S8
      rw [HSB.out]
      refine wpAnyH_take (i := 8) (v := ?_) rfl (by kernel_rfl) (by kernel_rfl) (by kernel_rfl) (fun _ _ _ h => h) (Or.inl ⟨by rfl, ?_⟩) (by assumption) ?_
      rotate_left
      · (intro W hSw; (try dsimp only at hSw); go_simp <;> with_reducible rfl)
      (try simp only [Act.put, List.getElem_toArray, List.getElem_cons_succ, List.getElem_cons_zero, List.setIfInBounds_toArray, List.set_cons_succ, List.set_cons_zero])
      refine wpAnyH_take (i := 9) (v := ?_) rfl (by kernel_rfl) (by kernel_rfl) (by kernel_rfl) (fun _ _ _ h => h) (Or.inl ⟨by rfl, ?_⟩) (by assumption) ?_
      rotate_left
      · (intro W hSw; (try dsimp only at hSw); go_simp <;> with_reducible rfl)
      (try simp only [Act.put, List.getElem_toArray, List.getElem_cons_succ, List.getElem_cons_zero, List.setIfInBounds_toArray, List.set_cons_succ, List.set_cons_zero])
      refine wpAnyH_take (i := 10) (v := ?_) rfl (by kernel_rfl) (by kernel_rfl) (by kernel_rfl) (fun _ _ _ h => h) (Or.inl ⟨by rfl, ?_⟩) (by assumption) ?_
      rotate_left
      · (intro W hSw; (try dsimp only at hSw); go_simp <;> with_reducible rfl)
      (try simp only [Act.put, List.getElem_toArray, List.getElem_cons_succ, List.getElem_cons_zero, List.setIfInBounds_toArray, List.set_cons_succ, List.set_cons_zero])
      refine wpAnyH_take (i := 11) (v := ?_) rfl (by kernel_rfl) (by kernel_rfl) (by kernel_rfl) (fun _ _ _ h => h) (Or.inl ⟨by rfl, ?_⟩) (by assumption) ?_
      rotate_left
      · (intro W hSw; (try dsimp only at hSw); go_simp <;> with_reducible rfl)
      (try simp only [Act.put, List.getElem_toArray, List.getElem_cons_succ, List.getElem_cons_zero, List.setIfInBounds_toArray, List.set_cons_succ, List.set_cons_zero])
      refine wpAnyH_ready (rs := [12]) (by kernel_rfl) (by simp) ?_
      refine AllReadyH.cons rfl (fun K hK => ?_) AllReadyH.nil
      go_simp
      go_at_call 13
      refine (implDomainForm_any p bx _ _ _ (by exact S9.out.rd 7 rfl) TOK.out (by exact S9.out.rd 2 rfl)).mono ?_
      rintro e w10 ⟨rfl, bb⟩
      have S10 := Lib.hid (S9.out.go bb)
      (first | done | go_wp2_with fail)
      refine hK.out _ _ (KW.out _ _ (Wr.of_below bb (Nat.le_refl _)) (by assumption)) (fun hHeld12 => ?_)
      clear hK K bb S9
      rw [HFM.out]
      refine wpAnyH_take (i := 13) (v := ?_) rfl (by kernel_rfl) (by kernel_rfl) (by kernel_rfl) (fun _ _ _ h => h) (Or.inl ⟨by rfl, ?_⟩) (by assumption) ?_
      rotate_left
      · (intro W hSw; (try dsimp only at hSw); go_simp <;> with_reducible rfl)
      (try simp only [Act.put, List.getElem_toArray, List.getElem_cons_succ, List.getElem_cons_zero, List.setIfInBounds_toArray, List.set_cons_succ, List.set_cons_zero])
      refine wpAnyH_take (i := 14) (v := ?_) rfl (by kernel_rfl) (by kernel_rfl) (by kernel_rfl) (fun _ _ _ h => h) (Or.inl ⟨by rfl, ?_⟩) (by assumption) ?_
      rotate_left
      · (intro W hSw; (try dsimp only at hSw); go_simp <;> with_reducible rfl)
      (try simp only [Act.put, List.getElem_toArray, List.getElem_cons_succ, List.getElem_cons_zero, List.setIfInBounds_toArray, List.set_cons_succ, List.set_cons_zero])
      refine wpAnyH_done (by kernel_rfl) ?_ _
      go_wp2
      go_ret
      exact ⟨rfl, S10.out.1⟩
end Go.Proofs.YtdbnhdiboemmiacGreat
