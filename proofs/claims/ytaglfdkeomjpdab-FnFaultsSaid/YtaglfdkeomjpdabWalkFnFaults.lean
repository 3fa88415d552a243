/- DERIVED. The walk of the law FnFaults, by contracts. -/
import Derived.Test.YtaglfdkeomjpdabRuDr
import Derived.Test.YtaglfdkeomjpdabRuMa
import Derived.Test.YtaglfdkeomjpdabRuP
import Derived.Test.YtaglfdkeomjpdabScU
import Derived.Test.YtaglfdkeomjpdabBts
namespace Go.Proofs.Ytaglfdkeomjpdab
open Go.RowKit Go.Shelf
set_option linter.unusedVariables false

theorem wf_small {n : Int} (h : -1000000 ≤ n ∧ n ≤ 1000000) : (Lit.int .i64 n).wf = true := by
  have h1 : IntKind.i64.min = -9223372036854775808 := rfl
  have h2 : IntKind.i64.max = 9223372036854775807 := rfl
  simp only [Lit.wf, Bool.and_eq_true, decide_eq_true_eq]
  omega
theorem trI_ok {us : List Int} (h : ∀ x ∈ us, -1000000 ≤ x ∧ x ≤ 1000000) : (trI us).ok := by
  show okL ((us.map (Value.int .i64)).map Tr.one)
  induction us with
  | nil => exact trivial
  | cons x us ih => exact ⟨wf_small (h x (by simp)), ih (fun y hy => h y (by simp [hy]))⟩
theorem drPj_trok {most : Nat} {p : Pj} (h : DrPj most p) (h6 : most ≤ 6) : (trPj p).ok := by
  refine ⟨wf_small (by have := h.dl; omega), flat_okL (f := cellsA) fun a ha => ?_, flat_okL (f := cellsL) fun l hl => ?_, flat_okL (f := cellsR) fun r hr => ?_, trI_ok fun x hx => by have := h.stk.2 x hx; omega, trivial⟩
  · obtain ⟨i, hi, rfl⟩ := List.getElem_of_mem ha
    have hd := h.acts.2.2 i hi
    have hn := (name_ok i (by have := h.acts.2.1; omega)).2
    refine ⟨by show p.acts[i].nm.size ≤ maxLen; rw [hd.1]; unfold maxLen; omega, wf_small (by have := hd.2.1; have := hd.2.2.1; omega), flat_okL (f := cellsM) fun m hm => ?_, trivial⟩
    have hm := hd.2.2.2.2.2 m hm
    exact ⟨wf_small (by have := hm.1; have := hm.2.1; omega), trI_ok fun x hx => by have := hm.2.2.2.2.1 x hx; omega, trI_ok fun x hx => by have := hm.2.2.2.2.2 x hx; omega, trivial⟩
  · have hl := h.lks.2 l hl
    have := h.acts.2.1
    obtain ⟨h1, h2, h3, h4, h5, h7, h8⟩ := hl
    exact ⟨wf_small (by omega), wf_small (by omega), trivial, wf_small (by omega), trivial⟩
  · have hr := h.ress.2.2 r hr
    refine ⟨flat_okL (f := cellsPt) fun q hq => ?_, flat_okL (f := cellsI1) fun row hrow => ?_, trivial⟩
    · have := hr.1.1.2.2.2 q hq
      have := hr.1.2
      exact ⟨wf_small (by omega), wf_small (by omega), trivial⟩
    · rcases hr.2 with e | ⟨_, e⟩
      · rw [e] at hrow; cases hrow
      · exact ⟨trI_ok fun x hx => by have := (e row hrow).2 x hx; omega, trivial⟩
theorem over_eq {p : Pj} {s : Sc} {t : Nat} (hf : formB p s = true) (hr : 0 < p.ress.length) (ht : t ≤ 60) : decide (useB p s 0 (t : Int) > capB p.ress[0].st (t : Int)) = violB p s ⟨3, 0, (t : Int), 0⟩ := by
  have F := form_of hf
  have hthere : thereC p (.tim 0 (t : Int)) = true := by
    simp only [thereC, Bool.and_eq_true]
    exact ⟨inB_yes (by omega), inB_yes (by omega)⟩
  rw [show (⟨3, 0, (t : Int), 0⟩ : Ru) = (Cd.tim 0 (t : Int)).ru from rfl, viol_yes hf (cond_ru _) hthere, show (0 : Int) = ((0 : Nat) : Int) from rfl, use_yes hf hr, cap_in (pok_st F.ok hr) (by omega)]
  show _ = decide (atP (rsA p 0).st (t : Int) < useK p s 0 (t : Int) p.acts.length)
  rw [rsA_at hr]

theorem rdPj_res {W : World} {p : Pj} {dl : Int} {n1 n2 n3 n4 c1 c2 c3 c4 : Nat} {A1 A2 A3 A4 : Option Addr} (h : (trPj p).rd W (.agg #[.int .i64 dl, .slice A1 n1 c1, .slice A2 n2 c2, .slice A3 n3 c3, .slice A4 n4 c4])) : (trRs p.ress).rd W (.slice A3 n3 c3) := by
  obtain ⟨B1, d1, B2, d2, B3, d3, B4, d4, he, r1, r2, r3, r4⟩ := rdProject_t h
  injection he with he
  injection he with he
  simp at he
  obtain ⟨_, _, _, ⟨rfl, rfl, rfl⟩, _⟩ := he
  exact r3
set_option maxRecDepth 100000 in
set_option maxHeartbeats 16000000 in
theorem walkFnFaults (c0 : Option Addr) (len0 cap0 : Nat) (zs0 : List Int) (w : World) (hz0 : IsBytes w c0 len0 cap0 zs0) :
    Calls Try.prog 4 #[.slice c0 len0 cap0] w fun e w' => e = .returned (.bool true) ∧ Below w.heap.size w w' := by
  have hlz0 := (isBytes_rd hz0).1
  have hr0 := (isBytes_rd hz0).2
  generalize hxs0 : zs0.take len0 = bs at hr0
  have hlen0 : bs.length = len0 := by rw [← hxs0]; simp; omega
  have hlm0 : bs.length ≤ maxLen := by simpa using hr0.1.1
  unfold maxLen at hlm0
  clear hz0 hxs0
  have HR := Lib.hid hr0
  clear hr0
  subst hlen0
  by_cases hbig0 : (1048576 : Int) < bs.length
  · go_enter Try.func4, Try.ntmps4
    go_wp2
    go_ret
    exact ⟨rfl, Below.refl _ _⟩
  have hl0 : bs.length ≤ 1048576 := by omega
  clear hbig0
  have S0 := Lib.hid (Sn.start w)
  obtain ⟨ir, hi0, hiz0, hiz1, hiz2⟩ := info_parts infoRule_t
  go_enter Try.func4, Try.ntmps4
  go_wp2_with fail
  refine (makeProject_any c0 _ bs _ HR.out.1 HR.out.2 hl0).mono ?_
  rintro e w1 ⟨v1, p, F1, rfl, hp, o, h, b⟩
  obtain ⟨A1, c1, A2, c2, A3, c3, A4, c4, rfl, _⟩ := rdProject_t (Tr.own_rd _ _ _ o)
  have S1 := Lib.hid ((S0.out.new o h b).box 34 [.int .i64 p.dl, .slice A1 p.acts.length c1, .slice A2 p.lks.length c2, .slice A3 p.ress.length c3, .slice A4 p.stk.length c4])
  have HP := Lib.hid hp
  have POK := Lib.hid (drPj_ok hp (by omega))
  have TOK := Lib.hid (drPj_trok hp (by omega))
  have h6 : 1 ≤ p.acts.length ∧ p.acts.length ≤ 3 := ⟨hp.acts.1, hp.acts.2.1⟩
  have hres : 1 ≤ p.ress.length ∧ p.ress.length ≤ 2 := ⟨hp.ress.1, hp.ress.2.1⟩
  have HMS := Lib.hid (fun i (hi : i < p.acts.length) => (⟨(hp.acts.2.2 i hi).2.2.2.1, (hp.acts.2.2 i hi).2.2.2.2.1⟩ : 1 ≤ p.acts[i].ms.length ∧ p.acts[i].ms.length ≤ 2))
  have hlk : p.lks.length ≤ 12 := by have := hp.lks.1; omega
  have hsk : p.stk.length ≤ 2 := by have := hp.stk.1; omega
  clear o h b hp S0
  go_wp2_with fail
  refine (makeSched_any p (by omega) HMS.out c0 _ bs _ _ (HR.out.1.below S1.out.1 (Nat.le_refl _)) HR.out.2 hl0 (by exact S1.out.rd 1 rfl)).mono ?_
  rintro e w2 ⟨v2, s, F2, rfl, hds, o, h, b⟩
  obtain ⟨E1, f1, E2, f2, rfl, _⟩ := rdSchedule_t (Tr.own_rd _ _ _ o)
  have S1n := Lib.hid (S1.out.new o h b)
  have FM := Lib.hid (drSc_form POK.out hds)
  clear o h b hds S1
  generalize w1.heap.size = gp at S1n ⊢
  obtain ⟨e0, e1, e2, e3, e4, ef⟩ := (S1n.out.bk 1 rfl).c5
  have hlp := (S1n.out.bk 1 rfl).lt
  have S2 := Lib.hid (S1n.out.box 41 [.slice E1 s.st.length f1, .slice E2 s.mo.length f2])
  obtain ⟨gs, hgs⟩ : ∃ x, x = w2.heap.size := ⟨_, rfl⟩
  rw [← hgs] at S2
  have HGS := Lib.hid hgs
  clear hgs S1n
  go_wp2_with fail
  clear e0 e1 e2 e3 e4 ef
  clear hlp
  refine (implViolated_any p s _ _ _ (by exact S2.out.rd 3 rfl) TOK.out (by exact S2.out.rd 1 rfl)).mono ?_
  rintro e w4 ⟨v4, F4, rfl, o, h, b⟩
  have S3 := Lib.hid (S2.out.new o h b)
  obtain ⟨U, cu, rfl⟩ := rows_slice (S3.out.rd 0 rfl)
  clear o h b S2
  rw [← HGS.out]
  obtain ⟨e0, e1, e2, e3, e4, ef⟩ := (S3.out.bk 3 rfl).c5
  go_wp2_with fail
  clear e0 e1 e2 e3 e4 ef
  refine (makeRule_any p (by omega) (by omega) hlk hsk c0 _ bs _ _ (HR.out.1.below S3.out.1 (Nat.le_refl _)) HR.out.2 hl0 (by exact S3.out.rd 4 rfl)).mono ?_
  rintro e w5 ⟨r, rfl, b⟩
  have S3n := Lib.hid (S3.out.go b)
  obtain ⟨e0, e1, e2, e3, e4, ef⟩ := (S3n.out.bk 3 rfl).c5
  obtain ⟨q0, q1, qf⟩ := (S3n.out.bk 1 rfl).c2
  have hlp := (S3n.out.bk 3 rfl).lt
  have hls := (S3n.out.bk 1 rfl).lt
  have S4 := Lib.hid (S3n.out.box 46 [.int .i64 r.ki, .int .i64 r.a, .int .i64 r.b, .int .i64 r.c])
  clear b S3 S3n
  unfold ruV
  have SD := Lib.hid (show schedB p s = decide ((violsB p s).length = 0) from by rw [schedB, FM.out]; rfl)
  have NV := Lib.hid (fun hz => none_viol (r := r) FM.out hz)
  have MEM := Lib.hid (fun x hx => @viols_mem p s FM.out x hx)
  have OV := Lib.hid (fun t (ht : t ≤ 60) => over_eq (t := t) FM.out (show 0 < p.ress.length by omega) ht)
  generalize hvl : violsB p s = l at S4 SD NV MEM
  (try rw [hvl])
  clear hvl
  go_wp2_with fail
  clear e0 e1 e2 e3 e4 ef
  clear q0 q1 qf
  clear hlp hls
  obtain ⟨gr, hgr⟩ : ∃ x, x = w5.heap.size := ⟨_, rfl⟩
  rw [← hgr] at S4
  have HGR := Lib.hid hgr
  clear hgr
  refine (implSchedOk_any p s _ _ _ (by exact S4.out.rd 5 rfl) TOK.out (by exact S4.out.rd 3 rfl)).mono ?_
  rintro e w7 ⟨rfl, b⟩
  have S5 := Lib.hid (S4.out.go b)
  rw [← HGR.out]
  clear S4 b
  by_cases hz : l.length = 0
  · have SD2 := Lib.hid (show schedB p s = true from SD.out.trans (decide_eq_true hz))
    have NV2 := Lib.hid (NV.out hz)
    have tz : ((l.length : Int) == 0) = true := by rw [hz]; rfl
    clear hz
    rw [SD2.out]
    obtain ⟨e0, e1, e2, e3, e4, ef⟩ := (S5.out.bk 4 rfl).c5
    obtain ⟨q0, q1, qf⟩ := (S5.out.bk 2 rfl).c2
    go_wp2_with fail
    clear e0 e1 e2 e3 e4 ef
    clear q0 q1 qf
    refine (implForm_any p s _ _ _ (by exact S5.out.rd 5 rfl) TOK.out (by exact S5.out.rd 3 rfl)).mono ?_
    rintro e w8 ⟨rfl, b⟩
    have S6 := Lib.hid (S5.out.go b)
    clear S5 b
    rw [FM.out]
    obtain ⟨e0, e1, e2, e3, e4, ef⟩ := (S6.out.bk 4 rfl).c5
    obtain ⟨q0, q1, qf⟩ := (S6.out.bk 2 rfl).c2
    go_wp2_with fail
    clear e0 e1 e2 e3 e4 ef
    clear q0 q1 qf
    refine (implSchedOk_any p s _ _ _ (by exact S6.out.rd 5 rfl) TOK.out (by exact S6.out.rd 3 rfl)).mono ?_
    rintro e w9 ⟨rfl, b⟩
    have S7 := Lib.hid (S6.out.go b)
    clear S6 b
    rw [SD2.out]
    obtain ⟨e0, e1, e2, e3, e4, ef⟩ := (S7.out.bk 4 rfl).c5
    obtain ⟨q0, q1, qf⟩ := (S7.out.bk 2 rfl).c2
    obtain ⟨z0, z1, z2, z3, zf⟩ := (S7.out.bk 0 rfl).c4
    go_wp2_with fail
    clear e0 e1 e2 e3 e4 ef
    clear q0 q1 qf
    clear z0 z1 z2 z3 zf
    refine (implViolates_any p s r _ _ _ (by exact S7.out.rd 5 rfl) TOK.out (by exact S7.out.rd 3 rfl)).mono ?_
    rintro e w10 ⟨rfl, b⟩
    have S8 := Lib.hid (S7.out.go b)
    clear S7 b
    rw [NV2.out]
    go_wp2
    go_loopw [51] (fun i wr => ∃ k : Nat, k ≤ l.length ∧ i = .int .i64 k ∧ Sn w wr [boxI gr 46 [.int .i64 r.ki, .int .i64 r.a, .int .i64 r.b, .int .i64 r.c], ⟨trRus l, .slice U l.length cu, F4⟩, boxI gs 41 [.slice E1 s.st.length f1, .slice E2 s.mo.length f2], ⟨trSc s, .agg #[.slice E1 s.st.length f1, .slice E2 s.mo.length f2], F2⟩, boxI gp 34 [.int .i64 p.dl, .slice A1 p.acts.length c1, .slice A2 p.lks.length c2, .slice A3 p.ress.length c3, .slice A4 p.stk.length c4], ⟨trPj p, .agg #[.int .i64 p.dl, .slice A1 p.acts.length c1, .slice A2 p.lks.length c2, .slice A3 p.ress.length c3, .slice A4 p.stk.length c4], F1⟩]) (fun i _ => l.length - (intOf i).toNat)
    case atStart => exact ⟨0, Nat.zero_le _, rfl, S8.out⟩
    case round =>
      obtain ⟨k, hkl, rfl, hS⟩ := hrel
      have T1 := Lib.hid hS
      clear hS S8
      by_cases hlt : k < l.length
      · have hlt' : (k : Int) < (l.length : Int) := by omega
        obtain ⟨_, U', cu', he, gg⟩ := rdRuleS_t (T1.out.rd 1 rfl)
        injection he with he hln he2
        clear hln
        subst he he2
        obtain ⟨b8, o8, rfl, hb8, hc8⟩ := gg k hlt
        obtain ⟨y0, y1, y2, y3⟩ := hc8 k hlt
        have M := Lib.hid (MEM.out _ (List.getElem_mem hlt))
        generalize l[k] = x at y0 y1 y2 y3 M
        obtain ⟨e0, e1, e2, e3, e4, ef⟩ := (T1.out.bk 4 rfl).c5
        have hlp := (T1.out.bk 4 rfl).lt
        have hls := (T1.out.bk 2 rfl).lt
        have T2 := Lib.hid (T1.out.box 46 [.int .i64 x.ki, .int .i64 x.a, .int .i64 x.b, .int .i64 x.c])
        clear gg hc8
        go_wp2_with fail
        clear e0 e1 e2 e3 e4 ef
        clear y0 y1 y2 y3 hlp hls T1
        refine (implRuleOk_any p x _ _ (by exact T2.out.rd 6 rfl) TOK.out).mono ?_
        rintro e w8 ⟨rfl, b⟩
        have T3 := Lib.hid (T2.out.go b)
        clear T2 b
        rw [M.out.1]
        obtain ⟨e0, e1, e2, e3, e4, ef⟩ := (T3.out.bk 5 rfl).c5
        obtain ⟨q0, q1, qf⟩ := (T3.out.bk 3 rfl).c2
        obtain ⟨z0, z1, z2, z3, zf⟩ := (T3.out.bk 0 rfl).c4
        go_wp2_with fail
        clear e0 e1 e2 e3 e4 ef
        clear q0 q1 qf
        clear z0 z1 z2 z3 zf
        refine (implViolates_any p s x _ _ _ (by exact T3.out.rd 6 rfl) TOK.out (by exact T3.out.rd 4 rfl)).mono ?_
        rintro e w9 ⟨rfl, b⟩
        have T4 := Lib.hid (T3.out.go b)
        clear T3 b
        rw [M.out.2.1]
        obtain ⟨z0, z1, z2, z3, zf⟩ := (T4.out.bk 0 rfl).c4
        go_wp2_with fail
        clear z0 z1 z2 z3 zf
        refine (implRuleName_any x.ki _).mono ?_
        rintro e w10 ⟨rfl, b⟩
        have T5 := Lib.hid ((T4.out.go b).drop 0)
        clear T4 b
        have tn := M.out.2.2
        generalize ruNm x.ki = nm at tn ⊢
        go_wp2
        go_roundw
        case rel => exact ⟨k + 1, by omega, by go_num, T5.out⟩
        case measure => simp [intOf]; omega
      · have hge : ¬ (k : Int) < (l.length : Int) := by omega
        go_wp2
        go_loopw [9] (fun i wr => ∃ t : Nat, t ≤ 20 ∧ i = .int .i64 t ∧ Sn w wr [boxI gr 46 [.int .i64 r.ki, .int .i64 r.a, .int .i64 r.b, .int .i64 r.c], ⟨trRus l, .slice U l.length cu, F4⟩, boxI gs 41 [.slice E1 s.st.length f1, .slice E2 s.mo.length f2], ⟨trSc s, .agg #[.slice E1 s.st.length f1, .slice E2 s.mo.length f2], F2⟩, boxI gp 34 [.int .i64 p.dl, .slice A1 p.acts.length c1, .slice A2 p.lks.length c2, .slice A3 p.ress.length c3, .slice A4 p.stk.length c4], ⟨trPj p, .agg #[.int .i64 p.dl, .slice A1 p.acts.length c1, .slice A2 p.lks.length c2, .slice A3 p.ress.length c3, .slice A4 p.stk.length c4], F1⟩]) (fun i _ => 20 - (intOf i).toNat)
        case atStart => exact ⟨0, by omega, rfl, T1.out⟩
        case round =>
          obtain ⟨t, htl, rfl, hS⟩ := hrel
          have V1 := Lib.hid hS
          clear hS T1
          by_cases hlt : t < 20
          · have hlt' : (t : Int) < 20 := by omega
            have r3 := rdPj_res (V1.out.rd 5 rfl)
            obtain ⟨_, B3, d3, he, g3⟩ := rdResourceS_t r3
            injection he with he hln he2
            clear hln
            subst he he2
            obtain ⟨b3, o3, rfl, hb3, hc3⟩ := g3 0 (by omega)
            obtain ⟨U0, d0, U1, d1, y0, y1, ru, _⟩ := hc3 0 (by omega)
            have RU := Lib.hid (rdP_st (Tr.rd_below (Below.refl _ _).drew (Nat.le_refl _) _ _ ru))
            rw [Nat.zero_mul, Nat.add_zero] at y0
            have OT := Lib.hid (OV.out t (by omega))
            have hrp : (0 : Int) < (p.ress.length : Int) := by omega
            have hrn : 0 < p.ress.length := by omega
            have hrd : decide ((0 : Int) < (p.ress.length : Int)) = true := decide_eq_true hrp
            have hrd2 : decide (0 < p.ress.length) = true := decide_eq_true hrn
            generalize hst : p.ress[0].st = st at RU y0 OT
            obtain ⟨e0, e1, e2, e3, e4, ef⟩ := (V1.out.bk 4 rfl).c5
            obtain ⟨q0, q1, qf⟩ := (V1.out.bk 2 rfl).c2
            have hlp := (V1.out.bk 4 rfl).lt
            have hls := (V1.out.bk 2 rfl).lt
            have V2 := Lib.hid V1.out.drew1
            go_wp2_with fail
            have CE := Lib.hid (fun (W : World) (h : Wr [] wr.drew W) => show Hid (Wr [] wr.drew W) ∧ W.cell? ⟨gp, 0, none⟩ = some (.int .i64 p.dl) ∧ W.cell? ⟨gp, 1, none⟩ = some (.slice A1 p.acts.length c1) ∧ W.cell? ⟨gp, 2, none⟩ = some (.slice A2 p.lks.length c2) ∧ W.cell? ⟨gp, 3, none⟩ = some (.slice (some ⟨b3, o3, none⟩) p.ress.length c3) ∧ W.cell? ⟨gp, 4, none⟩ = some (.slice A4 p.stk.length c4) ∧ W.cell? ⟨gs, 0, none⟩ = some (.slice E1 s.st.length f1) ∧ W.cell? ⟨gs, 1, none⟩ = some (.slice E2 s.mo.length f2) ∧ W.cell? ⟨b3, o3, none⟩ = some (.slice U0 st.length d0) from ⟨Lib.hid h, (wr_cell h (p := ⟨gp, 0, none⟩) hlp (by simp)).trans (by exact by simpa using e0), (wr_cell h (p := ⟨gp, 1, none⟩) hlp (by simp)).trans (by exact by simpa using e1), (wr_cell h (p := ⟨gp, 2, none⟩) hlp (by simp)).trans (by exact by simpa using e2), (wr_cell h (p := ⟨gp, 3, none⟩) hlp (by simp)).trans (by exact by simpa using e3), (wr_cell h (p := ⟨gp, 4, none⟩) hlp (by simp)).trans (by exact by simpa using e4), (wr_cell h (p := ⟨gs, 0, none⟩) hls (by simp)).trans (by exact by simpa using q0), (wr_cell h (p := ⟨gs, 1, none⟩) hls (by simp)).trans (by exact by simpa using q1), (wr_cell h (p := ⟨b3, o3, none⟩) hb3 (by simp)).trans (by exact by simpa using y0)⟩)
            have INIT := Lib.hid (CE.out _ (Wr.refl _ _))
            have KW := Lib.hid (fun (W2 W : World) (hb : Wr [] W W2) (h : Hid (Wr [] wr.drew W) ∧ W.cell? ⟨gp, 0, none⟩ = some (.int .i64 p.dl) ∧ W.cell? ⟨gp, 1, none⟩ = some (.slice A1 p.acts.length c1) ∧ W.cell? ⟨gp, 2, none⟩ = some (.slice A2 p.lks.length c2) ∧ W.cell? ⟨gp, 3, none⟩ = some (.slice (some ⟨b3, o3, none⟩) p.ress.length c3) ∧ W.cell? ⟨gp, 4, none⟩ = some (.slice A4 p.stk.length c4) ∧ W.cell? ⟨gs, 0, none⟩ = some (.slice E1 s.st.length f1) ∧ W.cell? ⟨gs, 1, none⟩ = some (.slice E2 s.mo.length f2) ∧ W.cell? ⟨b3, o3, none⟩ = some (.slice U0 st.length d0)) => CE.out W2 (h.1.out.trans hb))
            clear e0 e1 e2 e3 e4 ef q0 q1 qf y0 y1 hst hc3 g3 r3 ru V1
            go_region_held3 (fun W => Hid (Wr [] wr.drew W) ∧ W.cell? ⟨gp, 0, none⟩ = some (.int .i64 p.dl) ∧ W.cell? ⟨gp, 1, none⟩ = some (.slice A1 p.acts.length c1) ∧ W.cell? ⟨gp, 2, none⟩ = some (.slice A2 p.lks.length c2) ∧ W.cell? ⟨gp, 3, none⟩ = some (.slice (some ⟨b3, o3, none⟩) p.ress.length c3) ∧ W.cell? ⟨gp, 4, none⟩ = some (.slice A4 p.stk.length c4) ∧ W.cell? ⟨gs, 0, none⟩ = some (.slice E1 s.st.length f1) ∧ W.cell? ⟨gs, 1, none⟩ = some (.slice E2 s.mo.length f2) ∧ W.cell? ⟨b3, o3, none⟩ = some (.slice U0 st.length d0)) (first | exact INIT.out | exact KW.out _ _ (by assumption) (by assumption) | exact KW.out _ _ (Wr.of_below (by assumption) (Nat.le_refl _)) (by assumption) | exact KW.out _ _ (Wr.of_below ((Below.refl _ _).alloc (Nat.le_refl _) _) (Nat.le_refl _)) (by assumption))
              ((first | (go_at_call 19; refine (implUsageAt_any p s 0 (t : Int) _ _ _ (by exact V2.out.rd 5 rfl) TOK.out (by exact V2.out.rd 3 rfl)).mono ?_; rintro e w8 ⟨rfl, bb⟩; have V3 := Lib.hid (V2.out.go bb); have RU3 := Lib.hid (RU.out.below bb (Nat.le_refl _))) | (go_at_call 20; refine (implCap_any st (t : Int) _ _ (by exact RU3.out)).mono ?_; rintro e w9 ⟨rfl, bb2⟩; have V4 := Lib.hid (V3.out.go bb2))))
            rename_i hHeld
            clear hHeld CE INIT KW V2 V3 bb bb2 RU3
            obtain ⟨e0, e1, e2, e3, e4, ef⟩ := (V4.out.bk 4 rfl).c5
            obtain ⟨q0, q1, qf⟩ := (V4.out.bk 2 rfl).c2
            generalize decide (useB p s 0 (t : Int) > capB st (t : Int)) = bb at OT ⊢
            go_wp2_with fail
            clear e0 e1 e2 e3 e4 ef
            clear q0 q1 qf
            refine (implViolates_any p s ⟨3, 0, (t : Int), 0⟩ _ _ _ (by exact V4.out.rd 5 rfl) TOK.out (by exact V4.out.rd 3 rfl)).mono ?_
            rintro e w10 ⟨rfl, b⟩
            have V5 := Lib.hid (V4.out.go b)
            clear V4 b
            rw [← OT.out]
            rcases bb with _ | _
            all_goals
              go_wp2
              go_roundw
              case rel => exact ⟨t + 1, by omega, by go_num, V5.out⟩
              case measure => simp [intOf]; omega
          · have hge : ¬ (t : Int) < 20 := by omega
            go_wp2
            go_ret
            exact ⟨rfl, V1.out.1⟩
  · have SD2 := Lib.hid (show schedB p s = false from SD.out.trans (decide_eq_false hz))
    have tz : ((l.length : Int) == 0) = false := by simpa using hz
    rw [SD2.out]
    obtain ⟨e0, e1, e2, e3, e4, ef⟩ := (S5.out.bk 4 rfl).c5
    obtain ⟨q0, q1, qf⟩ := (S5.out.bk 2 rfl).c2
    go_wp2_with fail
    clear e0 e1 e2 e3 e4 ef
    clear q0 q1 qf
    refine (implForm_any p s _ _ _ (by exact S5.out.rd 5 rfl) TOK.out (by exact S5.out.rd 3 rfl)).mono ?_
    rintro e w8 ⟨rfl, b⟩
    have S6 := Lib.hid (S5.out.go b)
    clear S5 b
    rw [FM.out]
    obtain ⟨e0, e1, e2, e3, e4, ef⟩ := (S6.out.bk 4 rfl).c5
    obtain ⟨q0, q1, qf⟩ := (S6.out.bk 2 rfl).c2
    go_wp2_with fail
    clear e0 e1 e2 e3 e4 ef
    clear q0 q1 qf
    refine (implSchedOk_any p s _ _ _ (by exact S6.out.rd 5 rfl) TOK.out (by exact S6.out.rd 3 rfl)).mono ?_
    rintro e w9 ⟨rfl, b⟩
    have S8 := Lib.hid (S6.out.go b)
    clear S6 b
    rw [SD2.out]
    go_wp2
    go_loopw [51] (fun i wr => ∃ k : Nat, k ≤ l.length ∧ i = .int .i64 k ∧ Sn w wr [boxI gr 46 [.int .i64 r.ki, .int .i64 r.a, .int .i64 r.b, .int .i64 r.c], ⟨trRus l, .slice U l.length cu, F4⟩, boxI gs 41 [.slice E1 s.st.length f1, .slice E2 s.mo.length f2], ⟨trSc s, .agg #[.slice E1 s.st.length f1, .slice E2 s.mo.length f2], F2⟩, boxI gp 34 [.int .i64 p.dl, .slice A1 p.acts.length c1, .slice A2 p.lks.length c2, .slice A3 p.ress.length c3, .slice A4 p.stk.length c4], ⟨trPj p, .agg #[.int .i64 p.dl, .slice A1 p.acts.length c1, .slice A2 p.lks.length c2, .slice A3 p.ress.length c3, .slice A4 p.stk.length c4], F1⟩]) (fun i _ => l.length - (intOf i).toNat)
    case atStart => exact ⟨0, Nat.zero_le _, rfl, S8.out⟩
    case round =>
      obtain ⟨k, hkl, rfl, hS⟩ := hrel
      have T1 := Lib.hid hS
      clear hS S8
      by_cases hlt : k < l.length
      · have hlt' : (k : Int) < (l.length : Int) := by omega
        obtain ⟨_, U', cu', he, gg⟩ := rdRuleS_t (T1.out.rd 1 rfl)
        injection he with he hln he2
        clear hln
        subst he he2
        obtain ⟨b8, o8, rfl, hb8, hc8⟩ := gg k hlt
        obtain ⟨y0, y1, y2, y3⟩ := hc8 k hlt
        have M := Lib.hid (MEM.out _ (List.getElem_mem hlt))
        generalize l[k] = x at y0 y1 y2 y3 M
        obtain ⟨e0, e1, e2, e3, e4, ef⟩ := (T1.out.bk 4 rfl).c5
        have hlp := (T1.out.bk 4 rfl).lt
        have hls := (T1.out.bk 2 rfl).lt
        have T2 := Lib.hid (T1.out.box 46 [.int .i64 x.ki, .int .i64 x.a, .int .i64 x.b, .int .i64 x.c])
        clear gg hc8
        go_wp2_with fail
        clear e0 e1 e2 e3 e4 ef
        clear y0 y1 y2 y3 hlp hls T1
        refine (implRuleOk_any p x _ _ (by exact T2.out.rd 6 rfl) TOK.out).mono ?_
        rintro e w8 ⟨rfl, b⟩
        have T3 := Lib.hid (T2.out.go b)
        clear T2 b
        rw [M.out.1]
        obtain ⟨e0, e1, e2, e3, e4, ef⟩ := (T3.out.bk 5 rfl).c5
        obtain ⟨q0, q1, qf⟩ := (T3.out.bk 3 rfl).c2
        obtain ⟨z0, z1, z2, z3, zf⟩ := (T3.out.bk 0 rfl).c4
        go_wp2_with fail
        clear e0 e1 e2 e3 e4 ef
        clear q0 q1 qf
        clear z0 z1 z2 z3 zf
        refine (implViolates_any p s x _ _ _ (by exact T3.out.rd 6 rfl) TOK.out (by exact T3.out.rd 4 rfl)).mono ?_
        rintro e w9 ⟨rfl, b⟩
        have T4 := Lib.hid (T3.out.go b)
        clear T3 b
        rw [M.out.2.1]
        obtain ⟨z0, z1, z2, z3, zf⟩ := (T4.out.bk 0 rfl).c4
        go_wp2_with fail
        clear z0 z1 z2 z3 zf
        refine (implRuleName_any x.ki _).mono ?_
        rintro e w10 ⟨rfl, b⟩
        have T5 := Lib.hid ((T4.out.go b).drop 0)
        clear T4 b
        have tn := M.out.2.2
        generalize ruNm x.ki = nm at tn ⊢
        go_wp2
        go_roundw
        case rel => exact ⟨k + 1, by omega, by go_num, T5.out⟩
        case measure => simp [intOf]; omega
      · have hge : ¬ (k : Int) < (l.length : Int) := by omega
        go_wp2
        go_loopw [9] (fun i wr => ∃ t : Nat, t ≤ 20 ∧ i = .int .i64 t ∧ Sn w wr [boxI gr 46 [.int .i64 r.ki, .int .i64 r.a, .int .i64 r.b, .int .i64 r.c], ⟨trRus l, .slice U l.length cu, F4⟩, boxI gs 41 [.slice E1 s.st.length f1, .slice E2 s.mo.length f2], ⟨trSc s, .agg #[.slice E1 s.st.length f1, .slice E2 s.mo.length f2], F2⟩, boxI gp 34 [.int .i64 p.dl, .slice A1 p.acts.length c1, .slice A2 p.lks.length c2, .slice A3 p.ress.length c3, .slice A4 p.stk.length c4], ⟨trPj p, .agg #[.int .i64 p.dl, .slice A1 p.acts.length c1, .slice A2 p.lks.length c2, .slice A3 p.ress.length c3, .slice A4 p.stk.length c4], F1⟩]) (fun i _ => 20 - (intOf i).toNat)
        case atStart => exact ⟨0, by omega, rfl, T1.out⟩
        case round =>
          obtain ⟨t, htl, rfl, hS⟩ := hrel
          have V1 := Lib.hid hS
          clear hS T1
          by_cases hlt : t < 20
          · have hlt' : (t : Int) < 20 := by omega
            have r3 := rdPj_res (V1.out.rd 5 rfl)
            obtain ⟨_, B3, d3, he, g3⟩ := rdResourceS_t r3
            injection he with he hln he2
            clear hln
            subst he he2
            obtain ⟨b3, o3, rfl, hb3, hc3⟩ := g3 0 (by omega)
            obtain ⟨U0, d0, U1, d1, y0, y1, ru, _⟩ := hc3 0 (by omega)
            have RU := Lib.hid (rdP_st (Tr.rd_below (Below.refl _ _).drew (Nat.le_refl _) _ _ ru))
            rw [Nat.zero_mul, Nat.add_zero] at y0
            have OT := Lib.hid (OV.out t (by omega))
            have hrp : (0 : Int) < (p.ress.length : Int) := by omega
            have hrn : 0 < p.ress.length := by omega
            have hrd : decide ((0 : Int) < (p.ress.length : Int)) = true := decide_eq_true hrp
            have hrd2 : decide (0 < p.ress.length) = true := decide_eq_true hrn
            generalize hst : p.ress[0].st = st at RU y0 OT
            obtain ⟨e0, e1, e2, e3, e4, ef⟩ := (V1.out.bk 4 rfl).c5
            obtain ⟨q0, q1, qf⟩ := (V1.out.bk 2 rfl).c2
            have hlp := (V1.out.bk 4 rfl).lt
            have hls := (V1.out.bk 2 rfl).lt
            have V2 := Lib.hid V1.out.drew1
            go_wp2_with fail
            have CE := Lib.hid (fun (W : World) (h : Wr [] wr.drew W) => show Hid (Wr [] wr.drew W) ∧ W.cell? ⟨gp, 0, none⟩ = some (.int .i64 p.dl) ∧ W.cell? ⟨gp, 1, none⟩ = some (.slice A1 p.acts.length c1) ∧ W.cell? ⟨gp, 2, none⟩ = some (.slice A2 p.lks.length c2) ∧ W.cell? ⟨gp, 3, none⟩ = some (.slice (some ⟨b3, o3, none⟩) p.ress.length c3) ∧ W.cell? ⟨gp, 4, none⟩ = some (.slice A4 p.stk.length c4) ∧ W.cell? ⟨gs, 0, none⟩ = some (.slice E1 s.st.length f1) ∧ W.cell? ⟨gs, 1, none⟩ = some (.slice E2 s.mo.length f2) ∧ W.cell? ⟨b3, o3, none⟩ = some (.slice U0 st.length d0) from ⟨Lib.hid h, (wr_cell h (p := ⟨gp, 0, none⟩) hlp (by simp)).trans (by exact by simpa using e0), (wr_cell h (p := ⟨gp, 1, none⟩) hlp (by simp)).trans (by exact by simpa using e1), (wr_cell h (p := ⟨gp, 2, none⟩) hlp (by simp)).trans (by exact by simpa using e2), (wr_cell h (p := ⟨gp, 3, none⟩) hlp (by simp)).trans (by exact by simpa using e3), (wr_cell h (p := ⟨gp, 4, none⟩) hlp (by simp)).trans (by exact by simpa using e4), (wr_cell h (p := ⟨gs, 0, none⟩) hls (by simp)).trans (by exact by simpa using q0), (wr_cell h (p := ⟨gs, 1, none⟩) hls (by simp)).trans (by exact by simpa using q1), (wr_cell h (p := ⟨b3, o3, none⟩) hb3 (by simp)).trans (by exact by simpa using y0)⟩)
            have INIT := Lib.hid (CE.out _ (Wr.refl _ _))
            have KW := Lib.hid (fun (W2 W : World) (hb : Wr [] W W2) (h : Hid (Wr [] wr.drew W) ∧ W.cell? ⟨gp, 0, none⟩ = some (.int .i64 p.dl) ∧ W.cell? ⟨gp, 1, none⟩ = some (.slice A1 p.acts.length c1) ∧ W.cell? ⟨gp, 2, none⟩ = some (.slice A2 p.lks.length c2) ∧ W.cell? ⟨gp, 3, none⟩ = some (.slice (some ⟨b3, o3, none⟩) p.ress.length c3) ∧ W.cell? ⟨gp, 4, none⟩ = some (.slice A4 p.stk.length c4) ∧ W.cell? ⟨gs, 0, none⟩ = some (.slice E1 s.st.length f1) ∧ W.cell? ⟨gs, 1, none⟩ = some (.slice E2 s.mo.length f2) ∧ W.cell? ⟨b3, o3, none⟩ = some (.slice U0 st.length d0)) => CE.out W2 (h.1.out.trans hb))
            clear e0 e1 e2 e3 e4 ef q0 q1 qf y0 y1 hst hc3 g3 r3 ru V1
            go_region_held3 (fun W => Hid (Wr [] wr.drew W) ∧ W.cell? ⟨gp, 0, none⟩ = some (.int .i64 p.dl) ∧ W.cell? ⟨gp, 1, none⟩ = some (.slice A1 p.acts.length c1) ∧ W.cell? ⟨gp, 2, none⟩ = some (.slice A2 p.lks.length c2) ∧ W.cell? ⟨gp, 3, none⟩ = some (.slice (some ⟨b3, o3, none⟩) p.ress.length c3) ∧ W.cell? ⟨gp, 4, none⟩ = some (.slice A4 p.stk.length c4) ∧ W.cell? ⟨gs, 0, none⟩ = some (.slice E1 s.st.length f1) ∧ W.cell? ⟨gs, 1, none⟩ = some (.slice E2 s.mo.length f2) ∧ W.cell? ⟨b3, o3, none⟩ = some (.slice U0 st.length d0)) (first | exact INIT.out | exact KW.out _ _ (by assumption) (by assumption) | exact KW.out _ _ (Wr.of_below (by assumption) (Nat.le_refl _)) (by assumption) | exact KW.out _ _ (Wr.of_below ((Below.refl _ _).alloc (Nat.le_refl _) _) (Nat.le_refl _)) (by assumption))
              ((first | (go_at_call 19; refine (implUsageAt_any p s 0 (t : Int) _ _ _ (by exact V2.out.rd 5 rfl) TOK.out (by exact V2.out.rd 3 rfl)).mono ?_; rintro e w8 ⟨rfl, bb⟩; have V3 := Lib.hid (V2.out.go bb); have RU3 := Lib.hid (RU.out.below bb (Nat.le_refl _))) | (go_at_call 20; refine (implCap_any st (t : Int) _ _ (by exact RU3.out)).mono ?_; rintro e w9 ⟨rfl, bb2⟩; have V4 := Lib.hid (V3.out.go bb2))))
            rename_i hHeld
            clear hHeld CE INIT KW V2 V3 bb bb2 RU3
            obtain ⟨e0, e1, e2, e3, e4, ef⟩ := (V4.out.bk 4 rfl).c5
            obtain ⟨q0, q1, qf⟩ := (V4.out.bk 2 rfl).c2
            generalize decide (useB p s 0 (t : Int) > capB st (t : Int)) = bb at OT ⊢
            go_wp2_with fail
            clear e0 e1 e2 e3 e4 ef
            clear q0 q1 qf
            refine (implViolates_any p s ⟨3, 0, (t : Int), 0⟩ _ _ _ (by exact V4.out.rd 5 rfl) TOK.out (by exact V4.out.rd 3 rfl)).mono ?_
            rintro e w10 ⟨rfl, b⟩
            have V5 := Lib.hid (V4.out.go b)
            clear V4 b
            rw [← OT.out]
            rcases bb with _ | _
            all_goals
              go_wp2
              go_roundw
              case rel => exact ⟨t + 1, by omega, by go_num, V5.out⟩
              case measure => simp [intOf]; omega
          · have hge : ¬ (t : Int) < 20 := by omega
            go_wp2
            go_ret
            exact ⟨rfl, V1.out.1⟩
end Go.Proofs.Ytaglfdkeomjpdab
