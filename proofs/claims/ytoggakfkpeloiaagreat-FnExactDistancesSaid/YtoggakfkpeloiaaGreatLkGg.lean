/- DERIVED. CONTRACTS: the gap of a link, of the model and of the program. -/
import Derived.Test.YtoggakfkpeloiaaGreatLkGi
import Derived.Deep.RegionHeld3
namespace Go.Proofs.YtoggakfkpeloiaaGreat
open Go.RowKit Go.Shelf
set_option linter.unusedVariables false

theorem wrg_cell {F : List Nat} {a b : World} (h : Wr F a b) {p : Addr} (hp : p.block < a.heap.size) (hn : p.block ∉ F) : b.cell? p = a.cell? p := World.cell?_of_block (w := a) (h.block p.block hp hn)
noncomputable def gV (p : Pj) (i : Nat) : Value := .int .i64 ((gapsL p).getD i 0)
theorem gV_all (p : Pj) : (List.range p.lks.length).map (gV p) = (gapsL p).map (.int .i64) := by
  refine List.ext_getElem (by simp [gapsL]) fun i h1 h2 => ?_
  have h3 : i < (gapsL p).length := by simpa using h2
  simp only [List.getElem_map, List.getElem_range, gV]
  rw [List.getD_eq_getElem?_getD, List.getElem?_eq_getElem h3]; rfl
theorem gV_at {p : Pj} {k n : Nat} {mt ml : Int} {me : Bool} (h : k < p.lks.length) (hm : p.lks[k] = ⟨(n : Int), mt, me, ml⟩) (hn : n < p.acts.length) : gapB p ⟨(n : Int), mt, me, ml⟩ (rangeB (p.acts[n].ms.length : Int)) = (gapsL p).getD k 0 := by
  rw [List.getD_eq_getElem?_getD, List.getElem?_eq_getElem (by rw [gapsL_len]; exact h), gapsL_at h, gapA, hm]
  show _ = gapB p _ (rangeB ((msAt p (n : Int)).length : Int))
  rw [msAt_yes hn]


set_option maxRecDepth 100000 in
set_option maxHeartbeats 8000000 in
theorem implGaps_any (p : Pj) (v : Value) (w : World) (hv : (trPj p).rd w v) (hok : pokB p = true) :
    Calls Tryz.prog 79 #[v] w fun e w' => ∃ u F, e = .returned u ∧ (trI (gapsL p)).own w' w.heap.size u F ∧ F.Nodup ∧ Below w.heap.size w w' := by
  have HV := Lib.hid hv
  obtain ⟨A1, c1, A2, c2, A3, c3, A4, c4, rfl, r1, r2, r3, r4⟩ := rdProject_t hv
  obtain ⟨hl2, B2, d2, he, g2⟩ := rdLinkS_t r2
  injection he with he _ he2
  subst he he2
  have G2 := Lib.hid g2
  obtain ⟨hl1, B1, d1, he, g1⟩ := rdActivityS_t r1
  injection he with he _ he2
  subst he he2
  have G1 := Lib.hid g1
  clear hv r1 r2 r3 r4 g1 g2
  have h12 := (pok_lks hok).1
  have HOK := Lib.hid hok
  clear hok
  obtain ⟨i0, hi, hz0, hz1, hz2⟩ := info_parts infoInt
  have S0 := Lib.hid ((Sn.start w).box 35 [.int .i64 p.dl, .slice A1 p.acts.length c1, .slice A2 p.lks.length c2, .slice A3 p.ress.length c3, .slice A4 p.stk.length c4])
  go_enter Tryz.func79, Tryz.ntmps79
  obtain ⟨e0, e1, e2, e3, e4, ef⟩ := (S0.out.bk 0 rfl).c5
  go_wp2_with (at_make; refine wpList_make_full _ rfl _ _ 25 rfl (World.alloc w (.cells #[.int .i64 p.dl, .slice A1 p.acts.length c1, .slice A2 p.lks.length c2, .slice A3 p.ress.length c3, .slice A4 p.stk.length c4] 35)).heap.size 3 i0 (.int .i64 0) 1 Tryz.underlying25 hi hz0 hz1 .i64 .i64 _ _ p.lks.length rfl rfl rfl rfl (by rw [hz2]; omega) (by unfold maxLen; omega) (Nat.le_refl _) ?_; intro w1 hown1 hgrow1; clear e0 e1 e2 e3 e4 ef; have hml := own_len hown1; have S1 := Lib.hid (S0.out.newI hown1 ((Below.refl _ _).grown hgrow1 (Nat.le_refl _) (by simp))); obtain ⟨e0, e1, e2, e3, e4, ef⟩ := (S1.out.bk 1 rfl).c5; clear hown1 hgrow1)
  generalize hms : (madeCells (Value.int .i64 0).cells (p.lks.length * 1)).toList = ms at S1 hml
  have HM := Lib.hid hml
  clear hml hms S0 e0 e1 e2 e3 e4 ef
  simp only [World.size_alloc] at S1
  go_loopw [13] (fun i wr => ∃ k : Nat, k ≤ p.lks.length ∧ i = .int .i64 k ∧ Sn w wr [⟨flat 3 (mix (gV p) ms k), .slice (some ⟨w.heap.size + 1, 0, none⟩) p.lks.length p.lks.length, [w.heap.size + 1]⟩, boxI w.heap.size 35 [.int .i64 p.dl, .slice A1 p.acts.length c1, .slice A2 p.lks.length c2, .slice A3 p.ress.length c3, .slice A4 p.stk.length c4]]) (fun i _ => p.lks.length - (intOf i).toNat)
  case atStart => exact ⟨0, Nat.zero_le _, rfl, by rw [mix_zero]; exact S1.out⟩
  case round =>
    obtain ⟨k, hkl, rfl, hS⟩ := hrel
    have S2 := Lib.hid hS
    clear hS S1
    by_cases hlt : k < p.lks.length
    · have hlt' : (k : Int) < (p.lks.length : Int) := by omega
      have hml := HM.out
      have LOK := (pok_lks HOK.out).2 _ (List.getElem_mem hlt)
      obtain ⟨b, o, rfl, hb, hc⟩ := G2.out k hlt
      obtain ⟨y0, y1, y2, y3⟩ := hc k hlt
      have hx0 := (S2.out.1.cell (p := ⟨b, o + k * 4, none⟩) hb).trans y0
      have hx1 := (S2.out.1.cell (p := ⟨b, o + k * 4 + 1, none⟩) hb).trans y1
      have hx2 := (S2.out.1.cell (p := ⟨b, o + k * 4 + 2, none⟩) hb).trans y2
      have hx3 := (S2.out.1.cell (p := ⟨b, o + k * 4 + 3, none⟩) hb).trans y3
      clear hc y0 y1 y2 y3
      have GK := Lib.hid (fun n mt me ml => gV_at (p := p) (k := k) (n := n) (mt := mt) (me := me) (ml := ml) hlt)
      generalize hm : p.lks[k] = m at hx0 hx1 hx2 hx3 LOK GK
      obtain ⟨mf, mt, me, ml⟩ := m
      obtain ⟨⟨hf0, hf1⟩, _⟩ := LOK
      dsimp only at hx0 hx1 hx2 hx3 hf0 hf1
      obtain ⟨n, rfl⟩ : ∃ n : Nat, mf = (n : Int) := ⟨mf.toNat, by omega⟩
      have hn2 : n < p.acts.length := by omega
      have GE := Lib.hid (GK.out n mt me ml rfl hn2)
      clear GK hm hf0
      obtain ⟨b1, o1, rfl, hb1, hc1⟩ := G1.out n hn2
      obtain ⟨M, cm, x0, x1, x2, rm⟩ := hc1 n hn2
      have RA := Lib.hid (mk_rdActivity_t (d := p.acts[n]) rm)
      clear hc1 rm
      have hml2 : (mix (gV p) ms k).length = p.lks.length := by rw [mix_len _ _ (by omega), hml]
      have HML := Lib.hid hml2
      have HML0 := Lib.hid hml
      clear hml hml2
      have S3 := Lib.hid (S2.out.box 92 [.int .i64 (n : Int), .int .i64 mt, .bool me, .int .i64 ml])
      clear S2
      go_wp2_with fail
      clear hx0 hx1 hx2 hx3
      generalize wr.heap.size = gl at S3 ⊢
      generalize World.alloc wr _ = wv at S3 ⊢
      obtain ⟨q0, q1, q2, q3, qf⟩ := (S3.out.bk 0 rfl).c4
      obtain ⟨e0, e1, e2, e3, e4, ef⟩ := (S3.out.bk 2 rfl).c5
      have z0 := (S3.out.1.cell (p := ⟨b1, o1 + n * 3, none⟩) hb1).trans x0
      have z1 := (S3.out.1.cell (p := ⟨b1, o1 + n * 3 + 1, none⟩) hb1).trans x1
      have z2 := (S3.out.1.cell (p := ⟨b1, o1 + n * 3 + 2, none⟩) hb1).trans x2
      have S4 := Lib.hid S3.out.drew1
      have hpl : w.heap.size < wv.drew.heap.size := (S4.out.bk 2 rfl).lt
      have hll : gl < wv.drew.heap.size := (S4.out.bk 0 rfl).lt
      have hbl : b1 < wv.drew.heap.size := by omega
      have hpn : w.heap.size ∉ [w.heap.size + 1] := by simp
      have hbn : b1 ∉ [w.heap.size + 1] := by simp; omega
      have hln : gl ∉ [w.heap.size + 1] := S4.out.2.apart (i := 0) (j := 1) rfl rfl (by omega) gl (by simp [boxI])
      have hn2' : (n : Int) < (p.acts.length : Int) := by omega
      have hn20 : (0 : Int) ≤ (n : Int) := by omega
      have CE := Lib.hid (fun (W : World) (h : Wr [w.heap.size + 1] wv.drew W) => show Hid (Wr [w.heap.size + 1] wv.drew W) ∧ W.cell? ⟨w.heap.size, 0, none⟩ = some (.int .i64 p.dl) ∧ W.cell? ⟨w.heap.size, 1, none⟩ = some (.slice (some ⟨b1, o1, none⟩) p.acts.length c1) ∧ W.cell? ⟨w.heap.size, 2, none⟩ = some (.slice (some ⟨b, o, none⟩) p.lks.length c2) ∧ W.cell? ⟨w.heap.size, 3, none⟩ = some (.slice A3 p.ress.length c3) ∧ W.cell? ⟨w.heap.size, 4, none⟩ = some (.slice A4 p.stk.length c4) ∧ W.cell? ⟨gl, 0, none⟩ = some (.int .i64 (n : Int)) ∧ W.cell? ⟨gl, 1, none⟩ = some (.int .i64 mt) ∧ W.cell? ⟨gl, 2, none⟩ = some (.bool me) ∧ W.cell? ⟨gl, 3, none⟩ = some (.int .i64 ml) ∧ W.cell? ⟨b1, o1 + n * 3, none⟩ = some (.string p.acts[n].nm) ∧ W.cell? ⟨b1, o1 + n * 3 + 1, none⟩ = some (.int .i64 p.acts[n].fa) ∧ W.cell? ⟨b1, o1 + n * 3 + 2, none⟩ = some (.slice M p.acts[n].ms.length cm) from ⟨Lib.hid h, (wrg_cell h (p := ⟨w.heap.size, 0, none⟩) hpl hpn).trans (by simpa using e0), (wrg_cell h (p := ⟨w.heap.size, 1, none⟩) hpl hpn).trans (by simpa using e1), (wrg_cell h (p := ⟨w.heap.size, 2, none⟩) hpl hpn).trans (by simpa using e2), (wrg_cell h (p := ⟨w.heap.size, 3, none⟩) hpl hpn).trans (by simpa using e3), (wrg_cell h (p := ⟨w.heap.size, 4, none⟩) hpl hpn).trans (by simpa using e4), (wrg_cell h (p := ⟨gl, 0, none⟩) hll hln).trans (by simpa using q0), (wrg_cell h (p := ⟨gl, 1, none⟩) hll hln).trans (by simpa using q1), (wrg_cell h (p := ⟨gl, 2, none⟩) hll hln).trans (by simpa using q2), (wrg_cell h (p := ⟨gl, 3, none⟩) hll hln).trans (by simpa using q3), (wrg_cell h (p := ⟨b1, o1 + n * 3, none⟩) hbl hbn).trans (by simpa using z0), (wrg_cell h (p := ⟨b1, o1 + n * 3 + 1, none⟩) hbl hbn).trans (by simpa using z1), (wrg_cell h (p := ⟨b1, o1 + n * 3 + 2, none⟩) hbl hbn).trans (by simpa using z2)⟩)
      have INIT := Lib.hid (CE.out _ (Wr.refl _ _))
      have KB := Lib.hid (fun (W2 W : World) (hb : Below W.heap.size W W2) (h : Hid (Wr [w.heap.size + 1] wv.drew W) ∧ W.cell? ⟨w.heap.size, 0, none⟩ = some (.int .i64 p.dl) ∧ W.cell? ⟨w.heap.size, 1, none⟩ = some (.slice (some ⟨b1, o1, none⟩) p.acts.length c1) ∧ W.cell? ⟨w.heap.size, 2, none⟩ = some (.slice (some ⟨b, o, none⟩) p.lks.length c2) ∧ W.cell? ⟨w.heap.size, 3, none⟩ = some (.slice A3 p.ress.length c3) ∧ W.cell? ⟨w.heap.size, 4, none⟩ = some (.slice A4 p.stk.length c4) ∧ W.cell? ⟨gl, 0, none⟩ = some (.int .i64 (n : Int)) ∧ W.cell? ⟨gl, 1, none⟩ = some (.int .i64 mt) ∧ W.cell? ⟨gl, 2, none⟩ = some (.bool me) ∧ W.cell? ⟨gl, 3, none⟩ = some (.int .i64 ml) ∧ W.cell? ⟨b1, o1 + n * 3, none⟩ = some (.string p.acts[n].nm) ∧ W.cell? ⟨b1, o1 + n * 3 + 1, none⟩ = some (.int .i64 p.acts[n].fa) ∧ W.cell? ⟨b1, o1 + n * 3 + 2, none⟩ = some (.slice M p.acts[n].ms.length cm)) => CE.out W2 (h.1.out.trans (Wr.of_below hb (Nat.le_refl _))))
      have KS := Lib.hid (fun (x : Value) (W : World) (h : Hid (Wr [w.heap.size + 1] wv.drew W) ∧ W.cell? ⟨w.heap.size, 0, none⟩ = some (.int .i64 p.dl) ∧ W.cell? ⟨w.heap.size, 1, none⟩ = some (.slice (some ⟨b1, o1, none⟩) p.acts.length c1) ∧ W.cell? ⟨w.heap.size, 2, none⟩ = some (.slice (some ⟨b, o, none⟩) p.lks.length c2) ∧ W.cell? ⟨w.heap.size, 3, none⟩ = some (.slice A3 p.ress.length c3) ∧ W.cell? ⟨w.heap.size, 4, none⟩ = some (.slice A4 p.stk.length c4) ∧ W.cell? ⟨gl, 0, none⟩ = some (.int .i64 (n : Int)) ∧ W.cell? ⟨gl, 1, none⟩ = some (.int .i64 mt) ∧ W.cell? ⟨gl, 2, none⟩ = some (.bool me) ∧ W.cell? ⟨gl, 3, none⟩ = some (.int .i64 ml) ∧ W.cell? ⟨b1, o1 + n * 3, none⟩ = some (.string p.acts[n].nm) ∧ W.cell? ⟨b1, o1 + n * 3 + 1, none⟩ = some (.int .i64 p.acts[n].fa) ∧ W.cell? ⟨b1, o1 + n * 3 + 2, none⟩ = some (.slice M p.acts[n].ms.length cm)) => CE.out (W.setCell ⟨w.heap.size + 1, k, none⟩ x) (h.1.out.trans (Wr.setCell W ⟨w.heap.size + 1, k, none⟩ (by simp) x)))
      clear S3 x0 x1 x2 CE q0 q1 q2 q3 qf e0 e1 e2 e3 e4 ef z0 z1 z2 hpl hll hbl hpn hbn hln
      go_region_held3 (fun W => Hid (Wr [w.heap.size + 1] wv.drew W) ∧ W.cell? ⟨w.heap.size, 0, none⟩ = some (.int .i64 p.dl) ∧ W.cell? ⟨w.heap.size, 1, none⟩ = some (.slice (some ⟨b1, o1, none⟩) p.acts.length c1) ∧ W.cell? ⟨w.heap.size, 2, none⟩ = some (.slice (some ⟨b, o, none⟩) p.lks.length c2) ∧ W.cell? ⟨w.heap.size, 3, none⟩ = some (.slice A3 p.ress.length c3) ∧ W.cell? ⟨w.heap.size, 4, none⟩ = some (.slice A4 p.stk.length c4) ∧ W.cell? ⟨gl, 0, none⟩ = some (.int .i64 (n : Int)) ∧ W.cell? ⟨gl, 1, none⟩ = some (.int .i64 mt) ∧ W.cell? ⟨gl, 2, none⟩ = some (.bool me) ∧ W.cell? ⟨gl, 3, none⟩ = some (.int .i64 ml) ∧ W.cell? ⟨b1, o1 + n * 3, none⟩ = some (.string p.acts[n].nm) ∧ W.cell? ⟨b1, o1 + n * 3 + 1, none⟩ = some (.int .i64 p.acts[n].fa) ∧ W.cell? ⟨b1, o1 + n * 3 + 2, none⟩ = some (.slice M p.acts[n].ms.length cm)) (first | exact INIT.out | exact KB.out _ _ (by assumption) (by assumption) | exact KS.out _ _ (by assumption))
        (first
        | (go_at_call 78; refine (implModeIndexes_any p.acts[n] _ _ (by exact S4.out.old RA.out)).mono ?_; rintro e w5 ⟨v5, rfl, o5, b5⟩; have S5 := Lib.hid (S4.out.new (flat_own (by simpa using o5)).1 (flat_own (by simpa using o5)).2 b5); clear o5)
        | (go_at_call 116; refine (implGap_any p ⟨(n : Int), mt, me, ml⟩ (rangeB (p.acts[n].ms.length : Int)) _ _ _ (by exact S5.out.old HV.out) (by exact rd_flat (S5.out.rd 0 rfl)) ⟨by show (0 : Int) ≤ (n : Int); omega, hf1⟩).mono ?_; rintro e w6 ⟨rfl, b6⟩; rw [GE.out]; have S6 := Lib.hid (S5.out.go b6); have OW := S6.out.ownI 2 rfl; rw [HML.out] at OW; have hcl := OW.cellAt k (by omega); rw [List.getElem?_eq_getElem (by rw [HML.out]; exact hlt)] at hcl; have hfz := OW.frozenAt k; have OW6 := Lib.hid OW; generalize (mix (gV p) ms k)[k]'_ = z at hcl; clear OW))
      obtain ⟨hs1, hs2⟩ := OW6.out.stored k (gV p k)
      rw [mix_set _ _ (by have := HML0.out; omega)] at hs1
      have S7 := Lib.hid (((S6.out.markI 2 rfl hs1 hs2).drop 0).drop 0)
      clear hs1 hs2 S6 S5 S4 OW6 INIT KB KS
      change Hid (Sn w (World.setCell w6 _ (.int .i64 ((gapsL p).getD k 0))) _) at S7
      go_wp2
      go_roundw
      case rel => exact ⟨k + 1, by omega, by go_num, S7.out⟩
      case measure => simp [intOf]; omega
    · have hge : ¬ (k : Int) < (p.lks.length : Int) := by omega
      obtain rfl : k = p.lks.length := by omega
      rw [mix_full _ _ HM.out, gV_all] at S2
      go_wp2
      go_ret
      first
        | exact ⟨_, rfl, _, (S2.out.own 0 rfl).1, (S2.out.own 0 rfl).2, S2.out.1⟩
        | exact ⟨_, _, rfl, (S2.out.own 0 rfl).1, (S2.out.own 0 rfl).2, S2.out.1⟩
        | exact ⟨_, (S2.out.own 0 rfl).1, (S2.out.own 0 rfl).2, S2.out.1⟩

end Go.Proofs.YtoggakfkpeloiaaGreat
