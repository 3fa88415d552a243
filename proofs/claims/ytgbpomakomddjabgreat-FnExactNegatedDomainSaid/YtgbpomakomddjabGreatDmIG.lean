/- DERIVED. CONTRACTS of chapter 13: InitialDomain of the program. -/
import Derived.Test.YtgbpomakomddjabGreatDmG
import Derived.Test.YtgbpomakomddjabGreatPrG3
import Derived.Test.YtgbpomakomddjabGreatActF
import Derived.Test.YtgbpomakomddjabGreatRegZ
import Derived.Test.YtgbpomakomddjabGreatTPj
import Derived.Deep.AppendLies

section
namespace Go.Proofs.YtgbpomakomddjabGreat
open Go.RowKit Go.Shelf
set_option linter.unusedVariables false

theorem pok_dl {p : Pj} (h : pokB p = true) : inB p.dl 1 60 = true := by
  simp only [pokB, Bool.and_eq_true] at h
  exact h.1
set_option maxRecDepth 100000 in
set_option maxHeartbeats 8000000 in
theorem specL12Of_any (p : Pj) (v : Value) (w : World) (hv : (trPj p).rd w v) (hk : (trPj p).ok) (hok : pokB p = true) :
    Calls Tryz.prog 43 #[v] w fun e w' => ∃ u F, e = .returned u ∧ (trDm (init1 p)).own w' w.heap.size u F ∧ F.Nodup ∧ Below w.heap.size w w' := by
  have HV := Lib.hid hv
  obtain ⟨A1, c1, A2, c2, A3, c3, A4, c4, rfl, r1, _⟩ := rdProject_t hv
  obtain ⟨hl1, B1, d1, he, g1⟩ := rdActivityS_t r1
  injection he with he _ he2
  subst he he2
  have G1 := Lib.hid g1
  have HK := Lib.hid hk
  clear hv hk r1 g1
  obtain ⟨i0, hi0, hz0, hz1, hz2⟩ := info_parts infoInt
  obtain ⟨ii, hj0, hjz, hjs, hjb⟩ := info_parts infoInt_t
  have S0 := Lib.hid (((Sn.start w).box 36 [.int .i64 p.dl, .slice A1 p.acts.length c1, .slice A2 p.lks.length c2, .slice A3 p.ress.length c3, .slice A4 p.stk.length c4]).box 45 [.slice none 0 0, .slice none 0 0, .slice none 0 0])
  simp only [World.size_alloc] at S0
  go_enter Tryz.func43, Tryz.ntmps43
  have hdl := inB_iff.1 (pok_dl hok)
  have h6 := (pok_acts hok).1
  have HMS := Lib.hid (pok_acts hok).2
  clear hok
  have SB := Lib.hid (((S0.out.box 45 [.slice none 0 0, .slice none 0 0, .slice none 0 0]).nilI.nilI).nilR 25 1 cellsI1)
  simp only [World.size_alloc] at SB
  obtain ⟨e0, e1, e2, e3, e4, ef⟩ := (SB.out.bk 5 rfl).c5
  go_wp2_with fail
  clear e0 e1 e2 e3 e4 ef
  generalize hgb : w.heap.size + 1 + 1 = gb at SB ⊢
  have hwd : IntKind.i64.wrap (p.dl - 1) = p.dl - 1 := by rw [IntKind.wrap_i64]; omega
  go_loopw [10] (fun i wr => ∃ (k : Nat) (U1 U2 U3 : Option Addr) (u1 u2 u3 : Nat) (F1 F2 F3 : List Nat), k ≤ p.acts.length ∧ i = .int .i64 k ∧ Sn w wr [⟨trSu ((p.acts.take k).map fun a => rangeB (a.ms.length : Int)), .slice U3 k u3, F3⟩, ⟨trI (List.replicate k (p.dl - 1)), .slice U2 k u2, F2⟩, ⟨trI (List.replicate k 0), .slice U1 k u1, F1⟩, boxI gb 45 [.slice U1 k u1, .slice U2 k u2, .slice U3 k u3], boxI (w.heap.size + 1) 45 [.slice none 0 0, .slice none 0 0, .slice none 0 0], boxI w.heap.size 36 [.int .i64 p.dl, .slice A1 p.acts.length c1, .slice A2 p.lks.length c2, .slice A3 p.ress.length c3, .slice A4 p.stk.length c4]]) (fun i _ => p.acts.length - (intOf i).toNat)
  case atStart => exact ⟨0, none, none, none, 0, 0, 0, _, _, _, Nat.zero_le _, rfl, SB.out⟩
  case round =>
    obtain ⟨k, U1, U2, U3, u1, u2, u3, F1, F2, F3, hkl, rfl, hS⟩ := hrel
    have S3 := Lib.hid hS
    clear hS SB
    by_cases hlt : k < p.acts.length
    · have hlt' : (k : Int) < (p.acts.length : Int) := by omega
      have k0 : (0 : Int) ≤ (k : Int) := by omega
      obtain ⟨b4, o4, rfl, hb4, hc4⟩ := G1.out k hlt
      obtain ⟨M, cm, x0, x1, x2, rm⟩ := hc4 k hlt
      have z0 := (S3.out.1.cell (p := ⟨b4, o4 + k * 3, none⟩) hb4).trans x0
      have z1 := (S3.out.1.cell (p := ⟨b4, o4 + k * 3 + 1, none⟩) hb4).trans x1
      have z2 := (S3.out.1.cell (p := ⟨b4, o4 + k * 3 + 2, none⟩) hb4).trans x2
      have NX := Lib.hid (take_map_snoc (f := fun a => rangeB (a.ms.length : Int)) hlt)
      have HLN := Lib.hid (show ((p.acts.take k).map fun a => rangeB (a.ms.length : Int)).length = k from by rw [List.length_map, List.length_take]; omega)
      have RA := Lib.hid (mk_rdActivity_t (w := w) (d := p.acts[k]) rm)
      have S4 := Lib.hid (S3.out.box 95 [.string p.acts[k].nm, .int .i64 p.acts[k].fa, .slice M p.acts[k].ms.length cm])
      clear hc4 x0 x1 x2 rm S3
      generalize p.acts[k] = act at z0 z1 z2 S4 RA NX
      obtain ⟨y0, y1, y2, yf⟩ := (S4.out.bk 4 rfl).c3
      obtain ⟨e0, e1, e2, e3, e4, ef⟩ := (S4.out.bk 6 rfl).c5
      have OW := Lib.hid (show _ from (S4.out.pick 3 rfl).ownRI)
      rw [List.length_replicate] at OW
      have hzs := S4.out.1.size
      go_wp2_with (first | (at_builtin; refine wpList_append_own_at _ rfl (.tmp 15) (.tmp 16) 25 rfl w.heap.size 3 i0 (.int .i64 0) 1 8 Tryz.underlying25 hi0 hz0 hz1 hz2 rfl (by decide) (.slice U1 k u1) k ((List.replicate k 0).map (.int .i64)) rfl (by exact OW.out.alloc _) ⟨_, 0, none⟩ 1 1 [.int .i64 0] rfl rfl ?c1 ?c2 ?c3 ?c4 ?c5 ?_))
      try case c1 => (intro j u hj; have h9 := one_cell (World.alloc wr (.cells #[.string act.nm, .int .i64 act.fa, .slice M act.ms.length cm] 95)) (.int .i64 0) 3 j u hj; simpa only [World.size_alloc] using h9)
      try case c2 => simp [Value.oneCell']
      try case c3 => unfold maxLen; omega
      try case c4 => omega
      try case c5 => first | omega | (simp at hzs ⊢; omega)
      intro v1 w5 hown5 hg5 _ hat5
      obtain ⟨F1', h5⟩ := (S4.out.pick 3 rfl).appI2 (r := 0) (n := k + 1) (by first | exact hown5 | (rw [List.map_replicate]; exact hown5)) hg5 (by simpa using hat5)
      rw [rep_snoc] at h5
      simp only [List.eraseIdx_cons_succ, List.eraseIdx_cons_zero] at h5
      obtain ⟨U1', u1', rfl⟩ : ∃ A c, v1 = .slice A (k + 1) c := by have := slice_ints (h5.rd 0 rfl); rwa [List.length_replicate] at this
      have S5 := Lib.hid h5
      clear hown5 hg5 hat5 h5 OW S4 z0 z1 z2 y0 y1 y2 yf e0 e1 e2 e3 e4 ef
      have S6 := Lib.hid (S5.out.boxSet 4 rfl 0 (.slice U1' (k + 1) u1'))
      simp only [List.set_cons_zero, List.set_cons_succ] at S6
      obtain ⟨y0, y1, y2, yf⟩ := (S5.out.bk 4 rfl).c3
      obtain ⟨e0, e1, e2, e3, e4, ef⟩ := (S5.out.bk 6 rfl).c5
      have hgne : gb ≠ w.heap.size := fun e => S5.out.2.apart (i := 4) (j := 6) rfl rfl (by omega) gb (by simp [boxI]) (by simp [boxI, e])
      have OW := Lib.hid (show _ from (S6.out.pick 3 rfl).ownRI)
      rw [List.length_replicate] at OW
      have hzs := S6.out.1.size
      clear S5
      go_wp2_with (first | (at_builtin; refine wpList_append_own_at _ rfl (.tmp 20) (.tmp 24) 25 rfl w.heap.size 3 i0 (.int .i64 0) 1 8 Tryz.underlying25 hi0 hz0 hz1 hz2 rfl (by decide) (.slice U2 k u2) k ((List.replicate k (p.dl - 1)).map (.int .i64)) rfl (by exact OW.out.alloc _) ⟨_, 0, none⟩ 1 1 [.int .i64 (p.dl - 1)] rfl rfl ?c1 ?c2 ?c3 ?c4 ?c5 ?_))
      try case c1 => (intro j u hj; have h9 := one_cell (w5.setCell ⟨gb, 0, none⟩ (.slice U1' (k + 1) u1')) (.int .i64 (p.dl - 1)) 3 j u hj; rw [World.size_setCell] at h9; exact h9)
      try case c2 => simp [Value.oneCell']
      try case c3 => unfold maxLen; omega
      try case c4 => omega
      try case c5 => first | omega | (simp at hzs ⊢; omega)
      intro v2 w6 hown6 hg6 _ hat6
      obtain ⟨F2', h6⟩ := (S6.out.pick 3 rfl).appI2 (r := p.dl - 1) (n := k + 1) (by first | exact hown6 | (rw [List.map_replicate]; exact hown6)) hg6 (by simpa using hat6)
      rw [rep_snoc] at h6
      simp only [List.eraseIdx_cons_succ, List.eraseIdx_cons_zero] at h6
      obtain ⟨U2', u2', rfl⟩ : ∃ A c, v2 = .slice A (k + 1) c := by have := slice_ints (h6.rd 0 rfl); rwa [List.length_replicate] at this
      have S7 := Lib.hid h6
      clear hown6 hg6 hat6 h6 OW S6 y0 y1 y2 yf e0 e1 e2 e3 e4 ef
      obtain ⟨y0, y1, y2, yf⟩ := (S7.out.bk 4 rfl).c3
      have S8 := Lib.hid (S7.out.boxSet 4 rfl 1 (.slice U2' (k + 1) u2'))
      simp only [List.set_cons_zero, List.set_cons_succ] at S8
      clear S7
      go_wp2_with fail
      clear y0 y1 y2 yf
      generalize hga : wr.heap.size = ga at S8 ⊢
      generalize hwq : World.setCell w6 _ _ = wq at S8 ⊢
      clear hga hwq
      obtain ⟨y0, y1, y2, yf⟩ := (S8.out.bk 4 rfl).c3
      obtain ⟨a0, a1, a2, af⟩ := (S8.out.bk 2 rfl).c3
      have hly := (S8.out.bk 4 rfl).lt
      have hla := (S8.out.bk 2 rfl).lt
      obtain ⟨_, _, _, _, hF0⟩ := rowsD_raw (S8.out.own 3 rfl).1
      have hng : gb ∉ (Value.slice U3 k u3).ownBlock.toList := fun h => S8.out.2.apart (i := 3) (j := 4) rfl rfl (by omega) gb (by rw [hF0]; exact List.mem_append.2 (.inl h)) (by simp [boxI])
      have hna : ga ∉ (Value.slice U3 k u3).ownBlock.toList := fun h => S8.out.2.apart (i := 2) (j := 3) rfl rfl (by omega) ga (by simp [boxI]) (by rw [hF0]; exact List.mem_append.2 (.inl h))
      have S9 := Lib.hid S8.out.drew1
      clear S8 hF0
      have CE := Lib.hid (fun (W : World) (h : Wr (Value.slice U3 k u3).ownBlock.toList wq.drew W) => show Hid (Wr (Value.slice U3 k u3).ownBlock.toList wq.drew W) ∧ W.cell? ⟨gb, 2, none⟩ = some (.slice U3 k u3) ∧ W.cell? ⟨ga, 0, none⟩ = some (.string act.nm) ∧ W.cell? ⟨ga, 1, none⟩ = some (.int .i64 act.fa) ∧ W.cell? ⟨ga, 2, none⟩ = some (.slice M act.ms.length cm) from ⟨Lib.hid h, (wr_cell h (p := ⟨gb, 2, none⟩) hly hng).trans (by exact by simpa using y2), (wr_cell h (p := ⟨ga, 0, none⟩) hla hna).trans (by exact by simpa using a0), (wr_cell h (p := ⟨ga, 1, none⟩) hla hna).trans (by exact by simpa using a1), (wr_cell h (p := ⟨ga, 2, none⟩) hla hna).trans (by exact by simpa using a2)⟩)
      have INIT := Lib.hid (CE.out _ (Wr.refl _ _))
      have KW := Lib.hid (fun (W2 W : World) (hb : Wr (Value.slice U3 k u3).ownBlock.toList W W2) (h : Hid (Wr (Value.slice U3 k u3).ownBlock.toList wq.drew W) ∧ W.cell? ⟨gb, 2, none⟩ = some (.slice U3 k u3) ∧ W.cell? ⟨ga, 0, none⟩ = some (.string act.nm) ∧ W.cell? ⟨ga, 1, none⟩ = some (.int .i64 act.fa) ∧ W.cell? ⟨ga, 2, none⟩ = some (.slice M act.ms.length cm)) => CE.out W2 (h.1.out.trans hb))
      clear y0 y1 y2 yf a0 a1 a2 af hly hla hng hna
      refine wpAnyZ_start 7 (fun W => Hid (Wr (Value.slice U3 k u3).ownBlock.toList wq.drew W) ∧ W.cell? ⟨gb, 2, none⟩ = some (.slice U3 k u3) ∧ W.cell? ⟨ga, 0, none⟩ = some (.string act.nm) ∧ W.cell? ⟨ga, 1, none⟩ = some (.int .i64 act.fa) ∧ W.cell? ⟨ga, 2, none⟩ = some (.slice M act.ms.length cm)) (by kernel_rfl) INIT.out (fun hHeld => ?_)
      clear CE INIT
      refine wpAnyZ_take (i := 0) (v := ?_) rfl (by kernel_rfl) (by kernel_rfl) (by kernel_rfl) (fun _ _ _ h => h) (Or.inl ⟨by rfl, ?_⟩) (by assumption) ?_
      rotate_left
      · (intro W hSw; (try dsimp only at hSw); go_simp <;> with_reducible rfl)
      (try simp only [Act.put])
      refine wpAnyZ_take (i := 1) (v := ?_) rfl (by kernel_rfl) (by kernel_rfl) (by kernel_rfl) (fun _ _ _ h => h) (Or.inl ⟨by rfl, ?_⟩) (by assumption) ?_
      rotate_left
      · (intro W hSw; (try dsimp only at hSw); go_simp <;> with_reducible rfl)
      (try simp only [Act.put])
      refine wpAnyZ_take (i := 2) (v := ?_) rfl (by kernel_rfl) (by kernel_rfl) (by kernel_rfl) (fun _ _ _ h => h) (Or.inl ⟨by rfl, ?_⟩) (by assumption) ?_
      rotate_left
      · (intro W hSw; (try dsimp only at hSw); go_simp <;> with_reducible rfl)
      (try simp only [Act.put])
      refine wpAnyZ_one (i := 3) (by kernel_rfl) rfl (fun K hK => ?_)
      go_simp
      go_at_call 79
      refine (specModeIndexes_any act _ _ (by exact Tr.rd_below S9.out.1 (Nat.le_refl _) _ _ RA.out)).mono ?_
      rintro e w3 ⟨v7, rfl, o7, bb7⟩
      (first | done | go_wp2_with fail)
      refine hK.out _ _ (KW.out _ _ (Wr.of_below bb7 (Nat.le_refl _)) hHeld) (fun hHeld3 => ?_)
      clear hK K
      have S10 := Lib.hid (S9.out.new (flat_own (by simpa using o7)).1 (flat_own o7).2 bb7)
      obtain ⟨A7, c7, rfl⟩ : ∃ A c, v7 = .slice A (rangeB (act.ms.length : Int)).length c := slice_ints (S10.out.rd 0 rfl)
      have S11 := Lib.hid (show Sn w w3 (⟨trI (rangeB (act.ms.length : Int)), .slice A7 (rangeB (act.ms.length : Int)).length c7, (Value.slice A7 (rangeB (act.ms.length : Int)).length c7).ownBlock.toList⟩ :: ⟨trSu ((p.acts.take k).map (fun a => rangeB (a.ms.length : Int))), .slice U3 k u3, F3⟩ :: _) from (S10.out.pick 4 rfl).pick 1 rfl)
      simp only [List.eraseIdx_cons_succ, List.eraseIdx_cons_zero] at S11
      clear S9 S10 o7 bb7
      have SW := Lib.hid S11.out.wrap
      obtain ⟨vs, G, ov, ol, hF⟩ := rowsD_raw (SW.out.own 1 rfl).1
      rw [HLN.out] at ov
      have OV := Lib.hid ov
      have OL := Lib.hid ol
      have HF := Lib.hid hF
      have hzs := S11.out.1.size
      clear ov ol hF
      refine wpAnyZ_one (i := 4) (by kernel_rfl) rfl (fun K hK => ?_)
      go_simp
      refine hK.out _ _ (KW.out _ _ (Wr.of_below ((Below.refl _ _).alloc (Nat.le_refl _) _) (Nat.le_refl _)) hHeld3) (fun hHeld4 => ?_)
      clear hK K
      refine wpAnyZ_one (i := 5) (by kernel_rfl) rfl (fun K hK => ?_)
      refine step_append_lies _ (by rfl) (.tmp 28) (.tmp 31) 43 (by rfl) w.heap.size 25 ii (.slice none 0 0) 1 24 Tryz.underlying43 hj0 hjz hjs hjb rfl (by decide) _ k vs (by rfl) (by exact OV.out.alloc _) ⟨w3.heap.size, 0, none⟩ 1 1 [.slice A7 (rangeB (act.ms.length : Int)).length c7] (by rfl) (by rfl) (by exact one_cell _ _ _) (by simp [Value.oneCell']) (by decide) (by unfold maxLen; omega) (by omega) (by simp; omega) (w3.heap.size + 1) (by simp) ?_
      intro g' c' w8 hown8 hg8 hat8 hlt8
      have hg9 : (w3.alloc (.cells #[.slice A7 (rangeB (act.ms.length : Int)).length c7] 25)).grownBy w8 (Value.slice U3 k u3).ownBlock := hg8
      have hat9 : (Value.slice (some ⟨g', 0, none⟩) (k + 1) c').ownBlock = (Value.slice U3 k u3).ownBlock ∨ (Value.slice (some ⟨g', 0, none⟩) (k + 1) c').ownBlock = some (w3.heap.size + 1) := by
        have h4 : (Value.slice U3 k u3).ownBlock = some g' ∨ g' = w3.heap.size + 1 := hat8
        rcases h4 with h4 | h4
        · exact .inl h4.symm
        · exact .inr (by subst h4; rfl)
      obtain ⟨F3', h9⟩ := Sn.appG (f := cellsI1) (x := rangeB (act.ms.length : Int)) (by rw [HLN.out]) SW.out OL.out HF.out hown8 hg9 hat9
      have S12 := Lib.hid h9
      refine hK.out _ _ (KW.out _ _ (Wr.of_grown hg9) hHeld4) (fun hHeld5 => ?_)
      clear hK K hg8 hg9 hat8 hat9 h9 hown8 SW OV OL HF hlt8 S11
      rw [NX.out] at S12
      obtain ⟨f0, f1, f2, ff⟩ := (S12.out.bk 4 rfl).c3
      refine wpAnyZ_take (i := 6) (v := ?_) rfl (by kernel_rfl) (by kernel_rfl) (by kernel_rfl) (fun _ _ _ h => h) (Or.inl ⟨by rfl, ?_⟩) (by assumption) ?_
      rotate_left
      · (intro W hSw; (try dsimp only at hSw); go_simp <;> with_reducible rfl)
      (try simp only [Act.put])
      refine wpAnyZ_last (by kernel_rfl) (by kernel_rfl) rfl (fun K hK => ?_)
      go_simp
      refine hK.out _ _ ?_
      clear hK K
      have S13 := Lib.hid (S12.out.boxSet 4 rfl 2 (.slice (some ⟨g', 0, none⟩) (k + 1) c'))
      simp only [List.set_cons_zero, List.set_cons_succ] at S13
      generalize World.setCell w8 _ _ = w9 at S13 ⊢
      clear S12 KW f0 f1 f2 ff
      go_wp2
      go_roundw
      case rel => exact ⟨k + 1, U1', U2', some ⟨g', 0, none⟩, u1', u2', c', F1', F2', F3', by omega, by go_num, S13.out.drop 3⟩
      case measure => simp [intOf]; omega
    · have hge : ¬ (k : Int) < (p.acts.length : Int) := by omega
      obtain rfl : k = p.acts.length := by omega
      rw [List.take_length] at S3
      obtain ⟨y0, y1, y2, yf⟩ := (S3.out.bk 3 rfl).c3
      obtain ⟨q0, q1, q2, qf⟩ := (S3.out.bk 4 rfl).c3
      have hgr : gb ≠ w.heap.size + 1 := fun e => S3.out.2.apart (i := 3) (j := 4) rfl rfl (by omega) gb (by simp [boxI]) (by simp [boxI, e])
      go_wp2
      have SZ := ((S3.out.boxSet 4 rfl 0 (.slice U1 p.acts.length u1)).boxSet 4 rfl 1 (.slice U2 p.acts.length u2)).boxSet 4 rfl 2 (.slice U3 p.acts.length u3)
      have P := SZ.nil0
      have P := (P.pick 1 rfl).pack
      have P := (P.pick 1 rfl).pack
      have P := (P.pick 1 rfl).pack
      refine bodyPost_ret (v := .agg #[.slice U1 p.acts.length u1, .slice U2 p.acts.length u2, .slice U3 p.acts.length u3]) (by simp [results, Tryz.results43, go_sem, q0, q1, q2]) rfl (by first | exact ⟨_, _, rfl, (P.own 0 rfl).1, (P.own 0 rfl).2, SZ.1⟩ | exact ⟨_, (P.own 0 rfl).1, (P.own 0 rfl).2, SZ.1⟩ | exact ⟨_, rfl, _, (P.own 0 rfl).1, (P.own 0 rfl).2, SZ.1⟩)
end Go.Proofs.YtgbpomakomddjabGreat
end

section
namespace Go.Proofs.YtgbpomakomddjabGreat
open Go.RowKit Go.Shelf
set_option linter.unusedVariables false

theorem su_le (m : Nat) : ∀ (xs : List (List Int)), (∀ l ∈ xs, l.length ≤ m) → (trSu xs).sz ≤ xs.length * (m + 1)
  | [], _ => by simp [su_sz, szL]
  | l :: xs, h => by
    have h1 := su_le m xs (fun l hl => h l (by simp [hl]))
    have h2 := h l (by simp)
    rw [su_sz] at h1 ⊢
    have h3 : szL ((l :: xs).flatMap cellsI1) = l.length + szL (xs.flatMap cellsI1) := by
      rw [List.flatMap_cons, szL_app]
      simp [cellsI1, szL, trI_sz]
    rw [h3, List.length_cons, Nat.succ_mul]
    omega
theorem range_len (n : Nat) : (rangeB (n : Int)).length ≤ n := by
  unfold rangeB
  split
  · rw [upB_len]; omega
  · simp
theorem init_sz (p : Pj) : (trDm (initD p)).sz ≤ 60 := by
  rcases hok : pokB p with _ | _
  · rw [init_no hok, dm_sz, su_sz]; simp [szL]
  · rw [init_yes hok, dm_sz]
    have h6 := (pok_acts hok).1
    have h := su_le 3 (init1 p).md (fun l hl => by
      obtain ⟨a, ha, rfl⟩ := List.mem_map.1 hl
      have h1 := range_len a.ms.length
      have h2 := (aok_modes ((pok_acts hok).2 a ha)).1
      omega)
    have e1 : (init1 p).mn.length = p.acts.length := by simp [init1]
    have e2 : (init1 p).mx.length = p.acts.length := by simp [init1]
    have e3 : (init1 p).md.length = p.acts.length := by simp [init1]
    rw [e3] at h
    rw [e1, e2]
    omega
set_option maxRecDepth 100000 in
set_option maxHeartbeats 8000000 in
theorem implInitialDomain_any (p : Pj) (v : Value) (w : World) (hv : (trPj p).rd w v) (hk : (trPj p).ok) :
    Calls Tryz.prog 44 #[v] w fun e w' => ∃ u F, e = .returned u ∧ (trDm (initD p)).own w' w.heap.size u F ∧ F.Nodup ∧ Below w.heap.size w w' := by
  have HV := Lib.hid hv
  obtain ⟨A1, c1, A2, c2, A3, c3, A4, c4, rfl, r1, _⟩ := rdProject_t hv
  obtain ⟨hl1, B1, d1, he, g1⟩ := rdActivityS_t r1
  injection he with he _ he2
  subst he he2
  have G1 := Lib.hid g1
  have HK := Lib.hid hk
  clear hv hk r1 g1
  obtain ⟨i0, hi0, hz0, hz1, hz2⟩ := info_parts infoInt
  obtain ⟨ii, hj0, hjz, hjs, hjb⟩ := info_parts infoInt_t
  have S0 := Lib.hid (((Sn.start w).box 36 [.int .i64 p.dl, .slice A1 p.acts.length c1, .slice A2 p.lks.length c2, .slice A3 p.ress.length c3, .slice A4 p.stk.length c4]).box 45 [.slice none 0 0, .slice none 0 0, .slice none 0 0])
  simp only [World.size_alloc] at S0
  go_enter Tryz.func44, Tryz.ntmps44
  go_wp2_with fail
  refine (implProjectOk_any p _ _ (by exact S0.out.old HV.out) HK.out).mono ?_
  rintro e w1 ⟨rfl, b⟩
  have S1 := Lib.hid (S0.out.go b)
  clear S0 b
  rcases hok : pokB p with _ | _
  · have HR := Lib.hid (init_no hok)
    clear hok
    obtain ⟨q0, q1, q2, qf⟩ := (S1.out.bk 0 rfl).c3
    go_wp2
    have SZ := ((S1.out.boxSet 0 rfl 0 (.slice none 0 0)).boxSet 0 rfl 1 (.slice none 0 0)).boxSet 0 rfl 2 (.slice none 0 0)
    have P := (((SZ.nil0.nilR 25 1 cellsI1).pack.nilI).pack.nilI).pack
    refine bodyPost_ret (v := .agg #[.slice none 0 0, .slice none 0 0, .slice none 0 0]) (by simp [results, Tryz.results44, go_sem, q0, q1, q2]) rfl (by first | exact ⟨_, _, rfl, by rw [HR.out]; exact (P.own 0 rfl).1, (P.own 0 rfl).2, SZ.1⟩ | exact ⟨_, by rw [HR.out]; exact (P.own 0 rfl).1, (P.own 0 rfl).2, SZ.1⟩ | exact ⟨_, rfl, _, by rw [HR.out]; exact (P.own 0 rfl).1, (P.own 0 rfl).2, SZ.1⟩)
  have HR := Lib.hid (init_yes hok)
  have hdl := inB_iff.1 (pok_dl hok)
  have h6 := (pok_acts hok).1
  have HMS := Lib.hid (pok_acts hok).2
  clear hok
  have SB := Lib.hid (((S1.out.box 45 [.slice none 0 0, .slice none 0 0, .slice none 0 0]).nilI.nilI).nilR 25 1 cellsI1)
  clear S1
  obtain ⟨e0, e1, e2, e3, e4, ef⟩ := (SB.out.bk 5 rfl).c5
  go_wp2_with fail
  clear e0 e1 e2 e3 e4 ef
  generalize hgb : w1.heap.size = gb at SB ⊢
  have hwd : IntKind.i64.wrap (p.dl - 1) = p.dl - 1 := by rw [IntKind.wrap_i64]; omega
  go_loopw [13] (fun i wr => ∃ (k : Nat) (U1 U2 U3 : Option Addr) (u1 u2 u3 : Nat) (F1 F2 F3 : List Nat), k ≤ p.acts.length ∧ i = .int .i64 k ∧ Sn w wr [⟨trSu ((p.acts.take k).map fun a => rangeB (a.ms.length : Int)), .slice U3 k u3, F3⟩, ⟨trI (List.replicate k (p.dl - 1)), .slice U2 k u2, F2⟩, ⟨trI (List.replicate k 0), .slice U1 k u1, F1⟩, boxI gb 45 [.slice U1 k u1, .slice U2 k u2, .slice U3 k u3], boxI (w.heap.size + 1) 45 [.slice none 0 0, .slice none 0 0, .slice none 0 0], boxI w.heap.size 36 [.int .i64 p.dl, .slice A1 p.acts.length c1, .slice A2 p.lks.length c2, .slice A3 p.ress.length c3, .slice A4 p.stk.length c4]]) (fun i _ => p.acts.length - (intOf i).toNat)
  case atStart => exact ⟨0, none, none, none, 0, 0, 0, _, _, _, Nat.zero_le _, rfl, SB.out⟩
  case round =>
    obtain ⟨k, U1, U2, U3, u1, u2, u3, F1, F2, F3, hkl, rfl, hS⟩ := hrel
    have S3 := Lib.hid hS
    clear hS SB
    by_cases hlt : k < p.acts.length
    · have hlt' : (k : Int) < (p.acts.length : Int) := by omega
      have k0 : (0 : Int) ≤ (k : Int) := by omega
      obtain ⟨b4, o4, rfl, hb4, hc4⟩ := G1.out k hlt
      obtain ⟨M, cm, x0, x1, x2, rm⟩ := hc4 k hlt
      have z0 := (S3.out.1.cell (p := ⟨b4, o4 + k * 3, none⟩) hb4).trans x0
      have z1 := (S3.out.1.cell (p := ⟨b4, o4 + k * 3 + 1, none⟩) hb4).trans x1
      have z2 := (S3.out.1.cell (p := ⟨b4, o4 + k * 3 + 2, none⟩) hb4).trans x2
      have NX := Lib.hid (take_map_snoc (f := fun a => rangeB (a.ms.length : Int)) hlt)
      have HLN := Lib.hid (show ((p.acts.take k).map fun a => rangeB (a.ms.length : Int)).length = k from by rw [List.length_map, List.length_take]; omega)
      have RA := Lib.hid (mk_rdActivity_t (w := w) (d := p.acts[k]) rm)
      have S4 := Lib.hid (S3.out.box 95 [.string p.acts[k].nm, .int .i64 p.acts[k].fa, .slice M p.acts[k].ms.length cm])
      clear hc4 x0 x1 x2 rm S3
      generalize p.acts[k] = act at z0 z1 z2 S4 RA NX
      obtain ⟨y0, y1, y2, yf⟩ := (S4.out.bk 4 rfl).c3
      obtain ⟨e0, e1, e2, e3, e4, ef⟩ := (S4.out.bk 6 rfl).c5
      have OW := Lib.hid (show _ from (S4.out.pick 3 rfl).ownRI)
      rw [List.length_replicate] at OW
      have hzs := S4.out.1.size
      go_wp2_with (first | (at_builtin; refine wpList_append_own_at _ rfl (.tmp 18) (.tmp 19) 25 rfl w.heap.size 3 i0 (.int .i64 0) 1 8 Tryz.underlying25 hi0 hz0 hz1 hz2 rfl (by decide) (.slice U1 k u1) k ((List.replicate k 0).map (.int .i64)) rfl (by exact OW.out.alloc _) ⟨_, 0, none⟩ 1 1 [.int .i64 0] rfl rfl ?c1 ?c2 ?c3 ?c4 ?c5 ?_))
      try case c1 => (intro j u hj; have h9 := one_cell (World.alloc wr (.cells #[.string act.nm, .int .i64 act.fa, .slice M act.ms.length cm] 95)) (.int .i64 0) 3 j u hj; simpa only [World.size_alloc] using h9)
      try case c2 => simp [Value.oneCell']
      try case c3 => unfold maxLen; omega
      try case c4 => omega
      try case c5 => first | omega | (simp at hzs ⊢; omega)
      intro v1 w5 hown5 hg5 _ hat5
      obtain ⟨F1', h5⟩ := (S4.out.pick 3 rfl).appI2 (r := 0) (n := k + 1) (by first | exact hown5 | (rw [List.map_replicate]; exact hown5)) hg5 (by simpa using hat5)
      rw [rep_snoc] at h5
      simp only [List.eraseIdx_cons_succ, List.eraseIdx_cons_zero] at h5
      obtain ⟨U1', u1', rfl⟩ : ∃ A c, v1 = .slice A (k + 1) c := by have := slice_ints (h5.rd 0 rfl); rwa [List.length_replicate] at this
      have S5 := Lib.hid h5
      clear hown5 hg5 hat5 h5 OW S4 z0 z1 z2 y0 y1 y2 yf e0 e1 e2 e3 e4 ef
      have S6 := Lib.hid (S5.out.boxSet 4 rfl 0 (.slice U1' (k + 1) u1'))
      simp only [List.set_cons_zero, List.set_cons_succ] at S6
      obtain ⟨y0, y1, y2, yf⟩ := (S5.out.bk 4 rfl).c3
      obtain ⟨e0, e1, e2, e3, e4, ef⟩ := (S5.out.bk 6 rfl).c5
      have hgne : gb ≠ w.heap.size := fun e => S5.out.2.apart (i := 4) (j := 6) rfl rfl (by omega) gb (by simp [boxI]) (by simp [boxI, e])
      have OW := Lib.hid (show _ from (S6.out.pick 3 rfl).ownRI)
      rw [List.length_replicate] at OW
      have hzs := S6.out.1.size
      clear S5
      go_wp2_with (first | (at_builtin; refine wpList_append_own_at _ rfl (.tmp 23) (.tmp 27) 25 rfl w.heap.size 3 i0 (.int .i64 0) 1 8 Tryz.underlying25 hi0 hz0 hz1 hz2 rfl (by decide) (.slice U2 k u2) k ((List.replicate k (p.dl - 1)).map (.int .i64)) rfl (by exact OW.out.alloc _) ⟨_, 0, none⟩ 1 1 [.int .i64 (p.dl - 1)] rfl rfl ?c1 ?c2 ?c3 ?c4 ?c5 ?_))
      try case c1 => (intro j u hj; have h9 := one_cell (w5.setCell ⟨gb, 0, none⟩ (.slice U1' (k + 1) u1')) (.int .i64 (p.dl - 1)) 3 j u hj; rw [World.size_setCell] at h9; exact h9)
      try case c2 => simp [Value.oneCell']
      try case c3 => unfold maxLen; omega
      try case c4 => omega
      try case c5 => first | omega | (simp at hzs ⊢; omega)
      intro v2 w6 hown6 hg6 _ hat6
      obtain ⟨F2', h6⟩ := (S6.out.pick 3 rfl).appI2 (r := p.dl - 1) (n := k + 1) (by first | exact hown6 | (rw [List.map_replicate]; exact hown6)) hg6 (by simpa using hat6)
      rw [rep_snoc] at h6
      simp only [List.eraseIdx_cons_succ, List.eraseIdx_cons_zero] at h6
      obtain ⟨U2', u2', rfl⟩ : ∃ A c, v2 = .slice A (k + 1) c := by have := slice_ints (h6.rd 0 rfl); rwa [List.length_replicate] at this
      have S7 := Lib.hid h6
      clear hown6 hg6 hat6 h6 OW S6 y0 y1 y2 yf e0 e1 e2 e3 e4 ef
      obtain ⟨y0, y1, y2, yf⟩ := (S7.out.bk 4 rfl).c3
      have S8 := Lib.hid (S7.out.boxSet 4 rfl 1 (.slice U2' (k + 1) u2'))
      simp only [List.set_cons_zero, List.set_cons_succ] at S8
      clear S7
      go_wp2_with fail
      clear y0 y1 y2 yf
      generalize hga : wr.heap.size = ga at S8 ⊢
      generalize hwq : World.setCell w6 _ _ = wq at S8 ⊢
      clear hga hwq
      obtain ⟨y0, y1, y2, yf⟩ := (S8.out.bk 4 rfl).c3
      obtain ⟨a0, a1, a2, af⟩ := (S8.out.bk 2 rfl).c3
      have hly := (S8.out.bk 4 rfl).lt
      have hla := (S8.out.bk 2 rfl).lt
      obtain ⟨_, _, _, _, hF0⟩ := rowsD_raw (S8.out.own 3 rfl).1
      have hng : gb ∉ (Value.slice U3 k u3).ownBlock.toList := fun h => S8.out.2.apart (i := 3) (j := 4) rfl rfl (by omega) gb (by rw [hF0]; exact List.mem_append.2 (.inl h)) (by simp [boxI])
      have hna : ga ∉ (Value.slice U3 k u3).ownBlock.toList := fun h => S8.out.2.apart (i := 2) (j := 3) rfl rfl (by omega) ga (by simp [boxI]) (by rw [hF0]; exact List.mem_append.2 (.inl h))
      have S9 := Lib.hid S8.out.drew1
      clear S8 hF0
      have CE := Lib.hid (fun (W : World) (h : Wr (Value.slice U3 k u3).ownBlock.toList wq.drew W) => show Hid (Wr (Value.slice U3 k u3).ownBlock.toList wq.drew W) ∧ W.cell? ⟨gb, 2, none⟩ = some (.slice U3 k u3) ∧ W.cell? ⟨ga, 0, none⟩ = some (.string act.nm) ∧ W.cell? ⟨ga, 1, none⟩ = some (.int .i64 act.fa) ∧ W.cell? ⟨ga, 2, none⟩ = some (.slice M act.ms.length cm) from ⟨Lib.hid h, (wr_cell h (p := ⟨gb, 2, none⟩) hly hng).trans (by exact by simpa using y2), (wr_cell h (p := ⟨ga, 0, none⟩) hla hna).trans (by exact by simpa using a0), (wr_cell h (p := ⟨ga, 1, none⟩) hla hna).trans (by exact by simpa using a1), (wr_cell h (p := ⟨ga, 2, none⟩) hla hna).trans (by exact by simpa using a2)⟩)
      have INIT := Lib.hid (CE.out _ (Wr.refl _ _))
      have KW := Lib.hid (fun (W2 W : World) (hb : Wr (Value.slice U3 k u3).ownBlock.toList W W2) (h : Hid (Wr (Value.slice U3 k u3).ownBlock.toList wq.drew W) ∧ W.cell? ⟨gb, 2, none⟩ = some (.slice U3 k u3) ∧ W.cell? ⟨ga, 0, none⟩ = some (.string act.nm) ∧ W.cell? ⟨ga, 1, none⟩ = some (.int .i64 act.fa) ∧ W.cell? ⟨ga, 2, none⟩ = some (.slice M act.ms.length cm)) => CE.out W2 (h.1.out.trans hb))
      clear y0 y1 y2 yf a0 a1 a2 af hly hla hng hna
      refine wpAnyZ_start 7 (fun W => Hid (Wr (Value.slice U3 k u3).ownBlock.toList wq.drew W) ∧ W.cell? ⟨gb, 2, none⟩ = some (.slice U3 k u3) ∧ W.cell? ⟨ga, 0, none⟩ = some (.string act.nm) ∧ W.cell? ⟨ga, 1, none⟩ = some (.int .i64 act.fa) ∧ W.cell? ⟨ga, 2, none⟩ = some (.slice M act.ms.length cm)) (by kernel_rfl) INIT.out (fun hHeld => ?_)
      clear CE INIT
      refine wpAnyZ_take (i := 0) (v := ?_) rfl (by kernel_rfl) (by kernel_rfl) (by kernel_rfl) (fun _ _ _ h => h) (Or.inl ⟨by rfl, ?_⟩) (by assumption) ?_
      rotate_left
      · (intro W hSw; (try dsimp only at hSw); go_simp <;> with_reducible rfl)
      (try simp only [Act.put])
      refine wpAnyZ_take (i := 1) (v := ?_) rfl (by kernel_rfl) (by kernel_rfl) (by kernel_rfl) (fun _ _ _ h => h) (Or.inl ⟨by rfl, ?_⟩) (by assumption) ?_
      rotate_left
      · (intro W hSw; (try dsimp only at hSw); go_simp <;> with_reducible rfl)
      (try simp only [Act.put])
      refine wpAnyZ_take (i := 2) (v := ?_) rfl (by kernel_rfl) (by kernel_rfl) (by kernel_rfl) (fun _ _ _ h => h) (Or.inl ⟨by rfl, ?_⟩) (by assumption) ?_
      rotate_left
      · (intro W hSw; (try dsimp only at hSw); go_simp <;> with_reducible rfl)
      (try simp only [Act.put])
      refine wpAnyZ_one (i := 3) (by kernel_rfl) rfl (fun K hK => ?_)
      go_simp
      go_at_call 80
      refine (implModeIndexes_any act _ _ (by exact Tr.rd_below S9.out.1 (Nat.le_refl _) _ _ RA.out)).mono ?_
      rintro e w3 ⟨v7, rfl, o7, bb7⟩
      (first | done | go_wp2_with fail)
      refine hK.out _ _ (KW.out _ _ (Wr.of_below bb7 (Nat.le_refl _)) hHeld) (fun hHeld3 => ?_)
      clear hK K
      have S10 := Lib.hid (S9.out.new (flat_own (by simpa using o7)).1 (flat_own o7).2 bb7)
      obtain ⟨A7, c7, rfl⟩ : ∃ A c, v7 = .slice A (rangeB (act.ms.length : Int)).length c := slice_ints (S10.out.rd 0 rfl)
      have S11 := Lib.hid (show Sn w w3 (⟨trI (rangeB (act.ms.length : Int)), .slice A7 (rangeB (act.ms.length : Int)).length c7, (Value.slice A7 (rangeB (act.ms.length : Int)).length c7).ownBlock.toList⟩ :: ⟨trSu ((p.acts.take k).map (fun a => rangeB (a.ms.length : Int))), .slice U3 k u3, F3⟩ :: _) from (S10.out.pick 4 rfl).pick 1 rfl)
      simp only [List.eraseIdx_cons_succ, List.eraseIdx_cons_zero] at S11
      clear S9 S10 o7 bb7
      have SW := Lib.hid S11.out.wrap
      obtain ⟨vs, G, ov, ol, hF⟩ := rowsD_raw (SW.out.own 1 rfl).1
      rw [HLN.out] at ov
      have OV := Lib.hid ov
      have OL := Lib.hid ol
      have HF := Lib.hid hF
      have hzs := S11.out.1.size
      clear ov ol hF
      refine wpAnyZ_one (i := 4) (by kernel_rfl) rfl (fun K hK => ?_)
      go_simp
      refine hK.out _ _ (KW.out _ _ (Wr.of_below ((Below.refl _ _).alloc (Nat.le_refl _) _) (Nat.le_refl _)) hHeld3) (fun hHeld4 => ?_)
      clear hK K
      refine wpAnyZ_one (i := 5) (by kernel_rfl) rfl (fun K hK => ?_)
      refine step_append_lies _ (by rfl) (.tmp 31) (.tmp 34) 43 (by rfl) w.heap.size 25 ii (.slice none 0 0) 1 24 Tryz.underlying43 hj0 hjz hjs hjb rfl (by decide) _ k vs (by rfl) (by exact OV.out.alloc _) ⟨w3.heap.size, 0, none⟩ 1 1 [.slice A7 (rangeB (act.ms.length : Int)).length c7] (by rfl) (by rfl) (by exact one_cell _ _ _) (by simp [Value.oneCell']) (by decide) (by unfold maxLen; omega) (by omega) (by simp; omega) (w3.heap.size + 1) (by simp) ?_
      intro g' c' w8 hown8 hg8 hat8 hlt8
      have hg9 : (w3.alloc (.cells #[.slice A7 (rangeB (act.ms.length : Int)).length c7] 25)).grownBy w8 (Value.slice U3 k u3).ownBlock := hg8
      have hat9 : (Value.slice (some ⟨g', 0, none⟩) (k + 1) c').ownBlock = (Value.slice U3 k u3).ownBlock ∨ (Value.slice (some ⟨g', 0, none⟩) (k + 1) c').ownBlock = some (w3.heap.size + 1) := by
        have h4 : (Value.slice U3 k u3).ownBlock = some g' ∨ g' = w3.heap.size + 1 := hat8
        rcases h4 with h4 | h4
        · exact .inl h4.symm
        · exact .inr (by subst h4; rfl)
      obtain ⟨F3', h9⟩ := Sn.appG (f := cellsI1) (x := rangeB (act.ms.length : Int)) (by rw [HLN.out]) SW.out OL.out HF.out hown8 hg9 hat9
      have S12 := Lib.hid h9
      refine hK.out _ _ (KW.out _ _ (Wr.of_grown hg9) hHeld4) (fun hHeld5 => ?_)
      clear hK K hg8 hg9 hat8 hat9 h9 hown8 SW OV OL HF hlt8 S11
      rw [NX.out] at S12
      obtain ⟨f0, f1, f2, ff⟩ := (S12.out.bk 4 rfl).c3
      refine wpAnyZ_take (i := 6) (v := ?_) rfl (by kernel_rfl) (by kernel_rfl) (by kernel_rfl) (fun _ _ _ h => h) (Or.inl ⟨by rfl, ?_⟩) (by assumption) ?_
      rotate_left
      · (intro W hSw; (try dsimp only at hSw); go_simp <;> with_reducible rfl)
      (try simp only [Act.put])
      refine wpAnyZ_last (by kernel_rfl) (by kernel_rfl) rfl (fun K hK => ?_)
      go_simp
      refine hK.out _ _ ?_
      clear hK K
      have S13 := Lib.hid (S12.out.boxSet 4 rfl 2 (.slice (some ⟨g', 0, none⟩) (k + 1) c'))
      simp only [List.set_cons_zero, List.set_cons_succ] at S13
      generalize World.setCell w8 _ _ = w9 at S13 ⊢
      clear S12 KW f0 f1 f2 ff
      go_wp2
      go_roundw
      case rel => exact ⟨k + 1, U1', U2', some ⟨g', 0, none⟩, u1', u2', c', F1', F2', F3', by omega, by go_num, S13.out.drop 3⟩
      case measure => simp [intOf]; omega
    · have hge : ¬ (k : Int) < (p.acts.length : Int) := by omega
      obtain rfl : k = p.acts.length := by omega
      rw [List.take_length] at S3
      obtain ⟨y0, y1, y2, yf⟩ := (S3.out.bk 3 rfl).c3
      obtain ⟨q0, q1, q2, qf⟩ := (S3.out.bk 4 rfl).c3
      have hgr : gb ≠ w.heap.size + 1 := fun e => S3.out.2.apart (i := 3) (j := 4) rfl rfl (by omega) gb (by simp [boxI]) (by simp [boxI, e])
      go_wp2
      have SZ := ((S3.out.boxSet 4 rfl 0 (.slice U1 p.acts.length u1)).boxSet 4 rfl 1 (.slice U2 p.acts.length u2)).boxSet 4 rfl 2 (.slice U3 p.acts.length u3)
      have P := SZ.nil0
      have P := (P.pick 1 rfl).pack
      have P := (P.pick 1 rfl).pack
      have P := (P.pick 1 rfl).pack
      refine bodyPost_ret (v := .agg #[.slice U1 p.acts.length u1, .slice U2 p.acts.length u2, .slice U3 p.acts.length u3]) (by simp [results, Tryz.results44, go_sem, q0, q1, q2]) rfl (by first | exact ⟨_, _, rfl, by rw [HR.out]; exact (P.own 0 rfl).1, (P.own 0 rfl).2, SZ.1⟩ | exact ⟨_, by rw [HR.out]; exact (P.own 0 rfl).1, (P.own 0 rfl).2, SZ.1⟩ | exact ⟨_, rfl, _, by rw [HR.out]; exact (P.own 0 rfl).1, (P.own 0 rfl).2, SZ.1⟩)
end Go.Proofs.YtgbpomakomddjabGreat
end
