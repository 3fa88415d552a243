/- DERIVED. CONTRACTS of chapter 13: DomainLiterals of the model. -/
import Derived.Test.YtdbnhdiboemmiabGreatDmG
import Derived.Test.YtdbnhdiboemmiabGreatDmK
import Derived.Test.YtdbnhdiboemmiabGreatActF
import Derived.Test.YtdbnhdiboemmiabGreatRegZ
import Derived.Maps.AppendAt
namespace Go.Proofs.YtdbnhdiboemmiabGreat
open Go.RowKit Go.Shelf
set_option linter.unusedVariables false

set_option maxRecDepth 100000 in
set_option maxHeartbeats 8000000 in
theorem specDomainLiterals_any (p : Pj) (d : Dm) (v u : Value) (w : World) (hv : (trPj p).rd w v) (hk : (trPj p).ok) (hd : (trDm d).rd w u) :
    Calls Tryz.prog 6 #[v, u] w fun e w' => ∃ r F, e = .returned r ∧ (trLts (litsD p d)).own w' w.heap.size r F ∧ F.Nodup ∧ Below w.heap.size w w' := by
  have HV := Lib.hid hv
  obtain ⟨A1, c1, A2, c2, A3, c3, A4, c4, rfl, r1, _⟩ := rdProject_t hv
  obtain ⟨hl1, B1, d1, he, g1⟩ := rdActivityS_t r1
  injection he with he _ he2
  subst he he2
  have G1 := Lib.hid g1
  clear hv r1 g1
  have HD := Lib.hid hd
  obtain ⟨D1, t1, D2, t2, D3, t3, rfl, m1, m2, m3⟩ := rdDomain_t hd
  obtain ⟨hd1, B5, d5, he, y1⟩ := rdI (rd_flat m1)
  injection he with he _ he2
  subst he he2
  have Y1 := Lib.hid y1
  obtain ⟨hd2, B6, d6, he, y2⟩ := rdI (rd_flat m2)
  injection he with he _ he2
  subst he he2
  have Y2 := Lib.hid y2
  obtain ⟨hd3, B7, d7, he, y3⟩ := rdIntSS_t m3
  injection he with he _ he2
  subst he he2
  have Y3 := Lib.hid y3
  have M1 := Lib.hid (rd_flat m1)
  have M2 := Lib.hid (rd_flat m2)
  clear hd m1 m2 m3 y1 y2 y3
  have HK := Lib.hid hk
  clear hk
  unfold maxLen at hd1 hd2
  obtain ⟨i0, hi0, hz0, hz1, hz2⟩ := info_parts infoLiteral_t
  have S0 := Lib.hid (((Sn.start w).box 39 [.int .i64 p.dl, .slice A1 p.acts.length c1, .slice A2 p.lks.length c2, .slice A3 p.ress.length c3, .slice A4 p.stk.length c4]).box 41 [.slice D1 d.mn.length t1, .slice D2 d.mx.length t2, .slice D3 d.md.length t3])
  simp only [World.size_alloc] at S0
  go_enter Tryz.func6, Tryz.ntmps6
  have S0e := Lib.hid ((S0.out).emptyT)
  simp only [World.size_alloc] at S0e
  obtain ⟨q0, q1, q2, qf⟩ := (S0e.out.bk 1 rfl).c3
  obtain ⟨e0, e1, e2, e3, e4, ef⟩ := (S0e.out.bk 2 rfl).c5
  go_wp2_with fail
  clear q0 q1 q2 qf
  clear e0 e1 e2 e3 e4 ef
  clear S0
  generalize hge : w.heap.size + 1 + 1 = ge at S0e ⊢
  clear hge
  refine (specDomainForm_any p d _ _ _ (by exact S0e.out.old HV.out) HK.out (by exact S0e.out.old HD.out)).mono ?_
  rintro e w1 ⟨rfl, b⟩
  have S1 := Lib.hid (S0e.out.go b)
  clear S0e b
  rcases hf : dformB p d with _ | _
  · have RES := Lib.hid (lits_no hf)
    clear hf
    have P := S1.out.nilT
    go_wp2
    go_ret
    have PO := (P.own 0 rfl).1
    rw [rowT_tr] at PO
    first
      | exact ⟨_, _, rfl, by rw [RES.out]; exact PO, (P.own 0 rfl).2, S1.out.1⟩
      | exact ⟨_, by rw [RES.out]; exact PO, (P.own 0 rfl).2, S1.out.1⟩
      | exact ⟨_, rfl, _, by rw [RES.out]; exact PO, (P.own 0 rfl).2, S1.out.1⟩
  have RES := Lib.hid (lits_yes hf)
  have FM := Lib.hid (dform_of hf)
  clear hf
  have h6 := FM.out.n6
  have l1 := FM.out.h1
  have l2 := FM.out.h2
  have l3 := FM.out.h3
  have hdl := inB_iff.1 (pok_dl2 FM.out.ok)
  have hwd : IntKind.i64.wrap (p.dl - 1) = p.dl - 1 := by rw [IntKind.wrap_i64]; omega
  obtain ⟨e0, e1, e2, e3, e4, ef⟩ := (S1.out.bk 2 rfl).c5
  go_wp2_with fail
  clear e0 e1 e2 e3 e4 ef
  go_loopw [5, 18] (fun u i wr => ∃ (k : Nat) (F : List Nat), k ≤ p.acts.length ∧ i = .int .i64 k ∧ Sn w wr [⟨rowT (litsK p d k), u, F⟩, boxI (w.heap.size + 1) 41 [.slice D1 d.mn.length t1, .slice D2 d.mx.length t2, .slice D3 d.md.length t3], boxI w.heap.size 39 [.int .i64 p.dl, .slice A1 p.acts.length c1, .slice A2 p.lks.length c2, .slice A3 p.ress.length c3, .slice A4 p.stk.length c4]]) (fun _ i _ => p.acts.length - (intOf i).toNat)
  case atStart => exact ⟨0, _, Nat.zero_le _, rfl, S1.out⟩
  case round =>
    obtain ⟨k, F0, hkl, rfl, hS⟩ := hrel
    have S3 := Lib.hid hS
    clear hS S1
    by_cases hlt : k < p.acts.length
    · have hlt' : (k : Int) < (p.acts.length : Int) := by omega
      have k0 : (0 : Int) ≤ (k : Int) := by omega
      have k1 : (k : Int) < (d.mn.length : Int) := by omega
      have k2 : (k : Int) < (d.mx.length : Int) := by omega
      have k3 : (k : Int) < (d.md.length : Int) := by omega
      have hTl := litsK_len (p := p) (d := d) (k := k) (fun a _ => acA_le FM.out.ok a)
      have hnm := acA_le FM.out.ok k
      have LK := Lib.hid (show litsK p d (k + 1) = litsK p d k ++ litsA p d k from rfl)
      unfold litsA at LK
      have HC := acA_at hlt
      rw [HC] at LK hnm
      generalize litsK p d k = T at S3 LK hTl
      obtain ⟨b4, o4, rfl, hb4, hc4⟩ := G1.out k hlt
      obtain ⟨M, cm, x0, x1, x2, rm⟩ := hc4 k hlt
      have z4 := (S3.out.1.cell (p := ⟨b4, o4 + k * 3, none⟩) hb4).trans x0
      have z5 := (S3.out.1.cell (p := ⟨b4, o4 + k * 3 + 1, none⟩) hb4).trans x1
      have z6 := (S3.out.1.cell (p := ⟨b4, o4 + k * 3 + 2, none⟩) hb4).trans x2
      have RA := Lib.hid (mk_rdActivity_t (w := w) (d := p.acts[k]) rm)
      have S4 := Lib.hid ((S3.out.box 58 [.string p.acts[k].nm, .int .i64 p.acts[k].fa, .slice M p.acts[k].ms.length cm]).pick 1 rfl)
      simp only [List.eraseIdx_cons_succ, List.eraseIdx_cons_zero] at S4
      clear hc4 x0 x1 x2 rm S3 HC
      generalize p.acts[k] = act at z4 z5 z6 S4 RA LK hnm
      obtain ⟨b1, o1, rfl, hb1, hc1⟩ := Y1.out k (by omega)
      obtain ⟨b2, o2, rfl, hb2, hc2⟩ := Y2.out k (by omega)
      obtain ⟨b3, o3, rfl, hb3, hc3⟩ := Y3.out k (by omega)
      obtain ⟨A5, c5, hc3b, rm5⟩ := hc3 k (by omega)
      have ZC := Lib.hid (fun (W : World) (h : Below w.heap.size w W) => show W.cell? ⟨b1, o1 + k, none⟩ = some (.int .i64 (mnD d k)) ∧ W.cell? ⟨b2, o2 + k, none⟩ = some (.int .i64 (mxD d k)) ∧ W.cell? ⟨b3, o3 + k, none⟩ = some (.slice A5 (mdD d k).length c5) from
        ⟨by rw [mnD_at (by omega)]; exact (h.cell (p := ⟨b1, o1 + k, none⟩) hb1).trans (hc1 k (by omega)), by rw [mxD_at (by omega)]; exact (h.cell (p := ⟨b2, o2 + k, none⟩) hb2).trans (hc2 k (by omega)), by rw [mdD_at (by omega)]; exact (h.cell (p := ⟨b3, o3 + k, none⟩) hb3).trans hc3b⟩)
      have RM := Lib.hid (rd_flat rm5)
      rw [← mdD_at (d := d)] at RM
      clear hc1 hc2 hc3 hc3b rm5
      generalize mnD d k = mn at ZC LK
      generalize mxD d k = mx at ZC LK
      generalize mdD d k = md at ZC LK RM
      have hsg := S4.out.1.size
      obtain ⟨z1, z2, z3⟩ := ZC.out _ S4.out.1
      obtain ⟨q0, q1, q2, qf⟩ := (S4.out.bk 2 rfl).c3
      obtain ⟨e0, e1, e2, e3, e4, ef⟩ := (S4.out.bk 3 rfl).c5
      generalize hga : wr.heap.size = ga at S4 ⊢
      by_cases a1 : 0 < mn
      · have ha1 := Lib.hid a1
        have OW := Lib.hid (S4.out.ownT)
        have hzs := S4.out.1.size
        go_wp2_with (first | (at_builtin; refine wpList_append_own_at _ rfl (.tmp 29) (.tmp 37) 33 rfl w.heap.size 60 i0 (.agg #[.int .i64 0, .int .i64 0, .int .i64 0]) 3 24 Tryz.underlying33 hi0 hz0 hz1 hz2 rfl (by decide) _ ((T).length) (cells3 (T)) rfl (by exact OW.out.alloc _) ⟨_, 0, none⟩ 1 1 [.int .i64 1, .int .i64 (k : Int), .int .i64 mn] rfl rfl ?cq81 ?cq82 ?cq83 ?cq84 ?cq85 ?_) | fail)
        try case cq81 => (intro j u hj; have h9 := three_cells (World.alloc wr (.cells #[.string act.nm, .int .i64 act.fa, .slice M act.ms.length cm] 58)) (.int .i64 1) (.int .i64 (k : Int)) (.int .i64 mn) 60 j u hj; first | exact h9 | simpa only [World.size_alloc, hga] using h9)
        try case cq82 => simp [Value.oneCell']
        try case cq83 => unfold maxLen; omega
        try case cq84 => omega
        try case cq85 => first | omega | (simp at hzs ⊢; omega)
        intro v8 w5 hown8 hg8 _ hat8
        obtain ⟨F5, h9⟩ := S4.out.appT (⟨1, (k : Int), mn⟩ : Lt) ((Below.refl _ _).alloc (Nat.le_refl _) _) hown8 (by simp) hg8 (by simpa [hga] using hat8)
        have S5 := Lib.hid h9
        clear hown8 hg8 hat8 h9 OW hzs S4
        clear z1 z2 z3 q0 q1 q2 qf e0 e1 e2 e3 e4 ef hga
        obtain ⟨z1, z2, z3⟩ := ZC.out _ S5.out.1
        obtain ⟨q0, q1, q2, qf⟩ := (S5.out.bk 2 rfl).c3
        obtain ⟨e0, e1, e2, e3, e4, ef⟩ := (S5.out.bk 3 rfl).c5
        by_cases a2 : mx < p.dl - 1
        · have ha2 := Lib.hid a2
          go_wp2_with fail
          go_quiet (fail)
          generalize hwq : World.drewN _ _ = wq
          have hbq : Below w5.heap.size w5 wq := hwq ▸ below_drewN (Below.refl _ _) _
          have S6 := Lib.hid (S5.out.go hbq)
          clear hwq hbq S5 z1 z2 z3 q0 q1 q2 qf e0 e1 e2 e3 e4 ef
          obtain ⟨z1, z2, z3⟩ := ZC.out _ S6.out.1
          obtain ⟨q0, q1, q2, qf⟩ := (S6.out.bk 2 rfl).c3
          have hln : (T ++ [(⟨1, (k : Int), mn⟩ : Lt)]).length ≤ T.length + 1 := by simp
          have OW := Lib.hid (S6.out.ownT)
          have hzs := S6.out.1.size
          go_wp2_with (first | (at_builtin; refine wpList_append_own_at _ rfl (.tmp 48) (.tmp 56) 33 rfl w.heap.size 60 i0 (.agg #[.int .i64 0, .int .i64 0, .int .i64 0]) 3 24 Tryz.underlying33 hi0 hz0 hz1 hz2 rfl (by decide) _ ((T ++ [(⟨1, (k : Int), mn⟩ : Lt)]).length) (cells3 (T ++ [(⟨1, (k : Int), mn⟩ : Lt)])) rfl (by exact OW.out.alloc _) ⟨_, 0, none⟩ 1 1 [.int .i64 2, .int .i64 (k : Int), .int .i64 mx] rfl rfl ?cq91 ?cq92 ?cq93 ?cq94 ?cq95 ?_) | fail)
          try case cq91 => (intro j u hj; have h9 := three_cells wq (.int .i64 2) (.int .i64 (k : Int)) (.int .i64 mx) 60 j u hj; first | exact h9 | simpa only [World.size_alloc] using h9)
          try case cq92 => simp [Value.oneCell']
          try case cq93 => unfold maxLen; omega
          try case cq94 => omega
          try case cq95 => first | omega | (simp at hzs ⊢; omega)
          intro v8 w7 hown8 hg8 _ hat8
          obtain ⟨F7, h9⟩ := S6.out.appT (⟨2, (k : Int), mx⟩ : Lt) ((Below.refl _ _).alloc (Nat.le_refl _) _) hown8 (by simp) hg8 (by simpa using hat8)
          have S7 := Lib.hid h9
          clear hown8 hg8 hat8 h9 OW hzs S6
          clear z1 z2 z3 q0 q1 q2 qf
          go_wp2_with fail
          have HT := Lib.hid (show litsK p d (k + 1) = T ++ [(⟨1, (k : Int), mn⟩ : Lt)] ++ [(⟨2, (k : Int), mx⟩ : Lt)] ++ (diffB (rangeB (act.ms.length : Int)) md).map fun m => (⟨4, (k : Int), m⟩ : Lt) from by rw [LK.out, if_pos (show 0 < mn by have := ha1.out; omega), if_pos (show mx < p.dl - 1 by have := ha2.out; omega)]; simp)
          have hTT : (T ++ [(⟨1, (k : Int), mn⟩ : Lt)] ++ [(⟨2, (k : Int), mx⟩ : Lt)]).length ≤ 5 * k + 2 := by first | omega | (simp only [List.length_append, List.length_cons, List.length_nil]; omega)
          generalize T ++ [(⟨1, (k : Int), mn⟩ : Lt)] ++ [(⟨2, (k : Int), mx⟩ : Lt)] = TT at S7 HT hTT
          obtain ⟨c0, c1', c2', cf⟩ := (S7.out.bk 1 rfl).c3
          obtain ⟨q0, q1, q2, qf⟩ := (S7.out.bk 2 rfl).c3
          have hlc := (S7.out.bk 1 rfl).lt
          have hlq := (S7.out.bk 2 rfl).lt
          obtain ⟨z1, z2, z3⟩ := ZC.out _ S7.out.1
          have hv3 := Nat.lt_of_lt_of_le hb3 S7.out.1.size
          have S9 := Lib.hid S7.out.drew1
          clear S7 LK
          have CE := Lib.hid (fun (W : World) (h : Wr [] w7.drew W) => show Hid (Wr [] w7.drew W) ∧ W.cell? ⟨ga, 0, none⟩ = some (.string act.nm) ∧ W.cell? ⟨ga, 1, none⟩ = some (.int .i64 act.fa) ∧ W.cell? ⟨ga, 2, none⟩ = some (.slice M act.ms.length cm) ∧ W.cell? ⟨w.heap.size + 1, 2, none⟩ = some (.slice (some ⟨b3, o3, none⟩) d.md.length t3) ∧ W.cell? ⟨b3, o3 + k, none⟩ = some (.slice A5 md.length c5) from ⟨Lib.hid h, (wr_cell h (p := ⟨ga, 0, none⟩) hlc (by simp)).trans (by exact by simpa using c0), (wr_cell h (p := ⟨ga, 1, none⟩) hlc (by simp)).trans (by exact by simpa using c1'), (wr_cell h (p := ⟨ga, 2, none⟩) hlc (by simp)).trans (by exact by simpa using c2'), (wr_cell h (p := ⟨w.heap.size + 1, 2, none⟩) hlq (by simp)).trans (by exact by simpa using q2), (wr_cell h (p := ⟨b3, o3 + k, none⟩) (by show b3 < _; simpa using hv3) (by simp)).trans (by exact by simpa using z3)⟩)
          have INIT := Lib.hid (CE.out _ (Wr.refl _ _))
          have KW := Lib.hid (fun (W2 W : World) (hb : Wr [] W W2) (h : Hid (Wr [] w7.drew W) ∧ W.cell? ⟨ga, 0, none⟩ = some (.string act.nm) ∧ W.cell? ⟨ga, 1, none⟩ = some (.int .i64 act.fa) ∧ W.cell? ⟨ga, 2, none⟩ = some (.slice M act.ms.length cm) ∧ W.cell? ⟨w.heap.size + 1, 2, none⟩ = some (.slice (some ⟨b3, o3, none⟩) d.md.length t3) ∧ W.cell? ⟨b3, o3 + k, none⟩ = some (.slice A5 md.length c5)) => CE.out W2 (h.1.out.trans hb))
          clear c0 c1' c2' cf q0 q1 q2 qf z1 z2 z3 hlc hlq hv3
          refine wp_region_held_drew (S := fun W => Hid (Wr [] w7.drew W) ∧ W.cell? ⟨ga, 0, none⟩ = some (.string act.nm) ∧ W.cell? ⟨ga, 1, none⟩ = some (.int .i64 act.fa) ∧ W.cell? ⟨ga, 2, none⟩ = some (.slice M act.ms.length cm) ∧ W.cell? ⟨w.heap.size + 1, 2, none⟩ = some (.slice (some ⟨b3, o3, none⟩) d.md.length t3) ∧ W.cell? ⟨b3, o3 + k, none⟩ = some (.slice A5 md.length c5)) (by kernel_rfl) INIT.out (fun hHeld => ?_)
          clear CE INIT
          refine wpAnyH_take (i := 0) (v := ?_) rfl (by kernel_rfl) (by kernel_rfl) (by kernel_rfl) (fun _ _ _ h => h) (Or.inl ⟨by rfl, ?_⟩) (by assumption) ?_
          rotate_left
          · (intro W hSw; (try dsimp only at hSw); go_simp <;> with_reducible rfl)
          (try simp only [Act.put, List.getElem_toArray, List.getElem_cons_zero, List.setIfInBounds_toArray, List.set_cons_succ, List.set_cons_zero])
          refine wpAnyH_take (i := 2) (v := ?_) rfl (by kernel_rfl) (by kernel_rfl) (by kernel_rfl) (fun _ _ _ h => h) (Or.inl ⟨by rfl, ?_⟩) (by assumption) ?_
          rotate_left
          · (intro W hSw; (try dsimp only at hSw); go_simp <;> with_reducible rfl)
          (try simp only [Act.put, List.getElem_toArray, List.getElem_cons_succ, List.getElem_cons_zero, List.setIfInBounds_toArray, List.set_cons_succ, List.set_cons_zero])
          refine wpAnyH_take (i := 3) (v := ?_) rfl (by kernel_rfl) (by kernel_rfl) (by kernel_rfl) (fun _ _ _ h => h) (Or.inl ⟨by rfl, ?_⟩) (by assumption) ?_
          rotate_left
          · (intro W hSw; (try dsimp only at hSw); go_simp <;> with_reducible rfl)
          (try simp only [Act.put, List.getElem_toArray, List.getElem_cons_succ, List.getElem_cons_zero, List.setIfInBounds_toArray, List.set_cons_succ, List.set_cons_zero])
          refine wpAnyH_take (i := 4) (v := ?_) rfl (by kernel_rfl) (by kernel_rfl) (by kernel_rfl) (fun _ _ _ h => h) (Or.inl ⟨by rfl, ?_⟩) (by assumption) ?_
          rotate_left
          · (intro W hSw; (try dsimp only at hSw); go_simp <;> with_reducible rfl)
          (try simp only [Act.put, List.getElem_toArray, List.getElem_cons_succ, List.getElem_cons_zero, List.setIfInBounds_toArray, List.set_cons_succ, List.set_cons_zero])
          refine wpAnyH_take (i := 5) (v := ?_) rfl (by kernel_rfl) (by kernel_rfl) (by kernel_rfl) (fun _ _ _ h => h) (Or.inl ⟨by rfl, ?_⟩) (by assumption) ?_
          rotate_left
          · (intro W hSw; (try dsimp only at hSw); go_simp <;> with_reducible rfl)
          (try simp only [Act.put, List.getElem_toArray, List.getElem_cons_succ, List.getElem_cons_zero, List.setIfInBounds_toArray, List.set_cons_succ, List.set_cons_zero])
          refine wpAnyH_take (i := 6) (v := ?_) rfl (by kernel_rfl) (by kernel_rfl) (by kernel_rfl) (fun _ _ _ h => h) (Or.inl ⟨by rfl, ?_⟩) (by assumption) ?_
          rotate_left
          · (intro W hSw; (try dsimp only at hSw); go_simp <;> with_reducible rfl)
          (try simp only [Act.put, List.getElem_toArray, List.getElem_cons_succ, List.getElem_cons_zero, List.setIfInBounds_toArray, List.set_cons_succ, List.set_cons_zero])
          refine wpAnyH_take (i := 9) (v := ?_) rfl (by kernel_rfl) (by kernel_rfl) (by kernel_rfl) (fun _ _ _ h => h) (Or.inl ⟨by rfl, ?_⟩) (by assumption) ?_
          rotate_left
          · (intro W hSw; (try dsimp only at hSw); go_simp <;> with_reducible rfl)
          (try simp only [Act.put, List.getElem_toArray, List.getElem_cons_succ, List.getElem_cons_zero, List.setIfInBounds_toArray, List.set_cons_succ, List.set_cons_zero])
          refine wpAnyH_ready (rs := [1]) (by kernel_rfl) (by simp) ?_
          refine AllReadyH.cons rfl (fun K hK => ?_) AllReadyH.nil
          go_simp
          refine (specModeIndexes_any act _ _ (by exact Tr.rd_below S9.out.1 (Nat.le_refl _) _ _ RA.out)).mono ?_
          rintro e wm ⟨vm, rfl, om, bb⟩
          have S10 := Lib.hid (S9.out.new (flat_own (by simpa using om)).1 (flat_own om).2 bb)
          obtain ⟨AM, aM, rfl⟩ : ∃ A c, vm = .slice A (rangeB (act.ms.length : Int)).length c := slice_ints (S10.out.rd 0 rfl)
          have NR := Lib.hid (nil_int (S10.out.own 0 rfl).1)
          have RR := Lib.hid (rd_flat (S10.out.rd 0 rfl))
          (first | done | go_wp2_with fail | skip)
          refine hK.out _ _ (KW.out _ _ (Wr.of_below bb (Nat.le_refl _)) (by assumption)) (fun hHeld1 => ?_)
          clear hK K bb om S9
          refine wpAnyH_ready (rs := [7]) (by kernel_rfl) (by simp) ?_
          refine AllReadyH.cons rfl (fun K hK => ?_) AllReadyH.nil
          go_simp
          have hrl := range_le act.ms.length
          refine (specDiff_any (rangeB (act.ms.length : Int)) md _ _ _ (by exact RR.out) (by exact RM.out.below S10.out.1 (Nat.le_refl _)) (by omega)).mono ?_
          rintro e wd ⟨vd, rfl, od, bb⟩
          have S11 := Lib.hid ((S10.out.new (flat_own (by simpa using od)).1 (flat_own od).2 bb).drop 1)
          simp only [List.eraseIdx_cons_succ, List.eraseIdx_cons_zero] at S11
          have hdl2 := Nat.le_trans (diff_len (rangeB (act.ms.length : Int)) md) hrl
          obtain ⟨AD, aD, rfl⟩ : ∃ A c, vd = .slice A (diffB (rangeB (act.ms.length : Int)) md).length c := slice_ints (S11.out.rd 0 rfl)
          (first | done | go_wp2_with fail | skip)
          refine hK.out _ _ (KW.out _ _ (Wr.of_below bb (Nat.le_refl _)) (by assumption)) (fun hHeld7 => ?_)
          clear hK K bb od S10 NR RR
          refine wpAnyH_take (i := 8) (v := ?_) rfl (by kernel_rfl) (by kernel_rfl) (by kernel_rfl) (fun _ _ _ h => h) (Or.inl ⟨by rfl, ?_⟩) (by assumption) ?_
          rotate_left
          · (intro W hSw; (try dsimp only at hSw); go_simp <;> with_reducible rfl)
          (try simp only [Act.put, List.getElem_toArray, List.getElem_cons_succ, List.getElem_cons_zero, List.setIfInBounds_toArray, List.set_cons_succ, List.set_cons_zero])
          refine wpAnyH_done (by kernel_rfl) ?_ _
          generalize diffB (rangeB (act.ms.length : Int)) md = DD at S11 HT hdl2 ⊢
          have S12 := Lib.hid (S11.out.pick 1 rfl)
          simp only [List.eraseIdx_cons_succ, List.eraseIdx_cons_zero] at S12
          clear S11 hHeld hHeld1 hHeld7 KW
          go_wp2_with fail
          go_loopw [5, 67] (fun u i wz => ∃ (j : Nat) (F : List Nat) (FD : List Nat), j ≤ DD.length ∧ i = .int .i64 j ∧ Sn w wz [⟨rowT (TT ++ (DD.take j).map fun m => (⟨4, (k : Int), m⟩ : Lt)), u, F⟩, ⟨trI DD, .slice AD DD.length aD, FD⟩, boxI ga 58 [.string act.nm, .int .i64 act.fa, .slice M act.ms.length cm], boxI (w.heap.size + 1) 41 [.slice (some ⟨b1, o1, none⟩) d.mn.length t1, .slice (some ⟨b2, o2, none⟩) d.mx.length t2, .slice (some ⟨b3, o3, none⟩) d.md.length t3], boxI w.heap.size 39 [.int .i64 p.dl, .slice (some ⟨b4, o4, none⟩) p.acts.length c1, .slice A2 p.lks.length c2, .slice A3 p.ress.length c3, .slice A4 p.stk.length c4]]) (fun _ i _ => DD.length - (intOf i).toNat)
          case atStart => exact ⟨0, _, _, Nat.zero_le _, rfl, by simpa using S12.out⟩
          case round =>
            obtain ⟨j, FF, FD, hjl, rfl, hS⟩ := hrel
            have S13 := Lib.hid hS
            clear hS S12
            by_cases hjt : j < DD.length
            · have hjt' : (j : Int) < (DD.length : Int) := by omega
              have j0 : (0 : Int) ≤ (j : Int) := by omega
              have NX := Lib.hid (take_map_snoc (f := fun m => (⟨4, (k : Int), m⟩ : Lt)) hjt)
              have hjn : ((DD.take j).map fun m => (⟨4, (k : Int), m⟩ : Lt)).length = j := by rw [List.length_map, List.length_take]; omega
              obtain ⟨_, B9, q9, he9, y9⟩ := rdI (rd_flat (S13.out.rd 1 rfl))
              injection he9 with he9 _ he8
              subst he9 he8
              obtain ⟨b9, o9, rfl, hb9, hc9⟩ := y9 j hjt
              have z9 := hc9 j hjt
              generalize DD[j] = m9 at z9 NX
              have hT2 : (TT ++ (DD.take j).map fun m => (⟨4, (k : Int), m⟩ : Lt)).length = TT.length + j := by rw [List.length_append, hjn]
              clear hc9 y9 hb9
              have NX2 := Lib.hid (show (TT ++ (DD.take j).map fun m => (⟨4, (k : Int), m⟩ : Lt)) ++ [⟨4, (k : Int), m9⟩] = TT ++ (DD.take (j + 1)).map fun m => (⟨4, (k : Int), m⟩ : Lt) from by rw [List.append_assoc, NX.out])
              generalize (TT ++ (DD.take j).map fun m => (⟨4, (k : Int), m⟩ : Lt)) = TJ at S13 hT2 NX2
              have OW := Lib.hid (S13.out.ownT)
              rw [hT2] at OW
              have hzs := S13.out.1.size
              go_wp2_with (first | (at_builtin; refine wpList_append_own_at _ rfl (.tmp 71) (.tmp 75) 33 rfl w.heap.size 60 i0 (.agg #[.int .i64 0, .int .i64 0, .int .i64 0]) 3 24 Tryz.underlying33 hi0 hz0 hz1 hz2 rfl (by decide) _ (TT.length + j) (cells3 (TJ)) rfl (by exact OW.out.alloc _) ⟨_, 0, none⟩ 1 1 [.int .i64 4, .int .i64 (k : Int), .int .i64 m9] rfl rfl ?cq101 ?cq102 ?cq103 ?cq104 ?cq105 ?_) | fail)
              try case cq101 => (intro j u hj; have h9 := three_cells wz (.int .i64 4) (.int .i64 (k : Int)) (.int .i64 m9) 60 j u hj; first | exact h9 | simpa only [World.size_alloc] using h9)
              try case cq102 => simp [Value.oneCell']
              try case cq103 => unfold maxLen; omega
              try case cq104 => omega
              try case cq105 => first | omega | (simp at hzs ⊢; omega)
              intro v8 w14 hown8 hg8 _ hat8
              obtain ⟨F14, h9⟩ := S13.out.appT (⟨4, (k : Int), m9⟩ : Lt) ((Below.refl _ _).alloc (Nat.le_refl _) _) hown8 (by rw [hT2]) hg8 (by simpa using hat8)
              have S14 := Lib.hid h9
              clear hown8 hg8 hat8 h9 OW hzs S13
              rw [NX2.out] at S14
              go_wp2
              go_roundw
              case rel => exact ⟨j + 1, F14, FD, by omega, by go_num, S14.out⟩
              case measure => simp [intOf]; omega
            · have hjge : ¬ (j : Int) < (DD.length : Int) := by omega
              obtain rfl : j = DD.length := by omega
              rw [List.take_length, ← HT.out] at S13
              go_wp2
              go_roundw
              case rel => exact ⟨k + 1, FF, by omega, by go_num, (S13.out.drop 1).drop 1⟩
              case measure => simp [intOf]; omega
        · have ha2 := Lib.hid a2
          go_wp2_with fail
          go_quiet (fail)
          generalize hwq : World.drewN _ _ = wq
          have hbq : Below w5.heap.size w5 wq := hwq ▸ below_drewN (Below.refl _ _) _
          have S6 := Lib.hid (S5.out.go hbq)
          clear hwq hbq S5 z1 z2 z3 q0 q1 q2 qf e0 e1 e2 e3 e4 ef
          go_wp2_with fail
          have HT := Lib.hid (show litsK p d (k + 1) = T ++ [(⟨1, (k : Int), mn⟩ : Lt)] ++ (diffB (rangeB (act.ms.length : Int)) md).map fun m => (⟨4, (k : Int), m⟩ : Lt) from by rw [LK.out, if_pos (show 0 < mn by have := ha1.out; omega), if_neg (show ¬ mx < p.dl - 1 by have := ha2.out; omega)]; simp)
          have hTT : (T ++ [(⟨1, (k : Int), mn⟩ : Lt)]).length ≤ 5 * k + 2 := by first | omega | (simp only [List.length_append, List.length_cons, List.length_nil]; omega)
          generalize T ++ [(⟨1, (k : Int), mn⟩ : Lt)] = TT at S6 HT hTT
          obtain ⟨c0, c1', c2', cf⟩ := (S6.out.bk 1 rfl).c3
          obtain ⟨q0, q1, q2, qf⟩ := (S6.out.bk 2 rfl).c3
          have hlc := (S6.out.bk 1 rfl).lt
          have hlq := (S6.out.bk 2 rfl).lt
          obtain ⟨z1, z2, z3⟩ := ZC.out _ S6.out.1
          have hv3 := Nat.lt_of_lt_of_le hb3 S6.out.1.size
          have S9 := Lib.hid S6.out.drew1
          clear S6 LK
          have CE := Lib.hid (fun (W : World) (h : Wr [] wq.drew W) => show Hid (Wr [] wq.drew W) ∧ W.cell? ⟨ga, 0, none⟩ = some (.string act.nm) ∧ W.cell? ⟨ga, 1, none⟩ = some (.int .i64 act.fa) ∧ W.cell? ⟨ga, 2, none⟩ = some (.slice M act.ms.length cm) ∧ W.cell? ⟨w.heap.size + 1, 2, none⟩ = some (.slice (some ⟨b3, o3, none⟩) d.md.length t3) ∧ W.cell? ⟨b3, o3 + k, none⟩ = some (.slice A5 md.length c5) from ⟨Lib.hid h, (wr_cell h (p := ⟨ga, 0, none⟩) hlc (by simp)).trans (by exact by simpa using c0), (wr_cell h (p := ⟨ga, 1, none⟩) hlc (by simp)).trans (by exact by simpa using c1'), (wr_cell h (p := ⟨ga, 2, none⟩) hlc (by simp)).trans (by exact by simpa using c2'), (wr_cell h (p := ⟨w.heap.size + 1, 2, none⟩) hlq (by simp)).trans (by exact by simpa using q2), (wr_cell h (p := ⟨b3, o3 + k, none⟩) (by show b3 < _; simpa using hv3) (by simp)).trans (by exact by simpa using z3)⟩)
          have INIT := Lib.hid (CE.out _ (Wr.refl _ _))
          have KW := Lib.hid (fun (W2 W : World) (hb : Wr [] W W2) (h : Hid (Wr [] wq.drew W) ∧ W.cell? ⟨ga, 0, none⟩ = some (.string act.nm) ∧ W.cell? ⟨ga, 1, none⟩ = some (.int .i64 act.fa) ∧ W.cell? ⟨ga, 2, none⟩ = some (.slice M act.ms.length cm) ∧ W.cell? ⟨w.heap.size + 1, 2, none⟩ = some (.slice (some ⟨b3, o3, none⟩) d.md.length t3) ∧ W.cell? ⟨b3, o3 + k, none⟩ = some (.slice A5 md.length c5)) => CE.out W2 (h.1.out.trans hb))
          clear c0 c1' c2' cf q0 q1 q2 qf z1 z2 z3 hlc hlq hv3
          refine wp_region_held_drew (S := fun W => Hid (Wr [] wq.drew W) ∧ W.cell? ⟨ga, 0, none⟩ = some (.string act.nm) ∧ W.cell? ⟨ga, 1, none⟩ = some (.int .i64 act.fa) ∧ W.cell? ⟨ga, 2, none⟩ = some (.slice M act.ms.length cm) ∧ W.cell? ⟨w.heap.size + 1, 2, none⟩ = some (.slice (some ⟨b3, o3, none⟩) d.md.length t3) ∧ W.cell? ⟨b3, o3 + k, none⟩ = some (.slice A5 md.length c5)) (by kernel_rfl) INIT.out (fun hHeld => ?_)
          clear CE INIT
          refine wpAnyH_take (i := 0) (v := ?_) rfl (by kernel_rfl) (by kernel_rfl) (by kernel_rfl) (fun _ _ _ h => h) (Or.inl ⟨by rfl, ?_⟩) (by assumption) ?_
          rotate_left
          · (intro W hSw; (try dsimp only at hSw); go_simp <;> with_reducible rfl)
          (try simp only [Act.put, List.getElem_toArray, List.getElem_cons_zero, List.setIfInBounds_toArray, List.set_cons_succ, List.set_cons_zero])
          refine wpAnyH_take (i := 2) (v := ?_) rfl (by kernel_rfl) (by kernel_rfl) (by kernel_rfl) (fun _ _ _ h => h) (Or.inl ⟨by rfl, ?_⟩) (by assumption) ?_
          rotate_left
          · (intro W hSw; (try dsimp only at hSw); go_simp <;> with_reducible rfl)
          (try simp only [Act.put, List.getElem_toArray, List.getElem_cons_succ, List.getElem_cons_zero, List.setIfInBounds_toArray, List.set_cons_succ, List.set_cons_zero])
          refine wpAnyH_take (i := 3) (v := ?_) rfl (by kernel_rfl) (by kernel_rfl) (by kernel_rfl) (fun _ _ _ h => h) (Or.inl ⟨by rfl, ?_⟩) (by assumption) ?_
          rotate_left
          · (intro W hSw; (try dsimp only at hSw); go_simp <;> with_reducible rfl)
          (try simp only [Act.put, List.getElem_toArray, List.getElem_cons_succ, List.getElem_cons_zero, List.setIfInBounds_toArray, List.set_cons_succ, List.set_cons_zero])
          refine wpAnyH_take (i := 4) (v := ?_) rfl (by kernel_rfl) (by kernel_rfl) (by kernel_rfl) (fun _ _ _ h => h) (Or.inl ⟨by rfl, ?_⟩) (by assumption) ?_
          rotate_left
          · (intro W hSw; (try dsimp only at hSw); go_simp <;> with_reducible rfl)
          (try simp only [Act.put, List.getElem_toArray, List.getElem_cons_succ, List.getElem_cons_zero, List.setIfInBounds_toArray, List.set_cons_succ, List.set_cons_zero])
          refine wpAnyH_take (i := 5) (v := ?_) rfl (by kernel_rfl) (by kernel_rfl) (by kernel_rfl) (fun _ _ _ h => h) (Or.inl ⟨by rfl, ?_⟩) (by assumption) ?_
          rotate_left
          · (intro W hSw; (try dsimp only at hSw); go_simp <;> with_reducible rfl)
          (try simp only [Act.put, List.getElem_toArray, List.getElem_cons_succ, List.getElem_cons_zero, List.setIfInBounds_toArray, List.set_cons_succ, List.set_cons_zero])
          refine wpAnyH_take (i := 6) (v := ?_) rfl (by kernel_rfl) (by kernel_rfl) (by kernel_rfl) (fun _ _ _ h => h) (Or.inl ⟨by rfl, ?_⟩) (by assumption) ?_
          rotate_left
          · (intro W hSw; (try dsimp only at hSw); go_simp <;> with_reducible rfl)
          (try simp only [Act.put, List.getElem_toArray, List.getElem_cons_succ, List.getElem_cons_zero, List.setIfInBounds_toArray, List.set_cons_succ, List.set_cons_zero])
          refine wpAnyH_take (i := 9) (v := ?_) rfl (by kernel_rfl) (by kernel_rfl) (by kernel_rfl) (fun _ _ _ h => h) (Or.inl ⟨by rfl, ?_⟩) (by assumption) ?_
          rotate_left
          · (intro W hSw; (try dsimp only at hSw); go_simp <;> with_reducible rfl)
          (try simp only [Act.put, List.getElem_toArray, List.getElem_cons_succ, List.getElem_cons_zero, List.setIfInBounds_toArray, List.set_cons_succ, List.set_cons_zero])
          refine wpAnyH_ready (rs := [1]) (by kernel_rfl) (by simp) ?_
          refine AllReadyH.cons rfl (fun K hK => ?_) AllReadyH.nil
          go_simp
          refine (specModeIndexes_any act _ _ (by exact Tr.rd_below S9.out.1 (Nat.le_refl _) _ _ RA.out)).mono ?_
          rintro e wm ⟨vm, rfl, om, bb⟩
          have S10 := Lib.hid (S9.out.new (flat_own (by simpa using om)).1 (flat_own om).2 bb)
          obtain ⟨AM, aM, rfl⟩ : ∃ A c, vm = .slice A (rangeB (act.ms.length : Int)).length c := slice_ints (S10.out.rd 0 rfl)
          have NR := Lib.hid (nil_int (S10.out.own 0 rfl).1)
          have RR := Lib.hid (rd_flat (S10.out.rd 0 rfl))
          (first | done | go_wp2_with fail | skip)
          refine hK.out _ _ (KW.out _ _ (Wr.of_below bb (Nat.le_refl _)) (by assumption)) (fun hHeld1 => ?_)
          clear hK K bb om S9
          refine wpAnyH_ready (rs := [7]) (by kernel_rfl) (by simp) ?_
          refine AllReadyH.cons rfl (fun K hK => ?_) AllReadyH.nil
          go_simp
          have hrl := range_le act.ms.length
          refine (specDiff_any (rangeB (act.ms.length : Int)) md _ _ _ (by exact RR.out) (by exact RM.out.below S10.out.1 (Nat.le_refl _)) (by omega)).mono ?_
          rintro e wd ⟨vd, rfl, od, bb⟩
          have S11 := Lib.hid ((S10.out.new (flat_own (by simpa using od)).1 (flat_own od).2 bb).drop 1)
          simp only [List.eraseIdx_cons_succ, List.eraseIdx_cons_zero] at S11
          have hdl2 := Nat.le_trans (diff_len (rangeB (act.ms.length : Int)) md) hrl
          obtain ⟨AD, aD, rfl⟩ : ∃ A c, vd = .slice A (diffB (rangeB (act.ms.length : Int)) md).length c := slice_ints (S11.out.rd 0 rfl)
          (first | done | go_wp2_with fail | skip)
          refine hK.out _ _ (KW.out _ _ (Wr.of_below bb (Nat.le_refl _)) (by assumption)) (fun hHeld7 => ?_)
          clear hK K bb od S10 NR RR
          refine wpAnyH_take (i := 8) (v := ?_) rfl (by kernel_rfl) (by kernel_rfl) (by kernel_rfl) (fun _ _ _ h => h) (Or.inl ⟨by rfl, ?_⟩) (by assumption) ?_
          rotate_left
          · (intro W hSw; (try dsimp only at hSw); go_simp <;> with_reducible rfl)
          (try simp only [Act.put, List.getElem_toArray, List.getElem_cons_succ, List.getElem_cons_zero, List.setIfInBounds_toArray, List.set_cons_succ, List.set_cons_zero])
          refine wpAnyH_done (by kernel_rfl) ?_ _
          generalize diffB (rangeB (act.ms.length : Int)) md = DD at S11 HT hdl2 ⊢
          have S12 := Lib.hid (S11.out.pick 1 rfl)
          simp only [List.eraseIdx_cons_succ, List.eraseIdx_cons_zero] at S12
          clear S11 hHeld hHeld1 hHeld7 KW
          go_wp2_with fail
          go_loopw [5, 67] (fun u i wz => ∃ (j : Nat) (F : List Nat) (FD : List Nat), j ≤ DD.length ∧ i = .int .i64 j ∧ Sn w wz [⟨rowT (TT ++ (DD.take j).map fun m => (⟨4, (k : Int), m⟩ : Lt)), u, F⟩, ⟨trI DD, .slice AD DD.length aD, FD⟩, boxI ga 58 [.string act.nm, .int .i64 act.fa, .slice M act.ms.length cm], boxI (w.heap.size + 1) 41 [.slice (some ⟨b1, o1, none⟩) d.mn.length t1, .slice (some ⟨b2, o2, none⟩) d.mx.length t2, .slice (some ⟨b3, o3, none⟩) d.md.length t3], boxI w.heap.size 39 [.int .i64 p.dl, .slice (some ⟨b4, o4, none⟩) p.acts.length c1, .slice A2 p.lks.length c2, .slice A3 p.ress.length c3, .slice A4 p.stk.length c4]]) (fun _ i _ => DD.length - (intOf i).toNat)
          case atStart => exact ⟨0, _, _, Nat.zero_le _, rfl, by simpa using S12.out⟩
          case round =>
            obtain ⟨j, FF, FD, hjl, rfl, hS⟩ := hrel
            have S13 := Lib.hid hS
            clear hS S12
            by_cases hjt : j < DD.length
            · have hjt' : (j : Int) < (DD.length : Int) := by omega
              have j0 : (0 : Int) ≤ (j : Int) := by omega
              have NX := Lib.hid (take_map_snoc (f := fun m => (⟨4, (k : Int), m⟩ : Lt)) hjt)
              have hjn : ((DD.take j).map fun m => (⟨4, (k : Int), m⟩ : Lt)).length = j := by rw [List.length_map, List.length_take]; omega
              obtain ⟨_, B9, q9, he9, y9⟩ := rdI (rd_flat (S13.out.rd 1 rfl))
              injection he9 with he9 _ he8
              subst he9 he8
              obtain ⟨b9, o9, rfl, hb9, hc9⟩ := y9 j hjt
              have z9 := hc9 j hjt
              generalize DD[j] = m9 at z9 NX
              have hT2 : (TT ++ (DD.take j).map fun m => (⟨4, (k : Int), m⟩ : Lt)).length = TT.length + j := by rw [List.length_append, hjn]
              clear hc9 y9 hb9
              have NX2 := Lib.hid (show (TT ++ (DD.take j).map fun m => (⟨4, (k : Int), m⟩ : Lt)) ++ [⟨4, (k : Int), m9⟩] = TT ++ (DD.take (j + 1)).map fun m => (⟨4, (k : Int), m⟩ : Lt) from by rw [List.append_assoc, NX.out])
              generalize (TT ++ (DD.take j).map fun m => (⟨4, (k : Int), m⟩ : Lt)) = TJ at S13 hT2 NX2
              have OW := Lib.hid (S13.out.ownT)
              rw [hT2] at OW
              have hzs := S13.out.1.size
              go_wp2_with (first | (at_builtin; refine wpList_append_own_at _ rfl (.tmp 71) (.tmp 75) 33 rfl w.heap.size 60 i0 (.agg #[.int .i64 0, .int .i64 0, .int .i64 0]) 3 24 Tryz.underlying33 hi0 hz0 hz1 hz2 rfl (by decide) _ (TT.length + j) (cells3 (TJ)) rfl (by exact OW.out.alloc _) ⟨_, 0, none⟩ 1 1 [.int .i64 4, .int .i64 (k : Int), .int .i64 m9] rfl rfl ?cq111 ?cq112 ?cq113 ?cq114 ?cq115 ?_) | fail)
              try case cq111 => (intro j u hj; have h9 := three_cells wz (.int .i64 4) (.int .i64 (k : Int)) (.int .i64 m9) 60 j u hj; first | exact h9 | simpa only [World.size_alloc] using h9)
              try case cq112 => simp [Value.oneCell']
              try case cq113 => unfold maxLen; omega
              try case cq114 => omega
              try case cq115 => first | omega | (simp at hzs ⊢; omega)
              intro v8 w14 hown8 hg8 _ hat8
              obtain ⟨F14, h9⟩ := S13.out.appT (⟨4, (k : Int), m9⟩ : Lt) ((Below.refl _ _).alloc (Nat.le_refl _) _) hown8 (by rw [hT2]) hg8 (by simpa using hat8)
              have S14 := Lib.hid h9
              clear hown8 hg8 hat8 h9 OW hzs S13
              rw [NX2.out] at S14
              go_wp2
              go_roundw
              case rel => exact ⟨j + 1, F14, FD, by omega, by go_num, S14.out⟩
              case measure => simp [intOf]; omega
            · have hjge : ¬ (j : Int) < (DD.length : Int) := by omega
              obtain rfl : j = DD.length := by omega
              rw [List.take_length, ← HT.out] at S13
              go_wp2
              go_roundw
              case rel => exact ⟨k + 1, FF, by omega, by go_num, (S13.out.drop 1).drop 1⟩
              case measure => simp [intOf]; omega
      · have ha1 := Lib.hid a1
        go_wp2_with fail
        generalize hwa : World.alloc wr _ = wa at S4 z1 z2 z3 q0 q1 q2 qf e0 e1 e2 e3 e4 ef ⊢
        clear hwa hga
        by_cases a2 : mx < p.dl - 1
        · have ha2 := Lib.hid a2
          go_wp2_with fail
          go_quiet (fail)
          generalize hwq : World.drewN _ _ = wq
          have hbq : Below wa.heap.size wa wq := hwq ▸ below_drewN (Below.refl _ _) _
          have S6 := Lib.hid (S4.out.go hbq)
          clear hwq hbq S4 z1 z2 z3 q0 q1 q2 qf e0 e1 e2 e3 e4 ef
          obtain ⟨z1, z2, z3⟩ := ZC.out _ S6.out.1
          obtain ⟨q0, q1, q2, qf⟩ := (S6.out.bk 2 rfl).c3
          have OW := Lib.hid (S6.out.ownT)
          have hzs := S6.out.1.size
          go_wp2_with (first | (at_builtin; refine wpList_append_own_at _ rfl (.tmp 48) (.tmp 56) 33 rfl w.heap.size 60 i0 (.agg #[.int .i64 0, .int .i64 0, .int .i64 0]) 3 24 Tryz.underlying33 hi0 hz0 hz1 hz2 rfl (by decide) _ ((T).length) (cells3 (T)) rfl (by exact OW.out.alloc _) ⟨_, 0, none⟩ 1 1 [.int .i64 2, .int .i64 (k : Int), .int .i64 mx] rfl rfl ?cq121 ?cq122 ?cq123 ?cq124 ?cq125 ?_) | fail)
          try case cq121 => (intro j u hj; have h9 := three_cells wq (.int .i64 2) (.int .i64 (k : Int)) (.int .i64 mx) 60 j u hj; first | exact h9 | simpa only [World.size_alloc] using h9)
          try case cq122 => simp [Value.oneCell']
          try case cq123 => unfold maxLen; omega
          try case cq124 => omega
          try case cq125 => first | omega | (simp at hzs ⊢; omega)
          intro v8 w7 hown8 hg8 _ hat8
          obtain ⟨F7, h9⟩ := S6.out.appT (⟨2, (k : Int), mx⟩ : Lt) ((Below.refl _ _).alloc (Nat.le_refl _) _) hown8 (by simp) hg8 (by simpa using hat8)
          have S7 := Lib.hid h9
          clear hown8 hg8 hat8 h9 OW hzs S6
          clear z1 z2 z3 q0 q1 q2 qf
          go_wp2_with fail
          have HT := Lib.hid (show litsK p d (k + 1) = T ++ [(⟨2, (k : Int), mx⟩ : Lt)] ++ (diffB (rangeB (act.ms.length : Int)) md).map fun m => (⟨4, (k : Int), m⟩ : Lt) from by rw [LK.out, if_neg (show ¬ 0 < mn by have := ha1.out; omega), if_pos (show mx < p.dl - 1 by have := ha2.out; omega)]; simp)
          have hTT : (T ++ [(⟨2, (k : Int), mx⟩ : Lt)]).length ≤ 5 * k + 2 := by first | omega | (simp only [List.length_append, List.length_cons, List.length_nil]; omega)
          generalize T ++ [(⟨2, (k : Int), mx⟩ : Lt)] = TT at S7 HT hTT
          obtain ⟨c0, c1', c2', cf⟩ := (S7.out.bk 1 rfl).c3
          obtain ⟨q0, q1, q2, qf⟩ := (S7.out.bk 2 rfl).c3
          have hlc := (S7.out.bk 1 rfl).lt
          have hlq := (S7.out.bk 2 rfl).lt
          obtain ⟨z1, z2, z3⟩ := ZC.out _ S7.out.1
          have hv3 := Nat.lt_of_lt_of_le hb3 S7.out.1.size
          have S9 := Lib.hid S7.out.drew1
          clear S7 LK
          have CE := Lib.hid (fun (W : World) (h : Wr [] w7.drew W) => show Hid (Wr [] w7.drew W) ∧ W.cell? ⟨ga, 0, none⟩ = some (.string act.nm) ∧ W.cell? ⟨ga, 1, none⟩ = some (.int .i64 act.fa) ∧ W.cell? ⟨ga, 2, none⟩ = some (.slice M act.ms.length cm) ∧ W.cell? ⟨w.heap.size + 1, 2, none⟩ = some (.slice (some ⟨b3, o3, none⟩) d.md.length t3) ∧ W.cell? ⟨b3, o3 + k, none⟩ = some (.slice A5 md.length c5) from ⟨Lib.hid h, (wr_cell h (p := ⟨ga, 0, none⟩) hlc (by simp)).trans (by exact by simpa using c0), (wr_cell h (p := ⟨ga, 1, none⟩) hlc (by simp)).trans (by exact by simpa using c1'), (wr_cell h (p := ⟨ga, 2, none⟩) hlc (by simp)).trans (by exact by simpa using c2'), (wr_cell h (p := ⟨w.heap.size + 1, 2, none⟩) hlq (by simp)).trans (by exact by simpa using q2), (wr_cell h (p := ⟨b3, o3 + k, none⟩) (by show b3 < _; simpa using hv3) (by simp)).trans (by exact by simpa using z3)⟩)
          have INIT := Lib.hid (CE.out _ (Wr.refl _ _))
          have KW := Lib.hid (fun (W2 W : World) (hb : Wr [] W W2) (h : Hid (Wr [] w7.drew W) ∧ W.cell? ⟨ga, 0, none⟩ = some (.string act.nm) ∧ W.cell? ⟨ga, 1, none⟩ = some (.int .i64 act.fa) ∧ W.cell? ⟨ga, 2, none⟩ = some (.slice M act.ms.length cm) ∧ W.cell? ⟨w.heap.size + 1, 2, none⟩ = some (.slice (some ⟨b3, o3, none⟩) d.md.length t3) ∧ W.cell? ⟨b3, o3 + k, none⟩ = some (.slice A5 md.length c5)) => CE.out W2 (h.1.out.trans hb))
          clear c0 c1' c2' cf q0 q1 q2 qf z1 z2 z3 hlc hlq hv3
          refine wp_region_held_drew (S := fun W => Hid (Wr [] w7.drew W) ∧ W.cell? ⟨ga, 0, none⟩ = some (.string act.nm) ∧ W.cell? ⟨ga, 1, none⟩ = some (.int .i64 act.fa) ∧ W.cell? ⟨ga, 2, none⟩ = some (.slice M act.ms.length cm) ∧ W.cell? ⟨w.heap.size + 1, 2, none⟩ = some (.slice (some ⟨b3, o3, none⟩) d.md.length t3) ∧ W.cell? ⟨b3, o3 + k, none⟩ = some (.slice A5 md.length c5)) (by kernel_rfl) INIT.out (fun hHeld => ?_)
          clear CE INIT
          refine wpAnyH_take (i := 0) (v := ?_) rfl (by kernel_rfl) (by kernel_rfl) (by kernel_rfl) (fun _ _ _ h => h) (Or.inl ⟨by rfl, ?_⟩) (by assumption) ?_
          rotate_left
          · (intro W hSw; (try dsimp only at hSw); go_simp <;> with_reducible rfl)
          (try simp only [Act.put, List.getElem_toArray, List.getElem_cons_zero, List.setIfInBounds_toArray, List.set_cons_succ, List.set_cons_zero])
          refine wpAnyH_take (i := 2) (v := ?_) rfl (by kernel_rfl) (by kernel_rfl) (by kernel_rfl) (fun _ _ _ h => h) (Or.inl ⟨by rfl, ?_⟩) (by assumption) ?_
          rotate_left
          · (intro W hSw; (try dsimp only at hSw); go_simp <;> with_reducible rfl)
          (try simp only [Act.put, List.getElem_toArray, List.getElem_cons_succ, List.getElem_cons_zero, List.setIfInBounds_toArray, List.set_cons_succ, List.set_cons_zero])
          refine wpAnyH_take (i := 3) (v := ?_) rfl (by kernel_rfl) (by kernel_rfl) (by kernel_rfl) (fun _ _ _ h => h) (Or.inl ⟨by rfl, ?_⟩) (by assumption) ?_
          rotate_left
          · (intro W hSw; (try dsimp only at hSw); go_simp <;> with_reducible rfl)
          (try simp only [Act.put, List.getElem_toArray, List.getElem_cons_succ, List.getElem_cons_zero, List.setIfInBounds_toArray, List.set_cons_succ, List.set_cons_zero])
          refine wpAnyH_take (i := 4) (v := ?_) rfl (by kernel_rfl) (by kernel_rfl) (by kernel_rfl) (fun _ _ _ h => h) (Or.inl ⟨by rfl, ?_⟩) (by assumption) ?_
          rotate_left
          · (intro W hSw; (try dsimp only at hSw); go_simp <;> with_reducible rfl)
          (try simp only [Act.put, List.getElem_toArray, List.getElem_cons_succ, List.getElem_cons_zero, List.setIfInBounds_toArray, List.set_cons_succ, List.set_cons_zero])
          refine wpAnyH_take (i := 5) (v := ?_) rfl (by kernel_rfl) (by kernel_rfl) (by kernel_rfl) (fun _ _ _ h => h) (Or.inl ⟨by rfl, ?_⟩) (by assumption) ?_
          rotate_left
          · (intro W hSw; (try dsimp only at hSw); go_simp <;> with_reducible rfl)
          (try simp only [Act.put, List.getElem_toArray, List.getElem_cons_succ, List.getElem_cons_zero, List.setIfInBounds_toArray, List.set_cons_succ, List.set_cons_zero])
          refine wpAnyH_take (i := 6) (v := ?_) rfl (by kernel_rfl) (by kernel_rfl) (by kernel_rfl) (fun _ _ _ h => h) (Or.inl ⟨by rfl, ?_⟩) (by assumption) ?_
          rotate_left
          · (intro W hSw; (try dsimp only at hSw); go_simp <;> with_reducible rfl)
          (try simp only [Act.put, List.getElem_toArray, List.getElem_cons_succ, List.getElem_cons_zero, List.setIfInBounds_toArray, List.set_cons_succ, List.set_cons_zero])
          refine wpAnyH_take (i := 9) (v := ?_) rfl (by kernel_rfl) (by kernel_rfl) (by kernel_rfl) (fun _ _ _ h => h) (Or.inl ⟨by rfl, ?_⟩) (by assumption) ?_
          rotate_left
          · (intro W hSw; (try dsimp only at hSw); go_simp <;> with_reducible rfl)
          (try simp only [Act.put, List.getElem_toArray, List.getElem_cons_succ, List.getElem_cons_zero, List.setIfInBounds_toArray, List.set_cons_succ, List.set_cons_zero])
          refine wpAnyH_ready (rs := [1]) (by kernel_rfl) (by simp) ?_
          refine AllReadyH.cons rfl (fun K hK => ?_) AllReadyH.nil
          go_simp
          refine (specModeIndexes_any act _ _ (by exact Tr.rd_below S9.out.1 (Nat.le_refl _) _ _ RA.out)).mono ?_
          rintro e wm ⟨vm, rfl, om, bb⟩
          have S10 := Lib.hid (S9.out.new (flat_own (by simpa using om)).1 (flat_own om).2 bb)
          obtain ⟨AM, aM, rfl⟩ : ∃ A c, vm = .slice A (rangeB (act.ms.length : Int)).length c := slice_ints (S10.out.rd 0 rfl)
          have NR := Lib.hid (nil_int (S10.out.own 0 rfl).1)
          have RR := Lib.hid (rd_flat (S10.out.rd 0 rfl))
          (first | done | go_wp2_with fail | skip)
          refine hK.out _ _ (KW.out _ _ (Wr.of_below bb (Nat.le_refl _)) (by assumption)) (fun hHeld1 => ?_)
          clear hK K bb om S9
          refine wpAnyH_ready (rs := [7]) (by kernel_rfl) (by simp) ?_
          refine AllReadyH.cons rfl (fun K hK => ?_) AllReadyH.nil
          go_simp
          have hrl := range_le act.ms.length
          refine (specDiff_any (rangeB (act.ms.length : Int)) md _ _ _ (by exact RR.out) (by exact RM.out.below S10.out.1 (Nat.le_refl _)) (by omega)).mono ?_
          rintro e wd ⟨vd, rfl, od, bb⟩
          have S11 := Lib.hid ((S10.out.new (flat_own (by simpa using od)).1 (flat_own od).2 bb).drop 1)
          simp only [List.eraseIdx_cons_succ, List.eraseIdx_cons_zero] at S11
          have hdl2 := Nat.le_trans (diff_len (rangeB (act.ms.length : Int)) md) hrl
          obtain ⟨AD, aD, rfl⟩ : ∃ A c, vd = .slice A (diffB (rangeB (act.ms.length : Int)) md).length c := slice_ints (S11.out.rd 0 rfl)
          (first | done | go_wp2_with fail | skip)
          refine hK.out _ _ (KW.out _ _ (Wr.of_below bb (Nat.le_refl _)) (by assumption)) (fun hHeld7 => ?_)
          clear hK K bb od S10 NR RR
          refine wpAnyH_take (i := 8) (v := ?_) rfl (by kernel_rfl) (by kernel_rfl) (by kernel_rfl) (fun _ _ _ h => h) (Or.inl ⟨by rfl, ?_⟩) (by assumption) ?_
          rotate_left
          · (intro W hSw; (try dsimp only at hSw); go_simp <;> with_reducible rfl)
          (try simp only [Act.put, List.getElem_toArray, List.getElem_cons_succ, List.getElem_cons_zero, List.setIfInBounds_toArray, List.set_cons_succ, List.set_cons_zero])
          refine wpAnyH_done (by kernel_rfl) ?_ _
          generalize diffB (rangeB (act.ms.length : Int)) md = DD at S11 HT hdl2 ⊢
          have S12 := Lib.hid (S11.out.pick 1 rfl)
          simp only [List.eraseIdx_cons_succ, List.eraseIdx_cons_zero] at S12
          clear S11 hHeld hHeld1 hHeld7 KW
          go_wp2_with fail
          go_loopw [5, 67] (fun u i wz => ∃ (j : Nat) (F : List Nat) (FD : List Nat), j ≤ DD.length ∧ i = .int .i64 j ∧ Sn w wz [⟨rowT (TT ++ (DD.take j).map fun m => (⟨4, (k : Int), m⟩ : Lt)), u, F⟩, ⟨trI DD, .slice AD DD.length aD, FD⟩, boxI ga 58 [.string act.nm, .int .i64 act.fa, .slice M act.ms.length cm], boxI (w.heap.size + 1) 41 [.slice (some ⟨b1, o1, none⟩) d.mn.length t1, .slice (some ⟨b2, o2, none⟩) d.mx.length t2, .slice (some ⟨b3, o3, none⟩) d.md.length t3], boxI w.heap.size 39 [.int .i64 p.dl, .slice (some ⟨b4, o4, none⟩) p.acts.length c1, .slice A2 p.lks.length c2, .slice A3 p.ress.length c3, .slice A4 p.stk.length c4]]) (fun _ i _ => DD.length - (intOf i).toNat)
          case atStart => exact ⟨0, _, _, Nat.zero_le _, rfl, by simpa using S12.out⟩
          case round =>
            obtain ⟨j, FF, FD, hjl, rfl, hS⟩ := hrel
            have S13 := Lib.hid hS
            clear hS S12
            by_cases hjt : j < DD.length
            · have hjt' : (j : Int) < (DD.length : Int) := by omega
              have j0 : (0 : Int) ≤ (j : Int) := by omega
              have NX := Lib.hid (take_map_snoc (f := fun m => (⟨4, (k : Int), m⟩ : Lt)) hjt)
              have hjn : ((DD.take j).map fun m => (⟨4, (k : Int), m⟩ : Lt)).length = j := by rw [List.length_map, List.length_take]; omega
              obtain ⟨_, B9, q9, he9, y9⟩ := rdI (rd_flat (S13.out.rd 1 rfl))
              injection he9 with he9 _ he8
              subst he9 he8
              obtain ⟨b9, o9, rfl, hb9, hc9⟩ := y9 j hjt
              have z9 := hc9 j hjt
              generalize DD[j] = m9 at z9 NX
              have hT2 : (TT ++ (DD.take j).map fun m => (⟨4, (k : Int), m⟩ : Lt)).length = TT.length + j := by rw [List.length_append, hjn]
              clear hc9 y9 hb9
              have NX2 := Lib.hid (show (TT ++ (DD.take j).map fun m => (⟨4, (k : Int), m⟩ : Lt)) ++ [⟨4, (k : Int), m9⟩] = TT ++ (DD.take (j + 1)).map fun m => (⟨4, (k : Int), m⟩ : Lt) from by rw [List.append_assoc, NX.out])
              generalize (TT ++ (DD.take j).map fun m => (⟨4, (k : Int), m⟩ : Lt)) = TJ at S13 hT2 NX2
              have OW := Lib.hid (S13.out.ownT)
              rw [hT2] at OW
              have hzs := S13.out.1.size
              go_wp2_with (first | (at_builtin; refine wpList_append_own_at _ rfl (.tmp 71) (.tmp 75) 33 rfl w.heap.size 60 i0 (.agg #[.int .i64 0, .int .i64 0, .int .i64 0]) 3 24 Tryz.underlying33 hi0 hz0 hz1 hz2 rfl (by decide) _ (TT.length + j) (cells3 (TJ)) rfl (by exact OW.out.alloc _) ⟨_, 0, none⟩ 1 1 [.int .i64 4, .int .i64 (k : Int), .int .i64 m9] rfl rfl ?cq131 ?cq132 ?cq133 ?cq134 ?cq135 ?_) | fail)
              try case cq131 => (intro j u hj; have h9 := three_cells wz (.int .i64 4) (.int .i64 (k : Int)) (.int .i64 m9) 60 j u hj; first | exact h9 | simpa only [World.size_alloc] using h9)
              try case cq132 => simp [Value.oneCell']
              try case cq133 => unfold maxLen; omega
              try case cq134 => omega
              try case cq135 => first | omega | (simp at hzs ⊢; omega)
              intro v8 w14 hown8 hg8 _ hat8
              obtain ⟨F14, h9⟩ := S13.out.appT (⟨4, (k : Int), m9⟩ : Lt) ((Below.refl _ _).alloc (Nat.le_refl _) _) hown8 (by rw [hT2]) hg8 (by simpa using hat8)
              have S14 := Lib.hid h9
              clear hown8 hg8 hat8 h9 OW hzs S13
              rw [NX2.out] at S14
              go_wp2
              go_roundw
              case rel => exact ⟨j + 1, F14, FD, by omega, by go_num, S14.out⟩
              case measure => simp [intOf]; omega
            · have hjge : ¬ (j : Int) < (DD.length : Int) := by omega
              obtain rfl : j = DD.length := by omega
              rw [List.take_length, ← HT.out] at S13
              go_wp2
              go_roundw
              case rel => exact ⟨k + 1, FF, by omega, by go_num, (S13.out.drop 1).drop 1⟩
              case measure => simp [intOf]; omega
        · have ha2 := Lib.hid a2
          go_wp2_with fail
          go_quiet (fail)
          generalize hwq : World.drewN _ _ = wq
          have hbq : Below wa.heap.size wa wq := hwq ▸ below_drewN (Below.refl _ _) _
          have S6 := Lib.hid (S4.out.go hbq)
          clear hwq hbq S4 z1 z2 z3 q0 q1 q2 qf e0 e1 e2 e3 e4 ef
          go_wp2_with fail
          have HT := Lib.hid (show litsK p d (k + 1) = T ++ (diffB (rangeB (act.ms.length : Int)) md).map fun m => (⟨4, (k : Int), m⟩ : Lt) from by rw [LK.out, if_neg (show ¬ 0 < mn by have := ha1.out; omega), if_neg (show ¬ mx < p.dl - 1 by have := ha2.out; omega)]; simp)
          have hTT : (T).length ≤ 5 * k + 2 := by first | omega | (simp only [List.length_append, List.length_cons, List.length_nil]; omega)
          generalize T = TT at S6 HT hTT
          obtain ⟨c0, c1', c2', cf⟩ := (S6.out.bk 1 rfl).c3
          obtain ⟨q0, q1, q2, qf⟩ := (S6.out.bk 2 rfl).c3
          have hlc := (S6.out.bk 1 rfl).lt
          have hlq := (S6.out.bk 2 rfl).lt
          obtain ⟨z1, z2, z3⟩ := ZC.out _ S6.out.1
          have hv3 := Nat.lt_of_lt_of_le hb3 S6.out.1.size
          have S9 := Lib.hid S6.out.drew1
          clear S6 LK
          have CE := Lib.hid (fun (W : World) (h : Wr [] wq.drew W) => show Hid (Wr [] wq.drew W) ∧ W.cell? ⟨ga, 0, none⟩ = some (.string act.nm) ∧ W.cell? ⟨ga, 1, none⟩ = some (.int .i64 act.fa) ∧ W.cell? ⟨ga, 2, none⟩ = some (.slice M act.ms.length cm) ∧ W.cell? ⟨w.heap.size + 1, 2, none⟩ = some (.slice (some ⟨b3, o3, none⟩) d.md.length t3) ∧ W.cell? ⟨b3, o3 + k, none⟩ = some (.slice A5 md.length c5) from ⟨Lib.hid h, (wr_cell h (p := ⟨ga, 0, none⟩) hlc (by simp)).trans (by exact by simpa using c0), (wr_cell h (p := ⟨ga, 1, none⟩) hlc (by simp)).trans (by exact by simpa using c1'), (wr_cell h (p := ⟨ga, 2, none⟩) hlc (by simp)).trans (by exact by simpa using c2'), (wr_cell h (p := ⟨w.heap.size + 1, 2, none⟩) hlq (by simp)).trans (by exact by simpa using q2), (wr_cell h (p := ⟨b3, o3 + k, none⟩) (by show b3 < _; simpa using hv3) (by simp)).trans (by exact by simpa using z3)⟩)
          have INIT := Lib.hid (CE.out _ (Wr.refl _ _))
          have KW := Lib.hid (fun (W2 W : World) (hb : Wr [] W W2) (h : Hid (Wr [] wq.drew W) ∧ W.cell? ⟨ga, 0, none⟩ = some (.string act.nm) ∧ W.cell? ⟨ga, 1, none⟩ = some (.int .i64 act.fa) ∧ W.cell? ⟨ga, 2, none⟩ = some (.slice M act.ms.length cm) ∧ W.cell? ⟨w.heap.size + 1, 2, none⟩ = some (.slice (some ⟨b3, o3, none⟩) d.md.length t3) ∧ W.cell? ⟨b3, o3 + k, none⟩ = some (.slice A5 md.length c5)) => CE.out W2 (h.1.out.trans hb))
          clear c0 c1' c2' cf q0 q1 q2 qf z1 z2 z3 hlc hlq hv3
          refine wp_region_held_drew (S := fun W => Hid (Wr [] wq.drew W) ∧ W.cell? ⟨ga, 0, none⟩ = some (.string act.nm) ∧ W.cell? ⟨ga, 1, none⟩ = some (.int .i64 act.fa) ∧ W.cell? ⟨ga, 2, none⟩ = some (.slice M act.ms.length cm) ∧ W.cell? ⟨w.heap.size + 1, 2, none⟩ = some (.slice (some ⟨b3, o3, none⟩) d.md.length t3) ∧ W.cell? ⟨b3, o3 + k, none⟩ = some (.slice A5 md.length c5)) (by kernel_rfl) INIT.out (fun hHeld => ?_)
          clear CE INIT
          refine wpAnyH_take (i := 0) (v := ?_) rfl (by kernel_rfl) (by kernel_rfl) (by kernel_rfl) (fun _ _ _ h => h) (Or.inl ⟨by rfl, ?_⟩) (by assumption) ?_
          rotate_left
          · (intro W hSw; (try dsimp only at hSw); go_simp <;> with_reducible rfl)
          (try simp only [Act.put, List.getElem_toArray, List.getElem_cons_zero, List.setIfInBounds_toArray, List.set_cons_succ, List.set_cons_zero])
          refine wpAnyH_take (i := 2) (v := ?_) rfl (by kernel_rfl) (by kernel_rfl) (by kernel_rfl) (fun _ _ _ h => h) (Or.inl ⟨by rfl, ?_⟩) (by assumption) ?_
          rotate_left
          · (intro W hSw; (try dsimp only at hSw); go_simp <;> with_reducible rfl)
          (try simp only [Act.put, List.getElem_toArray, List.getElem_cons_succ, List.getElem_cons_zero, List.setIfInBounds_toArray, List.set_cons_succ, List.set_cons_zero])
          refine wpAnyH_take (i := 3) (v := ?_) rfl (by kernel_rfl) (by kernel_rfl) (by kernel_rfl) (fun _ _ _ h => h) (Or.inl ⟨by rfl, ?_⟩) (by assumption) ?_
          rotate_left
          · (intro W hSw; (try dsimp only at hSw); go_simp <;> with_reducible rfl)
          (try simp only [Act.put, List.getElem_toArray, List.getElem_cons_succ, List.getElem_cons_zero, List.setIfInBounds_toArray, List.set_cons_succ, List.set_cons_zero])
          refine wpAnyH_take (i := 4) (v := ?_) rfl (by kernel_rfl) (by kernel_rfl) (by kernel_rfl) (fun _ _ _ h => h) (Or.inl ⟨by rfl, ?_⟩) (by assumption) ?_
          rotate_left
          · (intro W hSw; (try dsimp only at hSw); go_simp <;> with_reducible rfl)
          (try simp only [Act.put, List.getElem_toArray, List.getElem_cons_succ, List.getElem_cons_zero, List.setIfInBounds_toArray, List.set_cons_succ, List.set_cons_zero])
          refine wpAnyH_take (i := 5) (v := ?_) rfl (by kernel_rfl) (by kernel_rfl) (by kernel_rfl) (fun _ _ _ h => h) (Or.inl ⟨by rfl, ?_⟩) (by assumption) ?_
          rotate_left
          · (intro W hSw; (try dsimp only at hSw); go_simp <;> with_reducible rfl)
          (try simp only [Act.put, List.getElem_toArray, List.getElem_cons_succ, List.getElem_cons_zero, List.setIfInBounds_toArray, List.set_cons_succ, List.set_cons_zero])
          refine wpAnyH_take (i := 6) (v := ?_) rfl (by kernel_rfl) (by kernel_rfl) (by kernel_rfl) (fun _ _ _ h => h) (Or.inl ⟨by rfl, ?_⟩) (by assumption) ?_
          rotate_left
          · (intro W hSw; (try dsimp only at hSw); go_simp <;> with_reducible rfl)
          (try simp only [Act.put, List.getElem_toArray, List.getElem_cons_succ, List.getElem_cons_zero, List.setIfInBounds_toArray, List.set_cons_succ, List.set_cons_zero])
          refine wpAnyH_take (i := 9) (v := ?_) rfl (by kernel_rfl) (by kernel_rfl) (by kernel_rfl) (fun _ _ _ h => h) (Or.inl ⟨by rfl, ?_⟩) (by assumption) ?_
          rotate_left
          · (intro W hSw; (try dsimp only at hSw); go_simp <;> with_reducible rfl)
          (try simp only [Act.put, List.getElem_toArray, List.getElem_cons_succ, List.getElem_cons_zero, List.setIfInBounds_toArray, List.set_cons_succ, List.set_cons_zero])
          refine wpAnyH_ready (rs := [1]) (by kernel_rfl) (by simp) ?_
          refine AllReadyH.cons rfl (fun K hK => ?_) AllReadyH.nil
          go_simp
          refine (specModeIndexes_any act _ _ (by exact Tr.rd_below S9.out.1 (Nat.le_refl _) _ _ RA.out)).mono ?_
          rintro e wm ⟨vm, rfl, om, bb⟩
          have S10 := Lib.hid (S9.out.new (flat_own (by simpa using om)).1 (flat_own om).2 bb)
          obtain ⟨AM, aM, rfl⟩ : ∃ A c, vm = .slice A (rangeB (act.ms.length : Int)).length c := slice_ints (S10.out.rd 0 rfl)
          have NR := Lib.hid (nil_int (S10.out.own 0 rfl).1)
          have RR := Lib.hid (rd_flat (S10.out.rd 0 rfl))
          (first | done | go_wp2_with fail | skip)
          refine hK.out _ _ (KW.out _ _ (Wr.of_below bb (Nat.le_refl _)) (by assumption)) (fun hHeld1 => ?_)
          clear hK K bb om S9
          refine wpAnyH_ready (rs := [7]) (by kernel_rfl) (by simp) ?_
          refine AllReadyH.cons rfl (fun K hK => ?_) AllReadyH.nil
          go_simp
          have hrl := range_le act.ms.length
          refine (specDiff_any (rangeB (act.ms.length : Int)) md _ _ _ (by exact RR.out) (by exact RM.out.below S10.out.1 (Nat.le_refl _)) (by omega)).mono ?_
          rintro e wd ⟨vd, rfl, od, bb⟩
          have S11 := Lib.hid ((S10.out.new (flat_own (by simpa using od)).1 (flat_own od).2 bb).drop 1)
          simp only [List.eraseIdx_cons_succ, List.eraseIdx_cons_zero] at S11
          have hdl2 := Nat.le_trans (diff_len (rangeB (act.ms.length : Int)) md) hrl
          obtain ⟨AD, aD, rfl⟩ : ∃ A c, vd = .slice A (diffB (rangeB (act.ms.length : Int)) md).length c := slice_ints (S11.out.rd 0 rfl)
          (first | done | go_wp2_with fail | skip)
          refine hK.out _ _ (KW.out _ _ (Wr.of_below bb (Nat.le_refl _)) (by assumption)) (fun hHeld7 => ?_)
          clear hK K bb od S10 NR RR
          refine wpAnyH_take (i := 8) (v := ?_) rfl (by kernel_rfl) (by kernel_rfl) (by kernel_rfl) (fun _ _ _ h => h) (Or.inl ⟨by rfl, ?_⟩) (by assumption) ?_
          rotate_left
          · (intro W hSw; (try dsimp only at hSw); go_simp <;> with_reducible rfl)
          (try simp only [Act.put, List.getElem_toArray, List.getElem_cons_succ, List.getElem_cons_zero, List.setIfInBounds_toArray, List.set_cons_succ, List.set_cons_zero])
          refine wpAnyH_done (by kernel_rfl) ?_ _
          generalize diffB (rangeB (act.ms.length : Int)) md = DD at S11 HT hdl2 ⊢
          have S12 := Lib.hid (S11.out.pick 1 rfl)
          simp only [List.eraseIdx_cons_succ, List.eraseIdx_cons_zero] at S12
          clear S11 hHeld hHeld1 hHeld7 KW
          go_wp2_with fail
          go_loopw [5, 67] (fun u i wz => ∃ (j : Nat) (F : List Nat) (FD : List Nat), j ≤ DD.length ∧ i = .int .i64 j ∧ Sn w wz [⟨rowT (TT ++ (DD.take j).map fun m => (⟨4, (k : Int), m⟩ : Lt)), u, F⟩, ⟨trI DD, .slice AD DD.length aD, FD⟩, boxI ga 58 [.string act.nm, .int .i64 act.fa, .slice M act.ms.length cm], boxI (w.heap.size + 1) 41 [.slice (some ⟨b1, o1, none⟩) d.mn.length t1, .slice (some ⟨b2, o2, none⟩) d.mx.length t2, .slice (some ⟨b3, o3, none⟩) d.md.length t3], boxI w.heap.size 39 [.int .i64 p.dl, .slice (some ⟨b4, o4, none⟩) p.acts.length c1, .slice A2 p.lks.length c2, .slice A3 p.ress.length c3, .slice A4 p.stk.length c4]]) (fun _ i _ => DD.length - (intOf i).toNat)
          case atStart => exact ⟨0, _, _, Nat.zero_le _, rfl, by simpa using S12.out⟩
          case round =>
            obtain ⟨j, FF, FD, hjl, rfl, hS⟩ := hrel
            have S13 := Lib.hid hS
            clear hS S12
            by_cases hjt : j < DD.length
            · have hjt' : (j : Int) < (DD.length : Int) := by omega
              have j0 : (0 : Int) ≤ (j : Int) := by omega
              have NX := Lib.hid (take_map_snoc (f := fun m => (⟨4, (k : Int), m⟩ : Lt)) hjt)
              have hjn : ((DD.take j).map fun m => (⟨4, (k : Int), m⟩ : Lt)).length = j := by rw [List.length_map, List.length_take]; omega
              obtain ⟨_, B9, q9, he9, y9⟩ := rdI (rd_flat (S13.out.rd 1 rfl))
              injection he9 with he9 _ he8
              subst he9 he8
              obtain ⟨b9, o9, rfl, hb9, hc9⟩ := y9 j hjt
              have z9 := hc9 j hjt
              generalize DD[j] = m9 at z9 NX
              have hT2 : (TT ++ (DD.take j).map fun m => (⟨4, (k : Int), m⟩ : Lt)).length = TT.length + j := by rw [List.length_append, hjn]
              clear hc9 y9 hb9
              have NX2 := Lib.hid (show (TT ++ (DD.take j).map fun m => (⟨4, (k : Int), m⟩ : Lt)) ++ [⟨4, (k : Int), m9⟩] = TT ++ (DD.take (j + 1)).map fun m => (⟨4, (k : Int), m⟩ : Lt) from by rw [List.append_assoc, NX.out])
              generalize (TT ++ (DD.take j).map fun m => (⟨4, (k : Int), m⟩ : Lt)) = TJ at S13 hT2 NX2
              have OW := Lib.hid (S13.out.ownT)
              rw [hT2] at OW
              have hzs := S13.out.1.size
              go_wp2_with (first | (at_builtin; refine wpList_append_own_at _ rfl (.tmp 71) (.tmp 75) 33 rfl w.heap.size 60 i0 (.agg #[.int .i64 0, .int .i64 0, .int .i64 0]) 3 24 Tryz.underlying33 hi0 hz0 hz1 hz2 rfl (by decide) _ (TT.length + j) (cells3 (TJ)) rfl (by exact OW.out.alloc _) ⟨_, 0, none⟩ 1 1 [.int .i64 4, .int .i64 (k : Int), .int .i64 m9] rfl rfl ?cq141 ?cq142 ?cq143 ?cq144 ?cq145 ?_) | fail)
              try case cq141 => (intro j u hj; have h9 := three_cells wz (.int .i64 4) (.int .i64 (k : Int)) (.int .i64 m9) 60 j u hj; first | exact h9 | simpa only [World.size_alloc] using h9)
              try case cq142 => simp [Value.oneCell']
              try case cq143 => unfold maxLen; omega
              try case cq144 => omega
              try case cq145 => first | omega | (simp at hzs ⊢; omega)
              intro v8 w14 hown8 hg8 _ hat8
              obtain ⟨F14, h9⟩ := S13.out.appT (⟨4, (k : Int), m9⟩ : Lt) ((Below.refl _ _).alloc (Nat.le_refl _) _) hown8 (by rw [hT2]) hg8 (by simpa using hat8)
              have S14 := Lib.hid h9
              clear hown8 hg8 hat8 h9 OW hzs S13
              rw [NX2.out] at S14
              go_wp2
              go_roundw
              case rel => exact ⟨j + 1, F14, FD, by omega, by go_num, S14.out⟩
              case measure => simp [intOf]; omega
            · have hjge : ¬ (j : Int) < (DD.length : Int) := by omega
              obtain rfl : j = DD.length := by omega
              rw [List.take_length, ← HT.out] at S13
              go_wp2
              go_roundw
              case rel => exact ⟨k + 1, FF, by omega, by go_num, (S13.out.drop 1).drop 1⟩
              case measure => simp [intOf]; omega
    · have hge : ¬ (k : Int) < (p.acts.length : Int) := by omega
      obtain rfl : k = p.acts.length := by omega
      rw [← RES.out] at S3
      go_wp2
      go_ret
      have PO := (S3.out.own 0 rfl).1
      rw [rowT_tr] at PO
      first
        | exact ⟨_, _, rfl, PO, (S3.out.own 0 rfl).2, S3.out.1⟩
        | exact ⟨_, PO, (S3.out.own 0 rfl).2, S3.out.1⟩
        | exact ⟨_, rfl, _, PO, (S3.out.own 0 rfl).2, S3.out.1⟩
end Go.Proofs.YtdbnhdiboemmiabGreat
