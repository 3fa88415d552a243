/- DERIVED. CONTRACTS of chapter 13: DomainLiterals of the program. -/
import Derived.Test.YtdbnhdiboemmiacGreatDmG
import Derived.Test.YtdbnhdiboemmiacGreatRowV
import Derived.Test.YtdbnhdiboemmiacGreatTFl
import Derived.Test.YtdbnhdiboemmiacGreatDmF
import Derived.Test.YtdbnhdiboemmiacGreatActF
import Derived.Test.YtdbnhdiboemmiacGreatRegZ
import Derived.Maps.AppendAt

section
namespace Go.Proofs.YtdbnhdiboemmiacGreat
open Go.RowKit Go.Shelf
set_option linter.unusedVariables false

def cells3 (l : List Lt) : List Value := l.flatMap fun r => [.int .i64 r.ki, .int .i64 r.ac, .int .i64 r.va]
theorem flat_lt : ∀ xs : List Lt, xs.flatMap cellsLt = (cells3 xs).map .one
  | [] => rfl
  | r :: xs => by rw [List.flatMap_cons, flat_lt xs]; rfl
theorem cells3_app (l m : List Lt) : cells3 (l ++ m) = cells3 l ++ cells3 m := by simp [cells3]
def rowT (l : List Lt) : Tr := flatN 38 3 l.length (cells3 l)
theorem rowT_tr (l : List Lt) : rowT l = trLts l := by unfold rowT trLts rows flatN; rw [flat_lt]
section
variable {w0 W W1 w6 : World} {L : List Item} {l : List Lt} {v v' : Value} {F : List Nat}
theorem Sn.ownT (h : Sn w0 W (⟨rowT l, v, F⟩ :: L)) : W.ownsRow w0.heap.size 38 3 v l.length (cells3 l) := h.ownN
theorem Sn.appT {n : Nat} (c : Lt) (h : Sn w0 W (⟨rowT l, v, F⟩ :: L)) (hW : Below W.heap.size W W1) (hown : w6.ownsRow w0.heap.size 38 3 v' n (cells3 l ++ [.int .i64 c.ki, .int .i64 c.ac, .int .i64 c.va]))
    (hn : n = l.length + 1) (hg : W1.grownBy w6 v.ownBlock) (hat : v'.ownBlock = v.ownBlock ∨ v'.ownBlock = some W1.heap.size) : ∃ F', Sn w0 w6 (⟨rowT (l ++ [c]), v', F'⟩ :: L) := by
  obtain ⟨F', h'⟩ := Sn.appN h hW hown hg hat
  refine ⟨F', ?_⟩
  have e : rowT (l ++ [c]) = flatN 38 3 n (cells3 l ++ [.int .i64 c.ki, .int .i64 c.ac, .int .i64 c.va]) := by
    unfold rowT
    rw [cells3_app, hn, List.length_append]
    rfl
  rw [e]
  exact h'
theorem Sn.nilT (h : Sn w0 W L) : Sn w0 W (⟨rowT [], .slice none 0 0, []⟩ :: L) := h.nilN 38 3
theorem Sn.emptyT (h : Sn w0 W L) : Sn w0 (W.alloc (.cells #[] 38)) (⟨rowT [], .slice (some ⟨W.heap.size, 0, none⟩) 0 0, [W.heap.size]⟩ :: L) := h.emptyN 38 3
end
theorem three_cells (w : World) (x y z : Value) (t : TypeId) : ∀ j q, [x, y, z][j]? = some q → (w.alloc (.cells #[x, y, z] t)).cell? ((⟨w.heap.size, 0, none⟩ : Addr).add j) = some q := fun j q h => by
  obtain ⟨c0, c1, c2, _⟩ := (Bk.new w t #[x, y, z]).c3
  have hj : j < 3 := by simpa using (List.getElem?_eq_some_iff.1 h).1
  rcases (by omega : j = 0 ∨ j = 1 ∨ j = 2) with rfl | rfl | rfl
  · rw [show (⟨w.heap.size, 0, none⟩ : Addr).add 0 = ⟨w.heap.size, 0, none⟩ from by simp [Addr.add], c0]; exact h
  · rw [show (⟨w.heap.size, 0, none⟩ : Addr).add 1 = ⟨w.heap.size, 1, none⟩ from by simp [Addr.add], c1]; exact h
  · rw [show (⟨w.heap.size, 0, none⟩ : Addr).add 2 = ⟨w.heap.size, 2, none⟩ from by simp [Addr.add], c2]; exact h
theorem diff_len (a b : List Int) : (diffB a b).length ≤ a.length := Nat.le_trans (len_setB _) (List.length_filter_le _ _)
theorem range_le (n : Nat) : (rangeB (n : Int)).length ≤ n := by
  unfold rangeB
  split
  · rw [upB_len]; omega
  · simp
theorem litsA_len (p : Pj) (d : Dm) (a : Nat) : (litsA p d a).length ≤ 2 + (acA p a).length := by
  have h1 := diff_len (rangeB ((acA p a).length : Int)) (mdD d a)
  have h2 := range_le (acA p a).length
  unfold litsA
  rw [List.length_append, List.length_append, List.length_map]
  split <;> split <;> simp <;> omega
theorem litsK_len {p : Pj} {d : Dm} : ∀ {k : Nat}, (∀ a, a < k → (acA p a).length ≤ 3) → (litsK p d k).length ≤ 5 * k
  | 0, _ => by simp [litsK]
  | k + 1, h => by
    have h1 := litsK_len (p := p) (d := d) (k := k) (fun a ha => h a (by omega))
    have h2 := litsA_len p d k
    have h3 := h k (by omega)
    simp only [litsK, List.length_append]
    omega
theorem acA_le {p : Pj} (h : pokB p = true) (a : Nat) : (acA p a).length ≤ 3 := by
  unfold acA
  split
  next x hx => exact (aok_modes ((pok_acts h).2 x (List.mem_of_getElem? hx))).1
  next => simp
theorem szL_lt : ∀ l : List Lt, szL (l.flatMap cellsLt) = 0
  | [] => rfl
  | x :: l => by rw [List.flatMap_cons, szL_app, szL_lt l]; simp [cellsLt, szL, Tr.sz]
theorem lits_sz (p : Pj) (d : Dm) : (trLts (litsD p d)).sz ≤ 30 := by
  have e : (trLts (litsD p d)).sz = (litsD p d).length + szL ((litsD p d).flatMap cellsLt) := rfl
  rw [e, szL_lt]
  rcases h : dformB p d with _ | _
  · rw [lits_no h]; simp
  · rw [lits_yes h]
    have hf := dform_of h
    have h1 := litsK_len (p := p) (d := d) (k := p.acts.length) (fun a _ => acA_le hf.ok a)
    have := hf.n6
    omega
theorem pok_dl2 {p : Pj} (h : pokB p = true) : inB p.dl 1 60 = true := by
  simp only [pokB, Bool.and_eq_true] at h
  exact h.1
theorem take_map_snoc2 {α β : Type} {f : α → β} {l : List α} {k : Nat} (h : k < l.length) : (l.take k).map f ++ [f l[k]] = (l.take (k + 1)).map f := take_map_snoc h
end Go.Proofs.YtdbnhdiboemmiacGreat
end

section
namespace Go.Proofs.YtdbnhdiboemmiacGreat
open Go.RowKit Go.Shelf
set_option linter.unusedVariables false

set_option maxRecDepth 100000 in
set_option maxHeartbeats 8000000 in
theorem implDomainLiterals_any (p : Pj) (d : Dm) (v u : Value) (w : World) (hv : (trPj p).rd w v) (hk : (trPj p).ok) {B0 : Nat} {G0 : List Nat} (ho : (trDm d).own w B0 u G0) (hsz : (trDm d).sz ≤ 1048576) :
    Calls Tryz.prog 7 #[v, u] w fun e w' => ∃ r F, e = .returned r ∧ (trLts (litsD p d)).own w' w.heap.size r F ∧ F.Nodup ∧ Below w.heap.size w w' := by
  have HV := Lib.hid hv
  obtain ⟨A1, c1, A2, c2, A3, c3, A4, c4, rfl, r1, _⟩ := rdProject_t hv
  obtain ⟨hl1, B1, d1, he, g1⟩ := rdActivityS_t r1
  injection he with he _ he2
  subst he he2
  have G1 := Lib.hid g1
  clear hv r1 g1
  have ZM := Lib.hid (fun j (h : j < d.md.length) => Nat.le_trans (su_at h) (by rw [dm_sz] at hsz; omega : (trSu d.md).sz ≤ 1048576))
  have HD := Lib.hid (show (trDm d).rd w _ from Tr.own_rd _ _ _ ho)
  obtain ⟨v1, v2, v3, K1, K2, K3, rfl, o1, o2, o3⟩ := own_dom ho
  obtain ⟨hd1, D1, t1, rfl, y1⟩ := rdI (rd_flat (Tr.own_rd _ _ _ o1))
  obtain ⟨hd2, D2, t2, rfl, y2⟩ := rdI (rd_flat (Tr.own_rd _ _ _ o2))
  obtain ⟨hd3, D3, t3, rfl, y3⟩ := own_rowsI o3
  have Y1 := Lib.hid y1
  have Y2 := Lib.hid y2
  have Y3 := Lib.hid y3
  clear ho o1 o2 o3 y1 y2 y3
  have HK := Lib.hid hk
  clear hk
  unfold maxLen at hd1 hd2
  obtain ⟨i0, hi0, hz0, hz1, hz2⟩ := info_parts infoLiteral_t
  have S0 := Lib.hid (((Sn.start w).box 28 [.int .i64 p.dl, .slice A1 p.acts.length c1, .slice A2 p.lks.length c2, .slice A3 p.ress.length c3, .slice A4 p.stk.length c4]).box 32 [.slice D1 d.mn.length t1, .slice D2 d.mx.length t2, .slice D3 d.md.length t3])
  simp only [World.size_alloc] at S0
  go_enter Tryz.func7, Tryz.ntmps7
  go_wp2_with fail
  refine (implDomainForm_any p d _ _ _ (by exact S0.out.old HV.out) HK.out (by exact S0.out.old HD.out)).mono ?_
  rintro e w1 ⟨rfl, b⟩
  have S1 := Lib.hid (S0.out.go b)
  clear S0 b
  rcases hf : dformB p d with _ | _
  · have RES := Lib.hid (lits_no hf)
    clear hf
    have P := S1.out.nilT
    go_wp2
    go_ret
    have PO := (P.own 0 rfl).1
    rw [rowT_tr] at PO
    first
      | exact ⟨_, _, rfl, by rw [RES.out]; exact PO, (P.own 0 rfl).2, S1.out.1⟩
      | exact ⟨_, by rw [RES.out]; exact PO, (P.own 0 rfl).2, S1.out.1⟩
      | exact ⟨_, rfl, _, by rw [RES.out]; exact PO, (P.own 0 rfl).2, S1.out.1⟩
  have RES := Lib.hid (lits_yes hf)
  have FM := Lib.hid (dform_of hf)
  clear hf
  have h6 := FM.out.n6
  have l1 := FM.out.h1
  have l2 := FM.out.h2
  have l3 := FM.out.h3
  have hdl := inB_iff.1 (pok_dl2 FM.out.ok)
  have hwd : IntKind.i64.wrap (p.dl - 1) = p.dl - 1 := by rw [IntKind.wrap_i64]; omega
  obtain ⟨e0, e1, e2, e3, e4, ef⟩ := (S1.out.bk 1 rfl).c5
  go_wp2_with fail
  clear e0 e1 e2 e3 e4 ef
  go_loopw [5, 17] (fun u i wr => ∃ (k : Nat) (F : List Nat), k ≤ p.acts.length ∧ i = .int .i64 k ∧ Sn w wr [⟨rowT (litsK p d k), u, F⟩, boxI (w.heap.size + 1) 32 [.slice D1 d.mn.length t1, .slice D2 d.mx.length t2, .slice D3 d.md.length t3], boxI w.heap.size 28 [.int .i64 p.dl, .slice A1 p.acts.length c1, .slice A2 p.lks.length c2, .slice A3 p.ress.length c3, .slice A4 p.stk.length c4]]) (fun _ i _ => p.acts.length - (intOf i).toNat)
  case atStart => exact ⟨0, _, Nat.zero_le _, rfl, S1.out.nilT⟩
  case round =>
    obtain ⟨k, F0, hkl, rfl, hS⟩ := hrel
    have S3 := Lib.hid hS
    clear hS S1
    by_cases hlt : k < p.acts.length
    · have hlt' : (k : Int) < (p.acts.length : Int) := by omega
      have k0 : (0 : Int) ≤ (k : Int) := by omega
      have k1 : (k : Int) < (d.mn.length : Int) := by omega
      have k2 : (k : Int) < (d.mx.length : Int) := by omega
      have k3 : (k : Int) < (d.md.length : Int) := by omega
      have hTl := litsK_len (p := p) (d := d) (k := k) (fun a _ => acA_le FM.out.ok a)
      have hnm := acA_le FM.out.ok k
      have LK := Lib.hid (show litsK p d (k + 1) = litsK p d k ++ litsA p d k from rfl)
      unfold litsA at LK
      have HC := acA_at hlt
      rw [HC] at LK hnm
      generalize litsK p d k = T at S3 LK hTl
      obtain ⟨b4, o4, rfl, hb4, hc4⟩ := G1.out k hlt
      obtain ⟨M, cm, x0, x1, x2, rm⟩ := hc4 k hlt
      have z4 := (S3.out.1.cell (p := ⟨b4, o4 + k * 3, none⟩) hb4).trans x0
      have z5 := (S3.out.1.cell (p := ⟨b4, o4 + k * 3 + 1, none⟩) hb4).trans x1
      have z6 := (S3.out.1.cell (p := ⟨b4, o4 + k * 3 + 2, none⟩) hb4).trans x2
      have RA := Lib.hid (mk_rdActivity_t (w := w) (d := p.acts[k]) rm)
      have S4 := Lib.hid ((S3.out.box 55 [.string p.acts[k].nm, .int .i64 p.acts[k].fa, .slice M p.acts[k].ms.length cm]).pick 1 rfl)
      simp only [List.eraseIdx_cons_succ, List.eraseIdx_cons_zero] at S4
      clear hc4 x0 x1 x2 rm S3 HC
      generalize p.acts[k] = act at z4 z5 z6 S4 RA LK hnm
      obtain ⟨b1, o1, rfl, hb1, hc1⟩ := Y1.out k (by omega)
      obtain ⟨b2, o2, rfl, hb2, hc2⟩ := Y2.out k (by omega)
      obtain ⟨b3, o3, rfl, hb3, hc3⟩ := Y3.out k (by omega)
      obtain ⟨A5, c5, hc3b, rm5, nl5⟩ := hc3 k (by omega)
      have ZC := Lib.hid (fun (W : World) (h : Below w.heap.size w W) => show W.cell? ⟨b1, o1 + k, none⟩ = some (.int .i64 (mnD d k)) ∧ W.cell? ⟨b2, o2 + k, none⟩ = some (.int .i64 (mxD d k)) ∧ W.cell? ⟨b3, o3 + k, none⟩ = some (.slice A5 (mdD d k).length c5) from
        ⟨by rw [mnD_at (by omega)]; exact (h.cell (p := ⟨b1, o1 + k, none⟩) hb1).trans (hc1 k (by omega)), by rw [mxD_at (by omega)]; exact (h.cell (p := ⟨b2, o2 + k, none⟩) hb2).trans (hc2 k (by omega)), by rw [mdD_at (by omega)]; exact (h.cell (p := ⟨b3, o3 + k, none⟩) hb3).trans hc3b⟩)
      have RM := Lib.hid (rd_flat rm5)
      rw [← mdD_at (d := d)] at RM
      have NM := Lib.hid nl5
      have LM := Lib.hid (ZM.out k (by omega))
      rw [← mdD_at (d := d)] at NM LM
      clear hc1 hc2 hc3 hc3b rm5 nl5
      generalize mnD d k = mn at ZC LK
      generalize mxD d k = mx at ZC LK
      generalize mdD d k = md at ZC LK RM NM LM
      have hsg := S4.out.1.size
      obtain ⟨z1, z2, z3⟩ := ZC.out _ S4.out.1
      obtain ⟨q0, q1, q2, qf⟩ := (S4.out.bk 2 rfl).c3
      obtain ⟨e0, e1, e2, e3, e4, ef⟩ := (S4.out.bk 3 rfl).c5
      generalize hga : wr.heap.size = ga at S4 ⊢
      by_cases a1 : 0 < mn
      · have ha1 := Lib.hid a1
        have OW := Lib.hid (S4.out.ownT)
        have hzs := S4.out.1.size
        go_wp2_with (first | (at_builtin; refine wpList_append_own_at _ rfl (.tmp 28) (.tmp 36) 35 rfl w.heap.size 38 i0 (.agg #[.int .i64 0, .int .i64 0, .int .i64 0]) 3 24 Tryz.underlying35 hi0 hz0 hz1 hz2 rfl (by decide) _ ((T).length) (cells3 (T)) rfl (by exact OW.out.alloc _) ⟨_, 0, none⟩ 1 1 [.int .i64 1, .int .i64 (k : Int), .int .i64 mn] rfl rfl ?cq11 ?cq12 ?cq13 ?cq14 ?cq15 ?_) | fail)
        try case cq11 => (intro j u hj; have h9 := three_cells (World.alloc wr (.cells #[.string act.nm, .int .i64 act.fa, .slice M act.ms.length cm] 55)) (.int .i64 1) (.int .i64 (k : Int)) (.int .i64 mn) 38 j u hj; first | exact h9 | simpa only [World.size_alloc, hga] using h9)
        try case cq12 => simp [Value.oneCell']
        try case cq13 => unfold maxLen; omega
        try case cq14 => omega
        try case cq15 => first | omega | (simp at hzs ⊢; omega)
        intro v8 w5 hown8 hg8 _ hat8
        obtain ⟨F5, h9⟩ := S4.out.appT (⟨1, (k : Int), mn⟩ : Lt) ((Below.refl _ _).alloc (Nat.le_refl _) _) hown8 (by simp) hg8 (by simpa [hga] using hat8)
        have S5 := Lib.hid h9
        clear hown8 hg8 hat8 h9 OW hzs S4
        clear z1 z2 z3 q0 q1 q2 qf e0 e1 e2 e3 e4 ef hga
        obtain ⟨z1, z2, z3⟩ := ZC.out _ S5.out.1
        obtain ⟨q0, q1, q2, qf⟩ := (S5.out.bk 2 rfl).c3
        obtain ⟨e0, e1, e2, e3, e4, ef⟩ := (S5.out.bk 3 rfl).c5
        by_cases a2 : mx < p.dl - 1
        · have ha2 := Lib.hid a2
          go_wp2_with fail
          go_quiet (fail)
          generalize hwq : World.drewN _ _ = wq
          have hbq : Below w5.heap.size w5 wq := hwq ▸ below_drewN (Below.refl _ _) _
          have S6 := Lib.hid (S5.out.go hbq)
          clear hwq hbq S5 z1 z2 z3 q0 q1 q2 qf e0 e1 e2 e3 e4 ef
          obtain ⟨z1, z2, z3⟩ := ZC.out _ S6.out.1
          obtain ⟨q0, q1, q2, qf⟩ := (S6.out.bk 2 rfl).c3
          have hln : (T ++ [(⟨1, (k : Int), mn⟩ : Lt)]).length ≤ T.length + 1 := by simp
          have OW := Lib.hid (S6.out.ownT)
          have hzs := S6.out.1.size
          go_wp2_with (first | (at_builtin; refine wpList_append_own_at _ rfl (.tmp 47) (.tmp 55) 35 rfl w.heap.size 38 i0 (.agg #[.int .i64 0, .int .i64 0, .int .i64 0]) 3 24 Tryz.underlying35 hi0 hz0 hz1 hz2 rfl (by decide) _ ((T ++ [(⟨1, (k : Int), mn⟩ : Lt)]).length) (cells3 (T ++ [(⟨1, (k : Int), mn⟩ : Lt)])) rfl (by exact OW.out.alloc _) ⟨_, 0, none⟩ 1 1 [.int .i64 2, .int .i64 (k : Int), .int .i64 mx] rfl rfl ?cq21 ?cq22 ?cq23 ?cq24 ?cq25 ?_) | fail)
          try case cq21 => (intro j u hj; have h9 := three_cells wq (.int .i64 2) (.int .i64 (k : Int)) (.int .i64 mx) 38 j u hj; first | exact h9 | simpa only [World.size_alloc] using h9)
          try case cq22 => simp [Value.oneCell']
          try case cq23 => unfold maxLen; omega
          try case cq24 => omega
          try case cq25 => first | omega | (simp at hzs ⊢; omega)
          intro v8 w7 hown8 hg8 _ hat8
          obtain ⟨F7, h9⟩ := S6.out.appT (⟨2, (k : Int), mx⟩ : Lt) ((Below.refl _ _).alloc (Nat.le_refl _) _) hown8 (by simp) hg8 (by simpa using hat8)
          have S7 := Lib.hid h9
          clear hown8 hg8 hat8 h9 OW hzs S6
          clear z1 z2 z3 q0 q1 q2 qf
          go_wp2_with fail
          have HT := Lib.hid (show litsK p d (k + 1) = T ++ [(⟨1, (k : Int), mn⟩ : Lt)] ++ [(⟨2, (k : Int), mx⟩ : Lt)] ++ (diffB (rangeB (act.ms.length : Int)) md).map fun m => (⟨4, (k : Int), m⟩ : Lt) from by rw [LK.out, if_pos (show 0 < mn by have := ha1.out; omega), if_pos (show mx < p.dl - 1 by have := ha2.out; omega)]; simp)
          have hTT : (T ++ [(⟨1, (k : Int), mn⟩ : Lt)] ++ [(⟨2, (k : Int), mx⟩ : Lt)]).length ≤ 5 * k + 2 := by first | omega | (simp only [List.length_append, List.length_cons, List.length_nil]; omega)
          generalize T ++ [(⟨1, (k : Int), mn⟩ : Lt)] ++ [(⟨2, (k : Int), mx⟩ : Lt)] = TT at S7 HT hTT
          obtain ⟨c0, c1', c2', cf⟩ := (S7.out.bk 1 rfl).c3
          obtain ⟨q0, q1, q2, qf⟩ := (S7.out.bk 2 rfl).c3
          have hlc := (S7.out.bk 1 rfl).lt
          have hlq := (S7.out.bk 2 rfl).lt
          obtain ⟨z1, z2, z3⟩ := ZC.out _ S7.out.1
          have hv3 := Nat.lt_of_lt_of_le hb3 S7.out.1.size
          have S9 := Lib.hid S7.out.drew1
          clear S7 LK
          have CE := Lib.hid (fun (W : World) (h : Wr [] w7.drew W) => show Hid (Wr [] w7.drew W) ∧ W.cell? ⟨ga, 0, none⟩ = some (.string act.nm) ∧ W.cell? ⟨ga, 1, none⟩ = some (.int .i64 act.fa) ∧ W.cell? ⟨ga, 2, none⟩ = some (.slice M act.ms.length cm) ∧ W.cell? ⟨w.heap.size + 1, 2, none⟩ = some (.slice (some ⟨b3, o3, none⟩) d.md.length t3) ∧ W.cell? ⟨b3, o3 + k, none⟩ = some (.slice A5 md.length c5) from ⟨Lib.hid h, (wr_cell h (p := ⟨ga, 0, none⟩) hlc (by simp)).trans (by exact by simpa using c0), (wr_cell h (p := ⟨ga, 1, none⟩) hlc (by simp)).trans (by exact by simpa using c1'), (wr_cell h (p := ⟨ga, 2, none⟩) hlc (by simp)).trans (by exact by simpa using c2'), (wr_cell h (p := ⟨w.heap.size + 1, 2, none⟩) hlq (by simp)).trans (by exact by simpa using q2), (wr_cell h (p := ⟨b3, o3 + k, none⟩) (by show b3 < _; simpa using hv3) (by simp)).trans (by exact by simpa using z3)⟩)
          have INIT := Lib.hid (CE.out _ (Wr.refl _ _))
          have KW := Lib.hid (fun (W2 W : World) (hb : Wr [] W W2) (h : Hid (Wr [] w7.drew W) ∧ W.cell? ⟨ga, 0, none⟩ = some (.string act.nm) ∧ W.cell? ⟨ga, 1, none⟩ = some (.int .i64 act.fa) ∧ W.cell? ⟨ga, 2, none⟩ = some (.slice M act.ms.length cm) ∧ W.cell? ⟨w.heap.size + 1, 2, none⟩ = some (.slice (some ⟨b3, o3, none⟩) d.md.length t3) ∧ W.cell? ⟨b3, o3 + k, none⟩ = some (.slice A5 md.length c5)) => CE.out W2 (h.1.out.trans hb))
          clear c0 c1' c2' cf q0 q1 q2 qf z1 z2 z3 hlc hlq hv3
          refine wp_region_held_drew (S := fun W => Hid (Wr [] w7.drew W) ∧ W.cell? ⟨ga, 0, none⟩ = some (.string act.nm) ∧ W.cell? ⟨ga, 1, none⟩ = some (.int .i64 act.fa) ∧ W.cell? ⟨ga, 2, none⟩ = some (.slice M act.ms.length cm) ∧ W.cell? ⟨w.heap.size + 1, 2, none⟩ = some (.slice (some ⟨b3, o3, none⟩) d.md.length t3) ∧ W.cell? ⟨b3, o3 + k, none⟩ = some (.slice A5 md.length c5)) (by kernel_rfl) INIT.out (fun hHeld => ?_)
          clear CE INIT
          refine wpAnyH_take (i := 0) (v := ?_) rfl (by kernel_rfl) (by kernel_rfl) (by kernel_rfl) (fun _ _ _ h => h) (Or.inl ⟨by rfl, ?_⟩) (by assumption) ?_
          rotate_left
          · (intro W hSw; (try dsimp only at hSw); go_simp <;> with_reducible rfl)
          (try simp only [Act.put, List.getElem_toArray, List.getElem_cons_zero, List.setIfInBounds_toArray, List.set_cons_succ, List.set_cons_zero])
          refine wpAnyH_take (i := 2) (v := ?_) rfl (by kernel_rfl) (by kernel_rfl) (by kernel_rfl) (fun _ _ _ h => h) (Or.inl ⟨by rfl, ?_⟩) (by assumption) ?_
          rotate_left
          · (intro W hSw; (try dsimp only at hSw); go_simp <;> with_reducible rfl)
          (try simp only [Act.put, List.getElem_toArray, List.getElem_cons_succ, List.getElem_cons_zero, List.setIfInBounds_toArray, List.set_cons_succ, List.set_cons_zero])
          refine wpAnyH_take (i := 3) (v := ?_) rfl (by kernel_rfl) (by kernel_rfl) (by kernel_rfl) (fun _ _ _ h => h) (Or.inl ⟨by rfl, ?_⟩) (by assumption) ?_
          rotate_left
          · (intro W hSw; (try dsimp only at hSw); go_simp <;> with_reducible rfl)
          (try simp only [Act.put, List.getElem_toArray, List.getElem_cons_succ, List.getElem_cons_zero, List.setIfInBounds_toArray, List.set_cons_succ, List.set_cons_zero])
          refine wpAnyH_take (i := 4) (v := ?_) rfl (by kernel_rfl) (by kernel_rfl) (by kernel_rfl) (fun _ _ _ h => h) (Or.inl ⟨by rfl, ?_⟩) (by assumption) ?_
          rotate_left
          · (intro W hSw; (try dsimp only at hSw); go_simp <;> with_reducible rfl)
          (try simp only [Act.put, List.getElem_toArray, List.getElem_cons_succ, List.getElem_cons_zero, List.setIfInBounds_toArray, List.set_cons_succ, List.set_cons_zero])
          refine wpAnyH_take (i := 5) (v := ?_) rfl (by kernel_rfl) (by kernel_rfl) (by kernel_rfl) (fun _ _ _ h => h) (Or.inl ⟨by rfl, ?_⟩) (by assumption) ?_
          rotate_left
          · (intro W hSw; (try dsimp only at hSw); go_simp <;> with_reducible rfl)
          (try simp only [Act.put, List.getElem_toArray, List.getElem_cons_succ, List.getElem_cons_zero, List.setIfInBounds_toArray, List.set_cons_succ, List.set_cons_zero])
          refine wpAnyH_take (i := 6) (v := ?_) rfl (by kernel_rfl) (by kernel_rfl) (by kernel_rfl) (fun _ _ _ h => h) (Or.inl ⟨by rfl, ?_⟩) (by assumption) ?_
          rotate_left
          · (intro W hSw; (try dsimp only at hSw); go_simp <;> with_reducible rfl)
          (try simp only [Act.put, List.getElem_toArray, List.getElem_cons_succ, List.getElem_cons_zero, List.setIfInBounds_toArray, List.set_cons_succ, List.set_cons_zero])
          refine wpAnyH_take (i := 9) (v := ?_) rfl (by kernel_rfl) (by kernel_rfl) (by kernel_rfl) (fun _ _ _ h => h) (Or.inl ⟨by rfl, ?_⟩) (by assumption) ?_
          rotate_left
          · (intro W hSw; (try dsimp only at hSw); go_simp <;> with_reducible rfl)
          (try simp only [Act.put, List.getElem_toArray, List.getElem_cons_succ, List.getElem_cons_zero, List.setIfInBounds_toArray, List.set_cons_succ, List.set_cons_zero])
          refine wpAnyH_ready (rs := [1]) (by kernel_rfl) (by simp) ?_
          refine AllReadyH.cons rfl (fun K hK => ?_) AllReadyH.nil
          go_simp
          refine (implModeIndexes_any act _ _ (by exact Tr.rd_below S9.out.1 (Nat.le_refl _) _ _ RA.out)).mono ?_
          rintro e wm ⟨vm, rfl, om, bb⟩
          have S10 := Lib.hid (S9.out.new (flat_own (by simpa using om)).1 (flat_own om).2 bb)
          obtain ⟨AM, aM, rfl⟩ : ∃ A c, vm = .slice A (rangeB (act.ms.length : Int)).length c := slice_ints (S10.out.rd 0 rfl)
          have NR := Lib.hid (nil_int (S10.out.own 0 rfl).1)
          have RR := Lib.hid (rd_flat (S10.out.rd 0 rfl))
          (first | done | go_wp2_with fail | skip)
          refine hK.out _ _ (KW.out _ _ (Wr.of_below bb (Nat.le_refl _)) (by assumption)) (fun hHeld1 => ?_)
          clear hK K bb om S9
          refine wpAnyH_ready (rs := [7]) (by kernel_rfl) (by simp) ?_
          refine AllReadyH.cons rfl (fun K hK => ?_) AllReadyH.nil
          go_simp
          have hrl := range_le act.ms.length
          refine (implDiff_any (rangeB (act.ms.length : Int)) md _ _ _ (by exact RR.out) NR.out (by exact RM.out.below S10.out.1 (Nat.le_refl _)) NM.out (by omega) (by have := LM.out; omega)).mono ?_
          rintro e wd ⟨vd, rfl, od, bb⟩
          have S11 := Lib.hid ((S10.out.new (flat_own (by simpa using od)).1 (flat_own od).2 bb).drop 1)
          simp only [List.eraseIdx_cons_succ, List.eraseIdx_cons_zero] at S11
          have hdl2 := Nat.le_trans (diff_len (rangeB (act.ms.length : Int)) md) hrl
          obtain ⟨AD, aD, rfl⟩ : ∃ A c, vd = .slice A (diffB (rangeB (act.ms.length : Int)) md).length c := slice_ints (S11.out.rd 0 rfl)
          (first | done | go_wp2_with fail | skip)
          refine hK.out _ _ (KW.out _ _ (Wr.of_below bb (Nat.le_refl _)) (by assumption)) (fun hHeld7 => ?_)
          clear hK K bb od S10 NR RR
          refine wpAnyH_take (i := 8) (v := ?_) rfl (by kernel_rfl) (by kernel_rfl) (by kernel_rfl) (fun _ _ _ h => h) (Or.inl ⟨by rfl, ?_⟩) (by assumption) ?_
          rotate_left
          · (intro W hSw; (try dsimp only at hSw); go_simp <;> with_reducible rfl)
          (try simp only [Act.put, List.getElem_toArray, List.getElem_cons_succ, List.getElem_cons_zero, List.setIfInBounds_toArray, List.set_cons_succ, List.set_cons_zero])
          refine wpAnyH_done (by kernel_rfl) ?_ _
          generalize diffB (rangeB (act.ms.length : Int)) md = DD at S11 HT hdl2 ⊢
          have S12 := Lib.hid (S11.out.pick 1 rfl)
          simp only [List.eraseIdx_cons_succ, List.eraseIdx_cons_zero] at S12
          clear S11 hHeld hHeld1 hHeld7 KW
          go_wp2_with fail
          go_loopw [5, 66] (fun u i wz => ∃ (j : Nat) (F : List Nat) (FD : List Nat), j ≤ DD.length ∧ i = .int .i64 j ∧ Sn w wz [⟨rowT (TT ++ (DD.take j).map fun m => (⟨4, (k : Int), m⟩ : Lt)), u, F⟩, ⟨trI DD, .slice AD DD.length aD, FD⟩, boxI ga 55 [.string act.nm, .int .i64 act.fa, .slice M act.ms.length cm], boxI (w.heap.size + 1) 32 [.slice (some ⟨b1, o1, none⟩) d.mn.length t1, .slice (some ⟨b2, o2, none⟩) d.mx.length t2, .slice (some ⟨b3, o3, none⟩) d.md.length t3], boxI w.heap.size 28 [.int .i64 p.dl, .slice (some ⟨b4, o4, none⟩) p.acts.length c1, .slice A2 p.lks.length c2, .slice A3 p.ress.length c3, .slice A4 p.stk.length c4]]) (fun _ i _ => DD.length - (intOf i).toNat)
          case atStart => exact ⟨0, _, _, Nat.zero_le _, rfl, by simpa using S12.out⟩
          case round =>
            obtain ⟨j, FF, FD, hjl, rfl, hS⟩ := hrel
            have S13 := Lib.hid hS
            clear hS S12
            by_cases hjt : j < DD.length
            · have hjt' : (j : Int) < (DD.length : Int) := by omega
              have j0 : (0 : Int) ≤ (j : Int) := by omega
              have NX := Lib.hid (take_map_snoc (f := fun m => (⟨4, (k : Int), m⟩ : Lt)) hjt)
              have hjn : ((DD.take j).map fun m => (⟨4, (k : Int), m⟩ : Lt)).length = j := by rw [List.length_map, List.length_take]; omega
              obtain ⟨_, B9, q9, he9, y9⟩ := rdI (rd_flat (S13.out.rd 1 rfl))
              injection he9 with he9 _ he8
              subst he9 he8
              obtain ⟨b9, o9, rfl, hb9, hc9⟩ := y9 j hjt
              have z9 := hc9 j hjt
              generalize DD[j] = m9 at z9 NX
              have hT2 : (TT ++ (DD.take j).map fun m => (⟨4, (k : Int), m⟩ : Lt)).length = TT.length + j := by rw [List.length_append, hjn]
              clear hc9 y9 hb9
              have NX2 := Lib.hid (show (TT ++ (DD.take j).map fun m => (⟨4, (k : Int), m⟩ : Lt)) ++ [⟨4, (k : Int), m9⟩] = TT ++ (DD.take (j + 1)).map fun m => (⟨4, (k : Int), m⟩ : Lt) from by rw [List.append_assoc, NX.out])
              generalize (TT ++ (DD.take j).map fun m => (⟨4, (k : Int), m⟩ : Lt)) = TJ at S13 hT2 NX2
              have OW := Lib.hid (S13.out.ownT)
              rw [hT2] at OW
              have hzs := S13.out.1.size
              go_wp2_with (first | (at_builtin; refine wpList_append_own_at _ rfl (.tmp 70) (.tmp 74) 35 rfl w.heap.size 38 i0 (.agg #[.int .i64 0, .int .i64 0, .int .i64 0]) 3 24 Tryz.underlying35 hi0 hz0 hz1 hz2 rfl (by decide) _ (TT.length + j) (cells3 (TJ)) rfl (by exact OW.out.alloc _) ⟨_, 0, none⟩ 1 1 [.int .i64 4, .int .i64 (k : Int), .int .i64 m9] rfl rfl ?cq31 ?cq32 ?cq33 ?cq34 ?cq35 ?_) | fail)
              try case cq31 => (intro j u hj; have h9 := three_cells wz (.int .i64 4) (.int .i64 (k : Int)) (.int .i64 m9) 38 j u hj; first | exact h9 | simpa only [World.size_alloc] using h9)
              try case cq32 => simp [Value.oneCell']
              try case cq33 => unfold maxLen; omega
              try case cq34 => omega
              try case cq35 => first | omega | (simp at hzs ⊢; omega)
              intro v8 w14 hown8 hg8 _ hat8
              obtain ⟨F14, h9⟩ := S13.out.appT (⟨4, (k : Int), m9⟩ : Lt) ((Below.refl _ _).alloc (Nat.le_refl _) _) hown8 (by rw [hT2]) hg8 (by simpa using hat8)
              have S14 := Lib.hid h9
              clear hown8 hg8 hat8 h9 OW hzs S13
              rw [NX2.out] at S14
              go_wp2
              go_roundw
              case rel => exact ⟨j + 1, F14, FD, by omega, by go_num, S14.out⟩
              case measure => simp [intOf]; omega
            · have hjge : ¬ (j : Int) < (DD.length : Int) := by omega
              obtain rfl : j = DD.length := by omega
              rw [List.take_length, ← HT.out] at S13
              go_wp2
              go_roundw
              case rel => exact ⟨k + 1, FF, by omega, by go_num, (S13.out.drop 1).drop 1⟩
              case measure => simp [intOf]; omega
        · have ha2 := Lib.hid a2
          go_wp2_with fail
          go_quiet (fail)
          generalize hwq : World.drewN _ _ = wq
          have hbq : Below w5.heap.size w5 wq := hwq ▸ below_drewN (Below.refl _ _) _
          have S6 := Lib.hid (S5.out.go hbq)
          clear hwq hbq S5 z1 z2 z3 q0 q1 q2 qf e0 e1 e2 e3 e4 ef
          go_wp2_with fail
          have HT := Lib.hid (show litsK p d (k + 1) = T ++ [(⟨1, (k : Int), mn⟩ : Lt)] ++ (diffB (rangeB (act.ms.length : Int)) md).map fun m => (⟨4, (k : Int), m⟩ : Lt) from by rw [LK.out, if_pos (show 0 < mn by have := ha1.out; omega), if_neg (show ¬ mx < p.dl - 1 by have := ha2.out; omega)]; simp)
          have hTT : (T ++ [(⟨1, (k : Int), mn⟩ : Lt)]).length ≤ 5 * k + 2 := by first | omega | (simp only [List.length_append, List.length_cons, List.length_nil]; omega)
          generalize T ++ [(⟨1, (k : Int), mn⟩ : Lt)] = TT at S6 HT hTT
          obtain ⟨c0, c1', c2', cf⟩ := (S6.out.bk 1 rfl).c3
          obtain ⟨q0, q1, q2, qf⟩ := (S6.out.bk 2 rfl).c3
          have hlc := (S6.out.bk 1 rfl).lt
          have hlq := (S6.out.bk 2 rfl).lt
          obtain ⟨z1, z2, z3⟩ := ZC.out _ S6.out.1
          have hv3 := Nat.lt_of_lt_of_le hb3 S6.out.1.size
          have S9 := Lib.hid S6.out.drew1
          clear S6 LK
          have CE := Lib.hid (fun (W : World) (h : Wr [] wq.drew W) => show Hid (Wr [] wq.drew W) ∧ W.cell? ⟨ga, 0, none⟩ = some (.string act.nm) ∧ W.cell? ⟨ga, 1, none⟩ = some (.int .i64 act.fa) ∧ W.cell? ⟨ga, 2, none⟩ = some (.slice M act.ms.length cm) ∧ W.cell? ⟨w.heap.size + 1, 2, none⟩ = some (.slice (some ⟨b3, o3, none⟩) d.md.length t3) ∧ W.cell? ⟨b3, o3 + k, none⟩ = some (.slice A5 md.length c5) from ⟨Lib.hid h, (wr_cell h (p := ⟨ga, 0, none⟩) hlc (by simp)).trans (by exact by simpa using c0), (wr_cell h (p := ⟨ga, 1, none⟩) hlc (by simp)).trans (by exact by simpa using c1'), (wr_cell h (p := ⟨ga, 2, none⟩) hlc (by simp)).trans (by exact by simpa using c2'), (wr_cell h (p := ⟨w.heap.size + 1, 2, none⟩) hlq (by simp)).trans (by exact by simpa using q2), (wr_cell h (p := ⟨b3, o3 + k, none⟩) (by show b3 < _; simpa using hv3) (by simp)).trans (by exact by simpa using z3)⟩)
          have INIT := Lib.hid (CE.out _ (Wr.refl _ _))
          have KW := Lib.hid (fun (W2 W : World) (hb : Wr [] W W2) (h : Hid (Wr [] wq.drew W) ∧ W.cell? ⟨ga, 0, none⟩ = some (.string act.nm) ∧ W.cell? ⟨ga, 1, none⟩ = some (.int .i64 act.fa) ∧ W.cell? ⟨ga, 2, none⟩ = some (.slice M act.ms.length cm) ∧ W.cell? ⟨w.heap.size + 1, 2, none⟩ = some (.slice (some ⟨b3, o3, none⟩) d.md.length t3) ∧ W.cell? ⟨b3, o3 + k, none⟩ = some (.slice A5 md.length c5)) => CE.out W2 (h.1.out.trans hb))
          clear c0 c1' c2' cf q0 q1 q2 qf z1 z2 z3 hlc hlq hv3
          refine wp_region_held_drew (S := fun W => Hid (Wr [] wq.drew W) ∧ W.cell? ⟨ga, 0, none⟩ = some (.string act.nm) ∧ W.cell? ⟨ga, 1, none⟩ = some (.int .i64 act.fa) ∧ W.cell? ⟨ga, 2, none⟩ = some (.slice M act.ms.length cm) ∧ W.cell? ⟨w.heap.size + 1, 2, none⟩ = some (.slice (some ⟨b3, o3, none⟩) d.md.length t3) ∧ W.cell? ⟨b3, o3 + k, none⟩ = some (.slice A5 md.length c5)) (by kernel_rfl) INIT.out (fun hHeld => ?_)
          clear CE INIT
          refine wpAnyH_take (i := 0) (v := ?_) rfl (by kernel_rfl) (by kernel_rfl) (by kernel_rfl) (fun _ _ _ h => h) (Or.inl ⟨by rfl, ?_⟩) (by assumption) ?_
          rotate_left
          · (intro W hSw; (try dsimp only at hSw); go_simp <;> with_reducible rfl)
          (try simp only [Act.put, List.getElem_toArray, List.getElem_cons_zero, List.setIfInBounds_toArray, List.set_cons_succ, List.set_cons_zero])
          refine wpAnyH_take (i := 2) (v := ?_) rfl (by kernel_rfl) (by kernel_rfl) (by kernel_rfl) (fun _ _ _ h => h) (Or.inl ⟨by rfl, ?_⟩) (by assumption) ?_
          rotate_left
          · (intro W hSw; (try dsimp only at hSw); go_simp <;> with_reducible rfl)
          (try simp only [Act.put, List.getElem_toArray, List.getElem_cons_succ, List.getElem_cons_zero, List.setIfInBounds_toArray, List.set_cons_succ, List.set_cons_zero])
          refine wpAnyH_take (i := 3) (v := ?_) rfl (by kernel_rfl) (by kernel_rfl) (by kernel_rfl) (fun _ _ _ h => h) (Or.inl ⟨by rfl, ?_⟩) (by assumption) ?_
          rotate_left
          · (intro W hSw; (try dsimp only at hSw); go_simp <;> with_reducible rfl)
          (try simp only [Act.put, List.getElem_toArray, List.getElem_cons_succ, List.getElem_cons_zero, List.setIfInBounds_toArray, List.set_cons_succ, List.set_cons_zero])
          refine wpAnyH_take (i := 4) (v := ?_) rfl (by kernel_rfl) (by kernel_rfl) (by kernel_rfl) (fun _ _ _ h => h) (Or.inl ⟨by rfl, ?_⟩) (by assumption) ?_
          rotate_left
          · (intro W hSw; (try dsimp only at hSw); go_simp <;> with_reducible rfl)
          (try simp only [Act.put, List.getElem_toArray, List.getElem_cons_succ, List.getElem_cons_zero, List.setIfInBounds_toArray, List.set_cons_succ, List.set_cons_zero])
          refine wpAnyH_take (i := 5) (v := ?_) rfl (by kernel_rfl) (by kernel_rfl) (by kernel_rfl) (fun _ _ _ h => h) (Or.inl ⟨by rfl, ?_⟩) (by assumption) ?_
          rotate_left
          · (intro W hSw; (try dsimp only at hSw); go_simp <;> with_reducible rfl)
          (try simp only [Act.put, List.getElem_toArray, List.getElem_cons_succ, List.getElem_cons_zero, List.setIfInBounds_toArray, List.set_cons_succ, List.set_cons_zero])
          refine wpAnyH_take (i := 6) (v := ?_) rfl (by kernel_rfl) (by kernel_rfl) (by kernel_rfl) (fun _ _ _ h => h) (Or.inl ⟨by rfl, ?_⟩) (by assumption) ?_
          rotate_left
          · (intro W hSw; (try dsimp only at hSw); go_simp <;> with_reducible rfl)
          (try simp only [Act.put, List.getElem_toArray, List.getElem_cons_succ, List.getElem_cons_zero, List.setIfInBounds_toArray, List.set_cons_succ, List.set_cons_zero])
          refine wpAnyH_take (i := 9) (v := ?_) rfl (by kernel_rfl) (by kernel_rfl) (by kernel_rfl) (fun _ _ _ h => h) (Or.inl ⟨by rfl, ?_⟩) (by assumption) ?_
          rotate_left
          · (intro W hSw; (try dsimp only at hSw); go_simp <;> with_reducible rfl)
          (try simp only [Act.put, List.getElem_toArray, List.getElem_cons_succ, List.getElem_cons_zero, List.setIfInBounds_toArray, List.set_cons_succ, List.set_cons_zero])
          refine wpAnyH_ready (rs := [1]) (by kernel_rfl) (by simp) ?_
          refine AllReadyH.cons rfl (fun K hK => ?_) AllReadyH.nil
          go_simp
          refine (implModeIndexes_any act _ _ (by exact Tr.rd_below S9.out.1 (Nat.le_refl _) _ _ RA.out)).mono ?_
          rintro e wm ⟨vm, rfl, om, bb⟩
          have S10 := Lib.hid (S9.out.new (flat_own (by simpa using om)).1 (flat_own om).2 bb)
          obtain ⟨AM, aM, rfl⟩ : ∃ A c, vm = .slice A (rangeB (act.ms.length : Int)).length c := slice_ints (S10.out.rd 0 rfl)
          have NR := Lib.hid (nil_int (S10.out.own 0 rfl).1)
          have RR := Lib.hid (rd_flat (S10.out.rd 0 rfl))
          (first | done | go_wp2_with fail | skip)
          refine hK.out _ _ (KW.out _ _ (Wr.of_below bb (Nat.le_refl _)) (by assumption)) (fun hHeld1 => ?_)
          clear hK K bb om S9
          refine wpAnyH_ready (rs := [7]) (by kernel_rfl) (by simp) ?_
          refine AllReadyH.cons rfl (fun K hK => ?_) AllReadyH.nil
          go_simp
          have hrl := range_le act.ms.length
          refine (implDiff_any (rangeB (act.ms.length : Int)) md _ _ _ (by exact RR.out) NR.out (by exact RM.out.below S10.out.1 (Nat.le_refl _)) NM.out (by omega) (by have := LM.out; omega)).mono ?_
          rintro e wd ⟨vd, rfl, od, bb⟩
          have S11 := Lib.hid ((S10.out.new (flat_own (by simpa using od)).1 (flat_own od).2 bb).drop 1)
          simp only [List.eraseIdx_cons_succ, List.eraseIdx_cons_zero] at S11
          have hdl2 := Nat.le_trans (diff_len (rangeB (act.ms.length : Int)) md) hrl
          obtain ⟨AD, aD, rfl⟩ : ∃ A c, vd = .slice A (diffB (rangeB (act.ms.length : Int)) md).length c := slice_ints (S11.out.rd 0 rfl)
          (first | done | go_wp2_with fail | skip)
          refine hK.out _ _ (KW.out _ _ (Wr.of_below bb (Nat.le_refl _)) (by assumption)) (fun hHeld7 => ?_)
          clear hK K bb od S10 NR RR
          refine wpAnyH_take (i := 8) (v := ?_) rfl (by kernel_rfl) (by kernel_rfl) (by kernel_rfl) (fun _ _ _ h => h) (Or.inl ⟨by rfl, ?_⟩) (by assumption) ?_
          rotate_left
          · (intro W hSw; (try dsimp only at hSw); go_simp <;> with_reducible rfl)
          (try simp only [Act.put, List.getElem_toArray, List.getElem_cons_succ, List.getElem_cons_zero, List.setIfInBounds_toArray, List.set_cons_succ, List.set_cons_zero])
          refine wpAnyH_done (by kernel_rfl) ?_ _
          generalize diffB (rangeB (act.ms.length : Int)) md = DD at S11 HT hdl2 ⊢
          have S12 := Lib.hid (S11.out.pick 1 rfl)
          simp only [List.eraseIdx_cons_succ, List.eraseIdx_cons_zero] at S12
          clear S11 hHeld hHeld1 hHeld7 KW
          go_wp2_with fail
          go_loopw [5, 66] (fun u i wz => ∃ (j : Nat) (F : List Nat) (FD : List Nat), j ≤ DD.length ∧ i = .int .i64 j ∧ Sn w wz [⟨rowT (TT ++ (DD.take j).map fun m => (⟨4, (k : Int), m⟩ : Lt)), u, F⟩, ⟨trI DD, .slice AD DD.length aD, FD⟩, boxI ga 55 [.string act.nm, .int .i64 act.fa, .slice M act.ms.length cm], boxI (w.heap.size + 1) 32 [.slice (some ⟨b1, o1, none⟩) d.mn.length t1, .slice (some ⟨b2, o2, none⟩) d.mx.length t2, .slice (some ⟨b3, o3, none⟩) d.md.length t3], boxI w.heap.size 28 [.int .i64 p.dl, .slice (some ⟨b4, o4, none⟩) p.acts.length c1, .slice A2 p.lks.length c2, .slice A3 p.ress.length c3, .slice A4 p.stk.length c4]]) (fun _ i _ => DD.length - (intOf i).toNat)
          case atStart => exact ⟨0, _, _, Nat.zero_le _, rfl, by simpa using S12.out⟩
          case round =>
            obtain ⟨j, FF, FD, hjl, rfl, hS⟩ := hrel
            have S13 := Lib.hid hS
            clear hS S12
            by_cases hjt : j < DD.length
            · have hjt' : (j : Int) < (DD.length : Int) := by omega
              have j0 : (0 : Int) ≤ (j : Int) := by omega
              have NX := Lib.hid (take_map_snoc (f := fun m => (⟨4, (k : Int), m⟩ : Lt)) hjt)
              have hjn : ((DD.take j).map fun m => (⟨4, (k : Int), m⟩ : Lt)).length = j := by rw [List.length_map, List.length_take]; omega
              obtain ⟨_, B9, q9, he9, y9⟩ := rdI (rd_flat (S13.out.rd 1 rfl))
              injection he9 with he9 _ he8
              subst he9 he8
              obtain ⟨b9, o9, rfl, hb9, hc9⟩ := y9 j hjt
              have z9 := hc9 j hjt
              generalize DD[j] = m9 at z9 NX
              have hT2 : (TT ++ (DD.take j).map fun m => (⟨4, (k : Int), m⟩ : Lt)).length = TT.length + j := by rw [List.length_append, hjn]
              clear hc9 y9 hb9
              have NX2 := Lib.hid (show (TT ++ (DD.take j).map fun m => (⟨4, (k : Int), m⟩ : Lt)) ++ [⟨4, (k : Int), m9⟩] = TT ++ (DD.take (j + 1)).map fun m => (⟨4, (k : Int), m⟩ : Lt) from by rw [List.append_assoc, NX.out])
              generalize (TT ++ (DD.take j).map fun m => (⟨4, (k : Int), m⟩ : Lt)) = TJ at S13 hT2 NX2
              have OW := Lib.hid (S13.out.ownT)
              rw [hT2] at OW
              have hzs := S13.out.1.size
              go_wp2_with (first | (at_builtin; refine wpList_append_own_at _ rfl (.tmp 70) (.tmp 74) 35 rfl w.heap.size 38 i0 (.agg #[.int .i64 0, .int .i64 0, .int .i64 0]) 3 24 Tryz.underlying35 hi0 hz0 hz1 hz2 rfl (by decide) _ (TT.length + j) (cells3 (TJ)) rfl (by exact OW.out.alloc _) ⟨_, 0, none⟩ 1 1 [.int .i64 4, .int .i64 (k : Int), .int .i64 m9] rfl rfl ?cq41 ?cq42 ?cq43 ?cq44 ?cq45 ?_) | fail)
              try case cq41 => (intro j u hj; have h9 := three_cells wz (.int .i64 4) (.int .i64 (k : Int)) (.int .i64 m9) 38 j u hj; first | exact h9 | simpa only [World.size_alloc] using h9)
              try case cq42 => simp [Value.oneCell']
              try case cq43 => unfold maxLen; omega
              try case cq44 => omega
              try case cq45 => first | omega | (simp at hzs ⊢; omega)
              intro v8 w14 hown8 hg8 _ hat8
              obtain ⟨F14, h9⟩ := S13.out.appT (⟨4, (k : Int), m9⟩ : Lt) ((Below.refl _ _).alloc (Nat.le_refl _) _) hown8 (by rw [hT2]) hg8 (by simpa using hat8)
              have S14 := Lib.hid h9
              clear hown8 hg8 hat8 h9 OW hzs S13
              rw [NX2.out] at S14
              go_wp2
              go_roundw
              case rel => exact ⟨j + 1, F14, FD, by omega, by go_num, S14.out⟩
              case measure => simp [intOf]; omega
            · have hjge : ¬ (j : Int) < (DD.length : Int) := by omega
              obtain rfl : j = DD.length := by omega
              rw [List.take_length, ← HT.out] at S13
              go_wp2
              go_roundw
              case rel => exact ⟨k + 1, FF, by omega, by go_num, (S13.out.drop 1).drop 1⟩
              case measure => simp [intOf]; omega
      · have ha1 := Lib.hid a1
        go_wp2_with fail
        generalize hwa : World.alloc wr _ = wa at S4 z1 z2 z3 q0 q1 q2 qf e0 e1 e2 e3 e4 ef ⊢
        clear hwa hga
        by_cases a2 : mx < p.dl - 1
        · have ha2 := Lib.hid a2
          go_wp2_with fail
          go_quiet (fail)
          generalize hwq : World.drewN _ _ = wq
          have hbq : Below wa.heap.size wa wq := hwq ▸ below_drewN (Below.refl _ _) _
          have S6 := Lib.hid (S4.out.go hbq)
          clear hwq hbq S4 z1 z2 z3 q0 q1 q2 qf e0 e1 e2 e3 e4 ef
          obtain ⟨z1, z2, z3⟩ := ZC.out _ S6.out.1
          obtain ⟨q0, q1, q2, qf⟩ := (S6.out.bk 2 rfl).c3
          have OW := Lib.hid (S6.out.ownT)
          have hzs := S6.out.1.size
          go_wp2_with (first | (at_builtin; refine wpList_append_own_at _ rfl (.tmp 47) (.tmp 55) 35 rfl w.heap.size 38 i0 (.agg #[.int .i64 0, .int .i64 0, .int .i64 0]) 3 24 Tryz.underlying35 hi0 hz0 hz1 hz2 rfl (by decide) _ ((T).length) (cells3 (T)) rfl (by exact OW.out.alloc _) ⟨_, 0, none⟩ 1 1 [.int .i64 2, .int .i64 (k : Int), .int .i64 mx] rfl rfl ?cq51 ?cq52 ?cq53 ?cq54 ?cq55 ?_) | fail)
          try case cq51 => (intro j u hj; have h9 := three_cells wq (.int .i64 2) (.int .i64 (k : Int)) (.int .i64 mx) 38 j u hj; first | exact h9 | simpa only [World.size_alloc] using h9)
          try case cq52 => simp [Value.oneCell']
          try case cq53 => unfold maxLen; omega
          try case cq54 => omega
          try case cq55 => first | omega | (simp at hzs ⊢; omega)
          intro v8 w7 hown8 hg8 _ hat8
          obtain ⟨F7, h9⟩ := S6.out.appT (⟨2, (k : Int), mx⟩ : Lt) ((Below.refl _ _).alloc (Nat.le_refl _) _) hown8 (by simp) hg8 (by simpa using hat8)
          have S7 := Lib.hid h9
          clear hown8 hg8 hat8 h9 OW hzs S6
          clear z1 z2 z3 q0 q1 q2 qf
          go_wp2_with fail
          have HT := Lib.hid (show litsK p d (k + 1) = T ++ [(⟨2, (k : Int), mx⟩ : Lt)] ++ (diffB (rangeB (act.ms.length : Int)) md).map fun m => (⟨4, (k : Int), m⟩ : Lt) from by rw [LK.out, if_neg (show ¬ 0 < mn by have := ha1.out; omega), if_pos (show mx < p.dl - 1 by have := ha2.out; omega)]; simp)
          have hTT : (T ++ [(⟨2, (k : Int), mx⟩ : Lt)]).length ≤ 5 * k + 2 := by first | omega | (simp only [List.length_append, List.length_cons, List.length_nil]; omega)
          generalize T ++ [(⟨2, (k : Int), mx⟩ : Lt)] = TT at S7 HT hTT
          obtain ⟨c0, c1', c2', cf⟩ := (S7.out.bk 1 rfl).c3
          obtain ⟨q0, q1, q2, qf⟩ := (S7.out.bk 2 rfl).c3
          have hlc := (S7.out.bk 1 rfl).lt
          have hlq := (S7.out.bk 2 rfl).lt
          obtain ⟨z1, z2, z3⟩ := ZC.out _ S7.out.1
          have hv3 := Nat.lt_of_lt_of_le hb3 S7.out.1.size
          have S9 := Lib.hid S7.out.drew1
          clear S7 LK
          have CE := Lib.hid (fun (W : World) (h : Wr [] w7.drew W) => show Hid (Wr [] w7.drew W) ∧ W.cell? ⟨ga, 0, none⟩ = some (.string act.nm) ∧ W.cell? ⟨ga, 1, none⟩ = some (.int .i64 act.fa) ∧ W.cell? ⟨ga, 2, none⟩ = some (.slice M act.ms.length cm) ∧ W.cell? ⟨w.heap.size + 1, 2, none⟩ = some (.slice (some ⟨b3, o3, none⟩) d.md.length t3) ∧ W.cell? ⟨b3, o3 + k, none⟩ = some (.slice A5 md.length c5) from ⟨Lib.hid h, (wr_cell h (p := ⟨ga, 0, none⟩) hlc (by simp)).trans (by exact by simpa using c0), (wr_cell h (p := ⟨ga, 1, none⟩) hlc (by simp)).trans (by exact by simpa using c1'), (wr_cell h (p := ⟨ga, 2, none⟩) hlc (by simp)).trans (by exact by simpa using c2'), (wr_cell h (p := ⟨w.heap.size + 1, 2, none⟩) hlq (by simp)).trans (by exact by simpa using q2), (wr_cell h (p := ⟨b3, o3 + k, none⟩) (by show b3 < _; simpa using hv3) (by simp)).trans (by exact by simpa using z3)⟩)
          have INIT := Lib.hid (CE.out _ (Wr.refl _ _))
          have KW := Lib.hid (fun (W2 W : World) (hb : Wr [] W W2) (h : Hid (Wr [] w7.drew W) ∧ W.cell? ⟨ga, 0, none⟩ = some (.string act.nm) ∧ W.cell? ⟨ga, 1, none⟩ = some (.int .i64 act.fa) ∧ W.cell? ⟨ga, 2, none⟩ = some (.slice M act.ms.length cm) ∧ W.cell? ⟨w.heap.size + 1, 2, none⟩ = some (.slice (some ⟨b3, o3, none⟩) d.md.length t3) ∧ W.cell? ⟨b3, o3 + k, none⟩ = some (.slice A5 md.length c5)) => CE.out W2 (h.1.out.trans hb))
          clear c0 c1' c2' cf q0 q1 q2 qf z1 z2 z3 hlc hlq hv3
          refine wp_region_held_drew (S := fun W => Hid (Wr [] w7.drew W) ∧ W.cell? ⟨ga, 0, none⟩ = some (.string act.nm) ∧ W.cell? ⟨ga, 1, none⟩ = some (.int .i64 act.fa) ∧ W.cell? ⟨ga, 2, none⟩ = some (.slice M act.ms.length cm) ∧ W.cell? ⟨w.heap.size + 1, 2, none⟩ = some (.slice (some ⟨b3, o3, none⟩) d.md.length t3) ∧ W.cell? ⟨b3, o3 + k, none⟩ = some (.slice A5 md.length c5)) (by kernel_rfl) INIT.out (fun hHeld => ?_)
          clear CE INIT
          refine wpAnyH_take (i := 0) (v := ?_) rfl (by kernel_rfl) (by kernel_rfl) (by kernel_rfl) (fun _ _ _ h => h) (Or.inl ⟨by rfl, ?_⟩) (by assumption) ?_
          rotate_left
          · (intro W hSw; (try dsimp only at hSw); go_simp <;> with_reducible rfl)
          (try simp only [Act.put, List.getElem_toArray, List.getElem_cons_zero, List.setIfInBounds_toArray, List.set_cons_succ, List.set_cons_zero])
          refine wpAnyH_take (i := 2) (v := ?_) rfl (by kernel_rfl) (by kernel_rfl) (by kernel_rfl) (fun _ _ _ h => h) (Or.inl ⟨by rfl, ?_⟩) (by assumption) ?_
          rotate_left
          · (intro W hSw; (try dsimp only at hSw); go_simp <;> with_reducible rfl)
          (try simp only [Act.put, List.getElem_toArray, List.getElem_cons_succ, List.getElem_cons_zero, List.setIfInBounds_toArray, List.set_cons_succ, List.set_cons_zero])
          refine wpAnyH_take (i := 3) (v := ?_) rfl (by kernel_rfl) (by kernel_rfl) (by kernel_rfl) (fun _ _ _ h => h) (Or.inl ⟨by rfl, ?_⟩) (by assumption) ?_
          rotate_left
          · (intro W hSw; (try dsimp only at hSw); go_simp <;> with_reducible rfl)
          (try simp only [Act.put, List.getElem_toArray, List.getElem_cons_succ, List.getElem_cons_zero, List.setIfInBounds_toArray, List.set_cons_succ, List.set_cons_zero])
          refine wpAnyH_take (i := 4) (v := ?_) rfl (by kernel_rfl) (by kernel_rfl) (by kernel_rfl) (fun _ _ _ h => h) (Or.inl ⟨by rfl, ?_⟩) (by assumption) ?_
          rotate_left
          · (intro W hSw; (try dsimp only at hSw); go_simp <;> with_reducible rfl)
          (try simp only [Act.put, List.getElem_toArray, List.getElem_cons_succ, List.getElem_cons_zero, List.setIfInBounds_toArray, List.set_cons_succ, List.set_cons_zero])
          refine wpAnyH_take (i := 5) (v := ?_) rfl (by kernel_rfl) (by kernel_rfl) (by kernel_rfl) (fun _ _ _ h => h) (Or.inl ⟨by rfl, ?_⟩) (by assumption) ?_
          rotate_left
          · (intro W hSw; (try dsimp only at hSw); go_simp <;> with_reducible rfl)
          (try simp only [Act.put, List.getElem_toArray, List.getElem_cons_succ, List.getElem_cons_zero, List.setIfInBounds_toArray, List.set_cons_succ, List.set_cons_zero])
          refine wpAnyH_take (i := 6) (v := ?_) rfl (by kernel_rfl) (by kernel_rfl) (by kernel_rfl) (fun _ _ _ h => h) (Or.inl ⟨by rfl, ?_⟩) (by assumption) ?_
          rotate_left
          · (intro W hSw; (try dsimp only at hSw); go_simp <;> with_reducible rfl)
          (try simp only [Act.put, List.getElem_toArray, List.getElem_cons_succ, List.getElem_cons_zero, List.setIfInBounds_toArray, List.set_cons_succ, List.set_cons_zero])
          refine wpAnyH_take (i := 9) (v := ?_) rfl (by kernel_rfl) (by kernel_rfl) (by kernel_rfl) (fun _ _ _ h => h) (Or.inl ⟨by rfl, ?_⟩) (by assumption) ?_
          rotate_left
          · (intro W hSw; (try dsimp only at hSw); go_simp <;> with_reducible rfl)
          (try simp only [Act.put, List.getElem_toArray, List.getElem_cons_succ, List.getElem_cons_zero, List.setIfInBounds_toArray, List.set_cons_succ, List.set_cons_zero])
          refine wpAnyH_ready (rs := [1]) (by kernel_rfl) (by simp) ?_
          refine AllReadyH.cons rfl (fun K hK => ?_) AllReadyH.nil
          go_simp
          refine (implModeIndexes_any act _ _ (by exact Tr.rd_below S9.out.1 (Nat.le_refl _) _ _ RA.out)).mono ?_
          rintro e wm ⟨vm, rfl, om, bb⟩
          have S10 := Lib.hid (S9.out.new (flat_own (by simpa using om)).1 (flat_own om).2 bb)
          obtain ⟨AM, aM, rfl⟩ : ∃ A c, vm = .slice A (rangeB (act.ms.length : Int)).length c := slice_ints (S10.out.rd 0 rfl)
          have NR := Lib.hid (nil_int (S10.out.own 0 rfl).1)
          have RR := Lib.hid (rd_flat (S10.out.rd 0 rfl))
          (first | done | go_wp2_with fail | skip)
          refine hK.out _ _ (KW.out _ _ (Wr.of_below bb (Nat.le_refl _)) (by assumption)) (fun hHeld1 => ?_)
          clear hK K bb om S9
          refine wpAnyH_ready (rs := [7]) (by kernel_rfl) (by simp) ?_
          refine AllReadyH.cons rfl (fun K hK => ?_) AllReadyH.nil
          go_simp
          have hrl := range_le act.ms.length
          refine (implDiff_any (rangeB (act.ms.length : Int)) md _ _ _ (by exact RR.out) NR.out (by exact RM.out.below S10.out.1 (Nat.le_refl _)) NM.out (by omega) (by have := LM.out; omega)).mono ?_
          rintro e wd ⟨vd, rfl, od, bb⟩
          have S11 := Lib.hid ((S10.out.new (flat_own (by simpa using od)).1 (flat_own od).2 bb).drop 1)
          simp only [List.eraseIdx_cons_succ, List.eraseIdx_cons_zero] at S11
          have hdl2 := Nat.le_trans (diff_len (rangeB (act.ms.length : Int)) md) hrl
          obtain ⟨AD, aD, rfl⟩ : ∃ A c, vd = .slice A (diffB (rangeB (act.ms.length : Int)) md).length c := slice_ints (S11.out.rd 0 rfl)
          (first | done | go_wp2_with fail | skip)
          refine hK.out _ _ (KW.out _ _ (Wr.of_below bb (Nat.le_refl _)) (by assumption)) (fun hHeld7 => ?_)
          clear hK K bb od S10 NR RR
          refine wpAnyH_take (i := 8) (v := ?_) rfl (by kernel_rfl) (by kernel_rfl) (by kernel_rfl) (fun _ _ _ h => h) (Or.inl ⟨by rfl, ?_⟩) (by assumption) ?_
          rotate_left
          · (intro W hSw; (try dsimp only at hSw); go_simp <;> with_reducible rfl)
          (try simp only [Act.put, List.getElem_toArray, List.getElem_cons_succ, List.getElem_cons_zero, List.setIfInBounds_toArray, List.set_cons_succ, List.set_cons_zero])
          refine wpAnyH_done (by kernel_rfl) ?_ _
          generalize diffB (rangeB (act.ms.length : Int)) md = DD at S11 HT hdl2 ⊢
          have S12 := Lib.hid (S11.out.pick 1 rfl)
          simp only [List.eraseIdx_cons_succ, List.eraseIdx_cons_zero] at S12
          clear S11 hHeld hHeld1 hHeld7 KW
          go_wp2_with fail
          go_loopw [5, 66] (fun u i wz => ∃ (j : Nat) (F : List Nat) (FD : List Nat), j ≤ DD.length ∧ i = .int .i64 j ∧ Sn w wz [⟨rowT (TT ++ (DD.take j).map fun m => (⟨4, (k : Int), m⟩ : Lt)), u, F⟩, ⟨trI DD, .slice AD DD.length aD, FD⟩, boxI ga 55 [.string act.nm, .int .i64 act.fa, .slice M act.ms.length cm], boxI (w.heap.size + 1) 32 [.slice (some ⟨b1, o1, none⟩) d.mn.length t1, .slice (some ⟨b2, o2, none⟩) d.mx.length t2, .slice (some ⟨b3, o3, none⟩) d.md.length t3], boxI w.heap.size 28 [.int .i64 p.dl, .slice (some ⟨b4, o4, none⟩) p.acts.length c1, .slice A2 p.lks.length c2, .slice A3 p.ress.length c3, .slice A4 p.stk.length c4]]) (fun _ i _ => DD.length - (intOf i).toNat)
          case atStart => exact ⟨0, _, _, Nat.zero_le _, rfl, by simpa using S12.out⟩
          case round =>
            obtain ⟨j, FF, FD, hjl, rfl, hS⟩ := hrel
            have S13 := Lib.hid hS
            clear hS S12
            by_cases hjt : j < DD.length
            · have hjt' : (j : Int) < (DD.length : Int) := by omega
              have j0 : (0 : Int) ≤ (j : Int) := by omega
              have NX := Lib.hid (take_map_snoc (f := fun m => (⟨4, (k : Int), m⟩ : Lt)) hjt)
              have hjn : ((DD.take j).map fun m => (⟨4, (k : Int), m⟩ : Lt)).length = j := by rw [List.length_map, List.length_take]; omega
              obtain ⟨_, B9, q9, he9, y9⟩ := rdI (rd_flat (S13.out.rd 1 rfl))
              injection he9 with he9 _ he8
              subst he9 he8
              obtain ⟨b9, o9, rfl, hb9, hc9⟩ := y9 j hjt
              have z9 := hc9 j hjt
              generalize DD[j] = m9 at z9 NX
              have hT2 : (TT ++ (DD.take j).map fun m => (⟨4, (k : Int), m⟩ : Lt)).length = TT.length + j := by rw [List.length_append, hjn]
              clear hc9 y9 hb9
              have NX2 := Lib.hid (show (TT ++ (DD.take j).map fun m => (⟨4, (k : Int), m⟩ : Lt)) ++ [⟨4, (k : Int), m9⟩] = TT ++ (DD.take (j + 1)).map fun m => (⟨4, (k : Int), m⟩ : Lt) from by rw [List.append_assoc, NX.out])
              generalize (TT ++ (DD.take j).map fun m => (⟨4, (k : Int), m⟩ : Lt)) = TJ at S13 hT2 NX2
              have OW := Lib.hid (S13.out.ownT)
              rw [hT2] at OW
              have hzs := S13.out.1.size
              go_wp2_with (first | (at_builtin; refine wpList_append_own_at _ rfl (.tmp 70) (.tmp 74) 35 rfl w.heap.size 38 i0 (.agg #[.int .i64 0, .int .i64 0, .int .i64 0]) 3 24 Tryz.underlying35 hi0 hz0 hz1 hz2 rfl (by decide) _ (TT.length + j) (cells3 (TJ)) rfl (by exact OW.out.alloc _) ⟨_, 0, none⟩ 1 1 [.int .i64 4, .int .i64 (k : Int), .int .i64 m9] rfl rfl ?cq61 ?cq62 ?cq63 ?cq64 ?cq65 ?_) | fail)
              try case cq61 => (intro j u hj; have h9 := three_cells wz (.int .i64 4) (.int .i64 (k : Int)) (.int .i64 m9) 38 j u hj; first | exact h9 | simpa only [World.size_alloc] using h9)
              try case cq62 => simp [Value.oneCell']
              try case cq63 => unfold maxLen; omega
              try case cq64 => omega
              try case cq65 => first | omega | (simp at hzs ⊢; omega)
              intro v8 w14 hown8 hg8 _ hat8
              obtain ⟨F14, h9⟩ := S13.out.appT (⟨4, (k : Int), m9⟩ : Lt) ((Below.refl _ _).alloc (Nat.le_refl _) _) hown8 (by rw [hT2]) hg8 (by simpa using hat8)
              have S14 := Lib.hid h9
              clear hown8 hg8 hat8 h9 OW hzs S13
              rw [NX2.out] at S14
              go_wp2
              go_roundw
              case rel => exact ⟨j + 1, F14, FD, by omega, by go_num, S14.out⟩
              case measure => simp [intOf]; omega
            · have hjge : ¬ (j : Int) < (DD.length : Int) := by omega
              obtain rfl : j = DD.length := by omega
              rw [List.take_length, ← HT.out] at S13
              go_wp2
              go_roundw
              case rel => exact ⟨k + 1, FF, by omega, by go_num, (S13.out.drop 1).drop 1⟩
              case measure => simp [intOf]; omega
        · have ha2 := Lib.hid a2
          go_wp2_with fail
          go_quiet (fail)
          generalize hwq : World.drewN _ _ = wq
          have hbq : Below wa.heap.size wa wq := hwq ▸ below_drewN (Below.refl _ _) _
          have S6 := Lib.hid (S4.out.go hbq)
          clear hwq hbq S4 z1 z2 z3 q0 q1 q2 qf e0 e1 e2 e3 e4 ef
          go_wp2_with fail
          have HT := Lib.hid (show litsK p d (k + 1) = T ++ (diffB (rangeB (act.ms.length : Int)) md).map fun m => (⟨4, (k : Int), m⟩ : Lt) from by rw [LK.out, if_neg (show ¬ 0 < mn by have := ha1.out; omega), if_neg (show ¬ mx < p.dl - 1 by have := ha2.out; omega)]; simp)
          have hTT : (T).length ≤ 5 * k + 2 := by first | omega | (simp only [List.length_append, List.length_cons, List.length_nil]; omega)
          generalize T = TT at S6 HT hTT
          obtain ⟨c0, c1', c2', cf⟩ := (S6.out.bk 1 rfl).c3
          obtain ⟨q0, q1, q2, qf⟩ := (S6.out.bk 2 rfl).c3
          have hlc := (S6.out.bk 1 rfl).lt
          have hlq := (S6.out.bk 2 rfl).lt
          obtain ⟨z1, z2, z3⟩ := ZC.out _ S6.out.1
          have hv3 := Nat.lt_of_lt_of_le hb3 S6.out.1.size
          have S9 := Lib.hid S6.out.drew1
          clear S6 LK
          have CE := Lib.hid (fun (W : World) (h : Wr [] wq.drew W) => show Hid (Wr [] wq.drew W) ∧ W.cell? ⟨ga, 0, none⟩ = some (.string act.nm) ∧ W.cell? ⟨ga, 1, none⟩ = some (.int .i64 act.fa) ∧ W.cell? ⟨ga, 2, none⟩ = some (.slice M act.ms.length cm) ∧ W.cell? ⟨w.heap.size + 1, 2, none⟩ = some (.slice (some ⟨b3, o3, none⟩) d.md.length t3) ∧ W.cell? ⟨b3, o3 + k, none⟩ = some (.slice A5 md.length c5) from ⟨Lib.hid h, (wr_cell h (p := ⟨ga, 0, none⟩) hlc (by simp)).trans (by exact by simpa using c0), (wr_cell h (p := ⟨ga, 1, none⟩) hlc (by simp)).trans (by exact by simpa using c1'), (wr_cell h (p := ⟨ga, 2, none⟩) hlc (by simp)).trans (by exact by simpa using c2'), (wr_cell h (p := ⟨w.heap.size + 1, 2, none⟩) hlq (by simp)).trans (by exact by simpa using q2), (wr_cell h (p := ⟨b3, o3 + k, none⟩) (by show b3 < _; simpa using hv3) (by simp)).trans (by exact by simpa using z3)⟩)
          have INIT := Lib.hid (CE.out _ (Wr.refl _ _))
          have KW := Lib.hid (fun (W2 W : World) (hb : Wr [] W W2) (h : Hid (Wr [] wq.drew W) ∧ W.cell? ⟨ga, 0, none⟩ = some (.string act.nm) ∧ W.cell? ⟨ga, 1, none⟩ = some (.int .i64 act.fa) ∧ W.cell? ⟨ga, 2, none⟩ = some (.slice M act.ms.length cm) ∧ W.cell? ⟨w.heap.size + 1, 2, none⟩ = some (.slice (some ⟨b3, o3, none⟩) d.md.length t3) ∧ W.cell? ⟨b3, o3 + k, none⟩ = some (.slice A5 md.length c5)) => CE.out W2 (h.1.out.trans hb))
          clear c0 c1' c2' cf q0 q1 q2 qf z1 z2 z3 hlc hlq hv3
          refine wp_region_held_drew (S := fun W => Hid (Wr [] wq.drew W) ∧ W.cell? ⟨ga, 0, none⟩ = some (.string act.nm) ∧ W.cell? ⟨ga, 1, none⟩ = some (.int .i64 act.fa) ∧ W.cell? ⟨ga, 2, none⟩ = some (.slice M act.ms.length cm) ∧ W.cell? ⟨w.heap.size + 1, 2, none⟩ = some (.slice (some ⟨b3, o3, none⟩) d.md.length t3) ∧ W.cell? ⟨b3, o3 + k, none⟩ = some (.slice A5 md.length c5)) (by kernel_rfl) INIT.out (fun hHeld => ?_)
          clear CE INIT
          refine wpAnyH_take (i := 0) (v := ?_) rfl (by kernel_rfl) (by kernel_rfl) (by kernel_rfl) (fun _ _ _ h => h) (Or.inl ⟨by rfl, ?_⟩) (by assumption) ?_
          rotate_left
          · (intro W hSw; (try dsimp only at hSw); go_simp <;> with_reducible rfl)
          (try simp only [Act.put, List.getElem_toArray, List.getElem_cons_zero, List.setIfInBounds_toArray, List.set_cons_succ, List.set_cons_zero])
          refine wpAnyH_take (i := 2) (v := ?_) rfl (by kernel_rfl) (by kernel_rfl) (by kernel_rfl) (fun _ _ _ h => h) (Or.inl ⟨by rfl, ?_⟩) (by assumption) ?_
          rotate_left
          · (intro W hSw; (try dsimp only at hSw); go_simp <;> with_reducible rfl)
          (try simp only [Act.put, List.getElem_toArray, List.getElem_cons_succ, List.getElem_cons_zero, List.setIfInBounds_toArray, List.set_cons_succ, List.set_cons_zero])
          refine wpAnyH_take (i := 3) (v := ?_) rfl (by kernel_rfl) (by kernel_rfl) (by kernel_rfl) (fun _ _ _ h => h) (Or.inl ⟨by rfl, ?_⟩) (by assumption) ?_
          rotate_left
          · (intro W hSw; (try dsimp only at hSw); go_simp <;> with_reducible rfl)
          (try simp only [Act.put, List.getElem_toArray, List.getElem_cons_succ, List.getElem_cons_zero, List.setIfInBounds_toArray, List.set_cons_succ, List.set_cons_zero])
          refine wpAnyH_take (i := 4) (v := ?_) rfl (by kernel_rfl) (by kernel_rfl) (by kernel_rfl) (fun _ _ _ h => h) (Or.inl ⟨by rfl, ?_⟩) (by assumption) ?_
          rotate_left
          · (intro W hSw; (try dsimp only at hSw); go_simp <;> with_reducible rfl)
          (try simp only [Act.put, List.getElem_toArray, List.getElem_cons_succ, List.getElem_cons_zero, List.setIfInBounds_toArray, List.set_cons_succ, List.set_cons_zero])
          refine wpAnyH_take (i := 5) (v := ?_) rfl (by kernel_rfl) (by kernel_rfl) (by kernel_rfl) (fun _ _ _ h => h) (Or.inl ⟨by rfl, ?_⟩) (by assumption) ?_
          rotate_left
          · (intro W hSw; (try dsimp only at hSw); go_simp <;> with_reducible rfl)
          (try simp only [Act.put, List.getElem_toArray, List.getElem_cons_succ, List.getElem_cons_zero, List.setIfInBounds_toArray, List.set_cons_succ, List.set_cons_zero])
          refine wpAnyH_take (i := 6) (v := ?_) rfl (by kernel_rfl) (by kernel_rfl) (by kernel_rfl) (fun _ _ _ h => h) (Or.inl ⟨by rfl, ?_⟩) (by assumption) ?_
          rotate_left
          · (intro W hSw; (try dsimp only at hSw); go_simp <;> with_reducible rfl)
          (try simp only [Act.put, List.getElem_toArray, List.getElem_cons_succ, List.getElem_cons_zero, List.setIfInBounds_toArray, List.set_cons_succ, List.set_cons_zero])
          refine wpAnyH_take (i := 9) (v := ?_) rfl (by kernel_rfl) (by kernel_rfl) (by kernel_rfl) (fun _ _ _ h => h) (Or.inl ⟨by rfl, ?_⟩) (by assumption) ?_
          rotate_left
          · (intro W hSw; (try dsimp only at hSw); go_simp <;> with_reducible rfl)
          (try simp only [Act.put, List.getElem_toArray, List.getElem_cons_succ, List.getElem_cons_zero, List.setIfInBounds_toArray, List.set_cons_succ, List.set_cons_zero])
          refine wpAnyH_ready (rs := [1]) (by kernel_rfl) (by simp) ?_
          refine AllReadyH.cons rfl (fun K hK => ?_) AllReadyH.nil
          go_simp
          refine (implModeIndexes_any act _ _ (by exact Tr.rd_below S9.out.1 (Nat.le_refl _) _ _ RA.out)).mono ?_
          rintro e wm ⟨vm, rfl, om, bb⟩
          have S10 := Lib.hid (S9.out.new (flat_own (by simpa using om)).1 (flat_own om).2 bb)
          obtain ⟨AM, aM, rfl⟩ : ∃ A c, vm = .slice A (rangeB (act.ms.length : Int)).length c := slice_ints (S10.out.rd 0 rfl)
          have NR := Lib.hid (nil_int (S10.out.own 0 rfl).1)
          have RR := Lib.hid (rd_flat (S10.out.rd 0 rfl))
          (first | done | go_wp2_with fail | skip)
          refine hK.out _ _ (KW.out _ _ (Wr.of_below bb (Nat.le_refl _)) (by assumption)) (fun hHeld1 => ?_)
          clear hK K bb om S9
          refine wpAnyH_ready (rs := [7]) (by kernel_rfl) (by simp) ?_
          refine AllReadyH.cons rfl (fun K hK => ?_) AllReadyH.nil
          go_simp
          have hrl := range_le act.ms.length
          refine (implDiff_any (rangeB (act.ms.length : Int)) md _ _ _ (by exact RR.out) NR.out (by exact RM.out.below S10.out.1 (Nat.le_refl _)) NM.out (by omega) (by have := LM.out; omega)).mono ?_
          rintro e wd ⟨vd, rfl, od, bb⟩
          have S11 := Lib.hid ((S10.out.new (flat_own (by simpa using od)).1 (flat_own od).2 bb).drop 1)
          simp only [List.eraseIdx_cons_succ, List.eraseIdx_cons_zero] at S11
          have hdl2 := Nat.le_trans (diff_len (rangeB (act.ms.length : Int)) md) hrl
          obtain ⟨AD, aD, rfl⟩ : ∃ A c, vd = .slice A (diffB (rangeB (act.ms.length : Int)) md).length c := slice_ints (S11.out.rd 0 rfl)
          (first | done | go_wp2_with fail | skip)
          refine hK.out _ _ (KW.out _ _ (Wr.of_below bb (Nat.le_refl _)) (by assumption)) (fun hHeld7 => ?_)
          clear hK K bb od S10 NR RR
          refine wpAnyH_take (i := 8) (v := ?_) rfl (by kernel_rfl) (by kernel_rfl) (by kernel_rfl) (fun _ _ _ h => h) (Or.inl ⟨by rfl, ?_⟩) (by assumption) ?_
          rotate_left
          · (intro W hSw; (try dsimp only at hSw); go_simp <;> with_reducible rfl)
          (try simp only [Act.put, List.getElem_toArray, List.getElem_cons_succ, List.getElem_cons_zero, List.setIfInBounds_toArray, List.set_cons_succ, List.set_cons_zero])
          refine wpAnyH_done (by kernel_rfl) ?_ _
          generalize diffB (rangeB (act.ms.length : Int)) md = DD at S11 HT hdl2 ⊢
          have S12 := Lib.hid (S11.out.pick 1 rfl)
          simp only [List.eraseIdx_cons_succ, List.eraseIdx_cons_zero] at S12
          clear S11 hHeld hHeld1 hHeld7 KW
          go_wp2_with fail
          go_loopw [5, 66] (fun u i wz => ∃ (j : Nat) (F : List Nat) (FD : List Nat), j ≤ DD.length ∧ i = .int .i64 j ∧ Sn w wz [⟨rowT (TT ++ (DD.take j).map fun m => (⟨4, (k : Int), m⟩ : Lt)), u, F⟩, ⟨trI DD, .slice AD DD.length aD, FD⟩, boxI ga 55 [.string act.nm, .int .i64 act.fa, .slice M act.ms.length cm], boxI (w.heap.size + 1) 32 [.slice (some ⟨b1, o1, none⟩) d.mn.length t1, .slice (some ⟨b2, o2, none⟩) d.mx.length t2, .slice (some ⟨b3, o3, none⟩) d.md.length t3], boxI w.heap.size 28 [.int .i64 p.dl, .slice (some ⟨b4, o4, none⟩) p.acts.length c1, .slice A2 p.lks.length c2, .slice A3 p.ress.length c3, .slice A4 p.stk.length c4]]) (fun _ i _ => DD.length - (intOf i).toNat)
          case atStart => exact ⟨0, _, _, Nat.zero_le _, rfl, by simpa using S12.out⟩
          case round =>
            obtain ⟨j, FF, FD, hjl, rfl, hS⟩ := hrel
            have S13 := Lib.hid hS
            clear hS S12
            by_cases hjt : j < DD.length
            · have hjt' : (j : Int) < (DD.length : Int) := by omega
              have j0 : (0 : Int) ≤ (j : Int) := by omega
              have NX := Lib.hid (take_map_snoc (f := fun m => (⟨4, (k : Int), m⟩ : Lt)) hjt)
              have hjn : ((DD.take j).map fun m => (⟨4, (k : Int), m⟩ : Lt)).length = j := by rw [List.length_map, List.length_take]; omega
              obtain ⟨_, B9, q9, he9, y9⟩ := rdI (rd_flat (S13.out.rd 1 rfl))
              injection he9 with he9 _ he8
              subst he9 he8
              obtain ⟨b9, o9, rfl, hb9, hc9⟩ := y9 j hjt
              have z9 := hc9 j hjt
              generalize DD[j] = m9 at z9 NX
              have hT2 : (TT ++ (DD.take j).map fun m => (⟨4, (k : Int), m⟩ : Lt)).length = TT.length + j := by rw [List.length_append, hjn]
              clear hc9 y9 hb9
              have NX2 := Lib.hid (show (TT ++ (DD.take j).map fun m => (⟨4, (k : Int), m⟩ : Lt)) ++ [⟨4, (k : Int), m9⟩] = TT ++ (DD.take (j + 1)).map fun m => (⟨4, (k : Int), m⟩ : Lt) from by rw [List.append_assoc, NX.out])
              generalize (TT ++ (DD.take j).map fun m => (⟨4, (k : Int), m⟩ : Lt)) = TJ at S13 hT2 NX2
              have OW := Lib.hid (S13.out.ownT)
              rw [hT2] at OW
              have hzs := S13.out.1.size
              go_wp2_with (first | (at_builtin; refine wpList_append_own_at _ rfl (.tmp 70) (.tmp 74) 35 rfl w.heap.size 38 i0 (.agg #[.int .i64 0, .int .i64 0, .int .i64 0]) 3 24 Tryz.underlying35 hi0 hz0 hz1 hz2 rfl (by decide) _ (TT.length + j) (cells3 (TJ)) rfl (by exact OW.out.alloc _) ⟨_, 0, none⟩ 1 1 [.int .i64 4, .int .i64 (k : Int), .int .i64 m9] rfl rfl ?cq71 ?cq72 ?cq73 ?cq74 ?cq75 ?_) | fail)
              try case cq71 => (intro j u hj; have h9 := three_cells wz (.int .i64 4) (.int .i64 (k : Int)) (.int .i64 m9) 38 j u hj; first | exact h9 | simpa only [World.size_alloc] using h9)
              try case cq72 => simp [Value.oneCell']
              try case cq73 => unfold maxLen; omega
              try case cq74 => omega
              try case cq75 => first | omega | (simp at hzs ⊢; omega)
              intro v8 w14 hown8 hg8 _ hat8
              obtain ⟨F14, h9⟩ := S13.out.appT (⟨4, (k : Int), m9⟩ : Lt) ((Below.refl _ _).alloc (Nat.le_refl _) _) hown8 (by rw [hT2]) hg8 (by simpa using hat8)
              have S14 := Lib.hid h9
              clear hown8 hg8 hat8 h9 OW hzs S13
              rw [NX2.out] at S14
              go_wp2
              go_roundw
              case rel => exact ⟨j + 1, F14, FD, by omega, by go_num, S14.out⟩
              case measure => simp [intOf]; omega
            · have hjge : ¬ (j : Int) < (DD.length : Int) := by omega
              obtain rfl : j = DD.length := by omega
              rw [List.take_length, ← HT.out] at S13
              go_wp2
              go_roundw
              case rel => exact ⟨k + 1, FF, by omega, by go_num, (S13.out.drop 1).drop 1⟩
              case measure => simp [intOf]; omega
    · have hge : ¬ (k : Int) < (p.acts.length : Int) := by omega
      obtain rfl : k = p.acts.length := by omega
      rw [← RES.out] at S3
      go_wp2
      go_ret
      have PO := (S3.out.own 0 rfl).1
      rw [rowT_tr] at PO
      first
        | exact ⟨_, _, rfl, PO, (S3.out.own 0 rfl).2, S3.out.1⟩
        | exact ⟨_, PO, (S3.out.own 0 rfl).2, S3.out.1⟩
        | exact ⟨_, rfl, _, PO, (S3.out.own 0 rfl).2, S3.out.1⟩
end Go.Proofs.YtdbnhdiboemmiacGreat
end
