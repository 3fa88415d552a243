/- DERIVED. The walk of the law FnLits, by contracts. -/
import Derived.Test.YtilcfbffjjdgnaaLtA
import Derived.Test.YtilcfbffjjdgnaaLtC
import Derived.Test.YtilcfbffjjdgnaaLtD
import Derived.Test.YtilcfbffjjdgnaaLtH
import Derived.Test.YtilcfbffjjdgnaaLtN
import Derived.Test.YtilcfbffjjdgnaaLtO
import Derived.Test.YtilcfbffjjdgnaaRuDr
import Derived.Test.YtilcfbffjjdgnaaTrOk
import Derived.Test.YtilcfbffjjdgnaaBts
namespace Go.Proofs.Ytilcfbffjjdgnaa
open Go.RowKit Go.Shelf
set_option linter.unusedVariables false

theorem drLt_small {p : Pj} {l : Lt} (h : DrLt p l) (hm : ∀ i, (h : i < p.acts.length) → 1 ≤ p.acts[i].ms.length ∧ p.acts[i].ms.length ≤ 2) : -99999 ≤ l.va ∧ l.va ≤ 99999 := by
  obtain ⟨n, hn, _, hv⟩ := h.ac
  have := hm n hn
  omega
theorem neg_hold {p : Pj} {l : Lt} {s : Sc} (h : DrLt p l) (hf : formB p s = true) : holdB (negL l) s = !holdB l s := by
  have F := form_of hf
  obtain ⟨n, hn, e, hv⟩ := h.ac
  have h1 : n < s.st.length := by rw [F.h1]; exact hn
  have h2 : n < s.mo.length := by rw [F.h2]; exact hn
  have hr : -100000 ≤ l.va ∧ l.va ≤ 100000 := by
    have := F.n6
    have := (aok_modes ((pok_acts F.ok).2 _ (List.getElem_mem hn))).1
    omega
  have hk := h.ki
  obtain ⟨ki, ac, va⟩ := l
  simp only at e hr hk
  rw [hold_yes (l := ⟨ki, ac, va⟩) h1 h2 e, neg_yes (l := ⟨ki, ac, va⟩) hr]
  have ek : ki = 1 ∨ ki = 2 ∨ ki = 3 ∨ ki = 4 := by omega
  rcases ek with rfl | rfl | rfl | rfl
  · show holdB ⟨2, ac, va - 1⟩ s = _
    rw [hold_yes h1 h2 e]
    show decide (s.st[n] ≤ va - 1) = !decide (va ≤ s.st[n])
    rw [Bool.eq_iff_iff]; simp; omega
  · show holdB ⟨1, ac, va + 1⟩ s = _
    rw [hold_yes h1 h2 e]
    show decide (va + 1 ≤ s.st[n]) = !decide (s.st[n] ≤ va)
    rw [Bool.eq_iff_iff]; simp; omega
  · show holdB ⟨4, ac, va⟩ s = _
    rw [hold_yes h1 h2 e]; rfl
  · show holdB ⟨3, ac, va⟩ s = _
    rw [hold_yes h1 h2 e]
    show decide (s.mo[n] = va) = !(!decide (s.mo[n] = va))
    simp
theorem cmp_range (a b : Lt) : -1 ≤ cmpLt a b ∧ cmpLt a b ≤ 1 := by
  unfold cmpLt sgn
  repeat' split
  all_goals omega
theorem ltSg_ne {k : Int} (h : 1 ≤ k ∧ k ≤ 4) : ltSg k ≠ ⟨#[]⟩ := by
  have e : k = 1 ∨ k = 2 ∨ k = 3 ∨ k = 4 := by omega
  rcases e with rfl | rfl | rfl | rfl <;> decide
set_option maxRecDepth 100000 in
set_option maxHeartbeats 16000000 in
theorem walkFnLits (c0 : Option Addr) (len0 cap0 : Nat) (zs0 : List Int) (w : World) (hz0 : IsBytes w c0 len0 cap0 zs0) :
    Calls Try.prog 3 #[.slice c0 len0 cap0] w fun e w' => e = .returned (.bool true) ∧ Below w.heap.size w w' := by
  have hlz0 := (isBytes_rd hz0).1
  have hr0 := (isBytes_rd hz0).2
  generalize hxs0 : zs0.take len0 = bs at hr0
  have hlen0 : bs.length = len0 := by rw [← hxs0]; simp; omega
  have hlm0 : bs.length ≤ maxLen := by simpa using hr0.1.1
  unfold maxLen at hlm0
  clear hz0 hxs0
  have HR := Lib.hid hr0
  clear hr0
  subst hlen0
  by_cases hbig0 : (1048576 : Int) < bs.length
  · go_enter Try.func3, Try.ntmps3
    go_wp2
    go_ret
    exact ⟨rfl, Below.refl _ _⟩
  have hl0 : bs.length ≤ 1048576 := by omega
  clear hbig0
  have S0 := Lib.hid (Sn.start w)
  go_enter Try.func3, Try.ntmps3
  go_wp2_with fail
  refine (makeProject_any c0 _ bs _ HR.out.1 HR.out.2 hl0).mono ?_
  rintro e w1 ⟨v1, p, F1, rfl, hp, o, h, b⟩
  obtain ⟨A1, c1, A2, c2, A3, c3, A4, c4, rfl, _⟩ := rdProject_t (Tr.own_rd _ _ _ o)
  have S1 := Lib.hid ((S0.out.new o h b).box 28 [.int .i64 p.dl, .slice A1 p.acts.length c1, .slice A2 p.lks.length c2, .slice A3 p.ress.length c3, .slice A4 p.stk.length c4])
  have HP := Lib.hid hp
  have POK := Lib.hid (drPj_ok hp (by omega))
  have TOK := Lib.hid (drPj_trok hp (by omega))
  have h6 : 1 ≤ p.acts.length ∧ p.acts.length ≤ 3 := ⟨hp.acts.1, hp.acts.2.1⟩
  have HMS := Lib.hid (fun i (hi : i < p.acts.length) => (⟨(hp.acts.2.2 i hi).2.2.2.1, (hp.acts.2.2 i hi).2.2.2.2.1⟩ : 1 ≤ p.acts[i].ms.length ∧ p.acts[i].ms.length ≤ 2))
  clear o h b hp S0
  go_wp2_with fail
  refine (makeSched_any p (by omega) HMS.out c0 _ bs _ _ (HR.out.1.below S1.out.1 (Nat.le_refl _)) HR.out.2 hl0 (by exact S1.out.rd 1 rfl)).mono ?_
  rintro e w2 ⟨v2, s, F2, rfl, hds, o, h, b⟩
  obtain ⟨E1, f1, E2, f2, rfl, _⟩ := rdSchedule_t (Tr.own_rd _ _ _ o)
  have S1n := Lib.hid (S1.out.new o h b)
  have FM := Lib.hid (drSc_form POK.out hds)
  clear o h b hds S1
  obtain ⟨gp, hgp⟩ : ∃ x, x = w1.heap.size := ⟨_, rfl⟩
  rw [← hgp] at S1n
  have HGP := Lib.hid hgp
  clear hgp
  rw [← HGP.out]
  obtain ⟨e0, e1, e2, e3, e4, ef⟩ := (S1n.out.bk 1 rfl).c5
  have hlp := (S1n.out.bk 1 rfl).lt
  have S2 := Lib.hid (S1n.out.box 31 [.slice E1 s.st.length f1, .slice E2 s.mo.length f2])
  obtain ⟨gs, hgs⟩ : ∃ x, x = w2.heap.size := ⟨_, rfl⟩
  rw [← hgs] at S2
  have HGS := Lib.hid hgs
  clear hgs S1n
  go_wp2_with fail
  clear e0 e1 e2 e3 e4 ef
  clear hlp
  refine (makeLit_any p (by omega) HMS.out c0 _ bs _ 1 _ (HR.out.1.below S2.out.1 (Nat.le_refl _)) HR.out.2 hl0 (by exact S2.out.rd 3 rfl)).mono ?_
  rintro e w3 ⟨l, rfl, hdl, b⟩
  have S3n := Lib.hid (S2.out.go b)
  have HDL := Lib.hid hdl
  clear b hdl S2
  rw [← HGS.out]
  obtain ⟨e0, e1, e2, e3, e4, ef⟩ := (S3n.out.bk 2 rfl).c5
  have hlp := (S3n.out.bk 2 rfl).lt
  have S3 := Lib.hid (S3n.out.box 34 [.int .i64 l.ki, .int .i64 l.ac, .int .i64 l.va])
  obtain ⟨gl, hgl⟩ : ∃ x, x = w3.heap.size := ⟨_, rfl⟩
  rw [← hgl] at S3
  have HGL := Lib.hid hgl
  clear hgl S3n
  unfold ltV
  go_wp2_with fail
  clear e0 e1 e2 e3 e4 ef
  clear hlp
  refine (makeLit_any p (by omega) HMS.out c0 _ bs _ 2 _ (HR.out.1.below S3.out.1 (Nat.le_refl _)) HR.out.2 hl0 (by exact S3.out.rd 4 rfl)).mono ?_
  rintro e w4 ⟨o, rfl, hdo, b⟩
  have S4n := Lib.hid (S3.out.go b)
  have HDO := Lib.hid hdo
  clear b hdo S3
  rw [← HGL.out]
  obtain ⟨e0, e1, e2, ef⟩ := (S4n.out.bk 0 rfl).c3
  have hll := (S4n.out.bk 0 rfl).lt
  have S4 := Lib.hid (S4n.out.box 34 [.int .i64 o.ki, .int .i64 o.ac, .int .i64 o.va])
  obtain ⟨go, hgo⟩ : ∃ x, x = w4.heap.size := ⟨_, rfl⟩
  rw [← hgo] at S4
  have HGO := Lib.hid hgo
  clear hgo S4n
  unfold ltV
  go_wp2_with fail
  clear e0 e1 e2 ef
  clear hll
  refine (implNegate_any l _).mono ?_
  rintro e w5 ⟨rfl, b⟩
  have S5n := Lib.hid (S4.out.go b)
  clear b S4
  rw [← HGO.out]
  have HK := Lib.hid (neg_hold HDL.out FM.out)
  have HNN := Lib.hid (neg_neg (drLt_small HDL.out HMS.out) HDL.out.ki)
  have HLO := Lib.hid (drLt_ok POK.out HDL.out)
  have HSG := Lib.hid (ltSg_ne HDL.out.ki)
  generalize hk : negL l = k at S5n HK HNN
  clear hk
  unfold ltV
  have S6 := Lib.hid (S5n.out.box 34 [.int .i64 k.ki, .int .i64 k.ac, .int .i64 k.va])
  obtain ⟨gk, hgk⟩ : ∃ x, x = w5.heap.size := ⟨_, rfl⟩
  rw [← hgk] at S6
  have HGK := Lib.hid hgk
  clear hgk S5n
  go_wp2_with fail
  rw [← HGK.out]
  obtain ⟨p0, p1, p2, p3, p4, pf⟩ := (S6.out.bk 5 rfl).c5
  obtain ⟨q0, q1, qf⟩ := (S6.out.bk 3 rfl).c2
  obtain ⟨l0, l1, l2, lf⟩ := (S6.out.bk 2 rfl).c3
  obtain ⟨o0, o1, o2, of⟩ := (S6.out.bk 1 rfl).c3
  obtain ⟨k0, k1, k2, kf⟩ := (S6.out.bk 0 rfl).c3
  have hlp := (S6.out.bk 5 rfl).lt
  have hlq := (S6.out.bk 3 rfl).lt
  have hll := (S6.out.bk 2 rfl).lt
  have hlo := (S6.out.bk 1 rfl).lt
  have hlk := (S6.out.bk 0 rfl).lt
  generalize World.alloc w5 _ = wv at S6 p0 p1 p2 p3 p4 q0 q1 l0 l1 l2 o0 o1 o2 k0 k1 k2 hlp hlq hll hlo hlk ⊢
  have S7 := Lib.hid S6.out.drew1
  have CE := Lib.hid (fun (W : World) (h : Wr [] wv.drew W) => show Hid (Wr [] wv.drew W) ∧ W.cell? ⟨gp, 0, none⟩ = some (.int .i64 p.dl) ∧ W.cell? ⟨gp, 1, none⟩ = some (.slice A1 p.acts.length c1) ∧ W.cell? ⟨gp, 2, none⟩ = some (.slice A2 p.lks.length c2) ∧ W.cell? ⟨gp, 3, none⟩ = some (.slice A3 p.ress.length c3) ∧ W.cell? ⟨gp, 4, none⟩ = some (.slice A4 p.stk.length c4) ∧ W.cell? ⟨gs, 0, none⟩ = some (.slice E1 s.st.length f1) ∧ W.cell? ⟨gs, 1, none⟩ = some (.slice E2 s.mo.length f2) ∧ W.cell? ⟨gl, 0, none⟩ = some (.int .i64 l.ki) ∧ W.cell? ⟨gl, 1, none⟩ = some (.int .i64 l.ac) ∧ W.cell? ⟨gl, 2, none⟩ = some (.int .i64 l.va) ∧ W.cell? ⟨go, 0, none⟩ = some (.int .i64 o.ki) ∧ W.cell? ⟨go, 1, none⟩ = some (.int .i64 o.ac) ∧ W.cell? ⟨go, 2, none⟩ = some (.int .i64 o.va) ∧ W.cell? ⟨gk, 0, none⟩ = some (.int .i64 k.ki) ∧ W.cell? ⟨gk, 1, none⟩ = some (.int .i64 k.ac) ∧ W.cell? ⟨gk, 2, none⟩ = some (.int .i64 k.va) from ⟨Lib.hid h, (wr_cell h (p := ⟨gp, 0, none⟩) hlp (by simp)).trans (by exact by simpa using p0), (wr_cell h (p := ⟨gp, 1, none⟩) hlp (by simp)).trans (by exact by simpa using p1), (wr_cell h (p := ⟨gp, 2, none⟩) hlp (by simp)).trans (by exact by simpa using p2), (wr_cell h (p := ⟨gp, 3, none⟩) hlp (by simp)).trans (by exact by simpa using p3), (wr_cell h (p := ⟨gp, 4, none⟩) hlp (by simp)).trans (by exact by simpa using p4), (wr_cell h (p := ⟨gs, 0, none⟩) hlq (by simp)).trans (by exact by simpa using q0), (wr_cell h (p := ⟨gs, 1, none⟩) hlq (by simp)).trans (by exact by simpa using q1), (wr_cell h (p := ⟨gl, 0, none⟩) hll (by simp)).trans (by exact by simpa using l0), (wr_cell h (p := ⟨gl, 1, none⟩) hll (by simp)).trans (by exact by simpa using l1), (wr_cell h (p := ⟨gl, 2, none⟩) hll (by simp)).trans (by exact by simpa using l2), (wr_cell h (p := ⟨go, 0, none⟩) hlo (by simp)).trans (by exact by simpa using o0), (wr_cell h (p := ⟨go, 1, none⟩) hlo (by simp)).trans (by exact by simpa using o1), (wr_cell h (p := ⟨go, 2, none⟩) hlo (by simp)).trans (by exact by simpa using o2), (wr_cell h (p := ⟨gk, 0, none⟩) hlk (by simp)).trans (by exact by simpa using k0), (wr_cell h (p := ⟨gk, 1, none⟩) hlk (by simp)).trans (by exact by simpa using k1), (wr_cell h (p := ⟨gk, 2, none⟩) hlk (by simp)).trans (by exact by simpa using k2)⟩)
  have INIT := Lib.hid (CE.out _ (Wr.refl _ _))
  have KW := Lib.hid (fun (W2 W : World) (hb : Wr [] W W2) (h : Hid (Wr [] wv.drew W) ∧ W.cell? ⟨gp, 0, none⟩ = some (.int .i64 p.dl) ∧ W.cell? ⟨gp, 1, none⟩ = some (.slice A1 p.acts.length c1) ∧ W.cell? ⟨gp, 2, none⟩ = some (.slice A2 p.lks.length c2) ∧ W.cell? ⟨gp, 3, none⟩ = some (.slice A3 p.ress.length c3) ∧ W.cell? ⟨gp, 4, none⟩ = some (.slice A4 p.stk.length c4) ∧ W.cell? ⟨gs, 0, none⟩ = some (.slice E1 s.st.length f1) ∧ W.cell? ⟨gs, 1, none⟩ = some (.slice E2 s.mo.length f2) ∧ W.cell? ⟨gl, 0, none⟩ = some (.int .i64 l.ki) ∧ W.cell? ⟨gl, 1, none⟩ = some (.int .i64 l.ac) ∧ W.cell? ⟨gl, 2, none⟩ = some (.int .i64 l.va) ∧ W.cell? ⟨go, 0, none⟩ = some (.int .i64 o.ki) ∧ W.cell? ⟨go, 1, none⟩ = some (.int .i64 o.ac) ∧ W.cell? ⟨go, 2, none⟩ = some (.int .i64 o.va) ∧ W.cell? ⟨gk, 0, none⟩ = some (.int .i64 k.ki) ∧ W.cell? ⟨gk, 1, none⟩ = some (.int .i64 k.ac) ∧ W.cell? ⟨gk, 2, none⟩ = some (.int .i64 k.va)) => CE.out W2 (h.1.out.trans hb))
  clear p0 p1 p2 p3 p4 pf q0 q1 qf l0 l1 l2 lf o0 o1 o2 of k0 k1 k2 kf hlp hlq hll hlo hlk S6
  refine wp_region_held_drew (S := fun W => Hid (Wr [] wv.drew W) ∧ W.cell? ⟨gp, 0, none⟩ = some (.int .i64 p.dl) ∧ W.cell? ⟨gp, 1, none⟩ = some (.slice A1 p.acts.length c1) ∧ W.cell? ⟨gp, 2, none⟩ = some (.slice A2 p.lks.length c2) ∧ W.cell? ⟨gp, 3, none⟩ = some (.slice A3 p.ress.length c3) ∧ W.cell? ⟨gp, 4, none⟩ = some (.slice A4 p.stk.length c4) ∧ W.cell? ⟨gs, 0, none⟩ = some (.slice E1 s.st.length f1) ∧ W.cell? ⟨gs, 1, none⟩ = some (.slice E2 s.mo.length f2) ∧ W.cell? ⟨gl, 0, none⟩ = some (.int .i64 l.ki) ∧ W.cell? ⟨gl, 1, none⟩ = some (.int .i64 l.ac) ∧ W.cell? ⟨gl, 2, none⟩ = some (.int .i64 l.va) ∧ W.cell? ⟨go, 0, none⟩ = some (.int .i64 o.ki) ∧ W.cell? ⟨go, 1, none⟩ = some (.int .i64 o.ac) ∧ W.cell? ⟨go, 2, none⟩ = some (.int .i64 o.va) ∧ W.cell? ⟨gk, 0, none⟩ = some (.int .i64 k.ki) ∧ W.cell? ⟨gk, 1, none⟩ = some (.int .i64 k.ac) ∧ W.cell? ⟨gk, 2, none⟩ = some (.int .i64 k.va)) (by kernel_rfl) INIT.out (fun hHeld => ?_)
  refine wpAnyH_take (i := 0) (v := ?_) rfl (by kernel_rfl) (by kernel_rfl) (by kernel_rfl) (fun _ _ _ h => h) (Or.inl ⟨by rfl, ?_⟩) (by assumption) ?_
  rotate_left
  · (intro W hSw; (try dsimp only at hSw); go_simp <;> with_reducible rfl)
  (try simp only [Act.put, List.getElem_toArray, List.getElem_cons_zero, List.setIfInBounds_toArray, List.set_cons_succ, List.set_cons_zero])
  refine wpAnyH_take (i := 1) (v := ?_) rfl (by kernel_rfl) (by kernel_rfl) (by kernel_rfl) (fun _ _ _ h => h) (Or.inl ⟨by rfl, ?_⟩) (by assumption) ?_
  rotate_left
  · (intro W hSw; (try dsimp only at hSw); go_simp <;> with_reducible rfl)
  (try simp only [Act.put, List.getElem_toArray, List.getElem_cons_succ, List.getElem_cons_zero, List.setIfInBounds_toArray, List.set_cons_succ, List.set_cons_zero])
  refine wpAnyH_ready (rs := [2]) (by kernel_rfl) (by simp) ?_
  refine AllReadyH.cons rfl (fun K hK => ?_) AllReadyH.nil
  go_simp
  go_at_call 12
  refine (implLiteralOk_any p l _ _ (by exact S7.out.rd 6 rfl) TOK.out).mono ?_
  rintro e w8 ⟨rfl, bb⟩
  have S8 := Lib.hid (S7.out.go bb)
  (first | done | go_wp2_with fail)
  refine hK.out _ _ (KW.out _ _ (Wr.of_below bb (Nat.le_refl _)) (by assumption)) (fun hHeld2 => ?_)
  clear hK K bb S7
  rw [HLO.out]
  refine wpAnyH_take (i := 3) (v := ?_) rfl (by kernel_rfl) (by kernel_rfl) (by kernel_rfl) (fun _ _ _ h => h) (Or.inl ⟨by rfl, ?_⟩) (by assumption) ?_
  rotate_left
  · (intro W hSw; (try dsimp only at hSw); go_simp <;> with_reducible rfl)
  (try simp only [Act.put, List.getElem_toArray, List.getElem_cons_succ, List.getElem_cons_zero, List.setIfInBounds_toArray, List.set_cons_succ, List.set_cons_zero])
  refine wpAnyH_take (i := 4) (v := ?_) rfl (by kernel_rfl) (by kernel_rfl) (by kernel_rfl) (fun _ _ _ h => h) (Or.inl ⟨by rfl, ?_⟩) (by assumption) ?_
  rotate_left
  · (intro W hSw; (try dsimp only at hSw); go_simp <;> with_reducible rfl)
  (try simp only [Act.put, List.getElem_toArray, List.getElem_cons_succ, List.getElem_cons_zero, List.setIfInBounds_toArray, List.set_cons_succ, List.set_cons_zero])
  refine wpAnyH_take (i := 5) (v := ?_) rfl (by kernel_rfl) (by kernel_rfl) (by kernel_rfl) (fun _ _ _ h => h) (Or.inl ⟨by rfl, ?_⟩) (by assumption) ?_
  rotate_left
  · (intro W hSw; (try dsimp only at hSw); go_simp <;> with_reducible rfl)
  (try simp only [Act.put, List.getElem_toArray, List.getElem_cons_succ, List.getElem_cons_zero, List.setIfInBounds_toArray, List.set_cons_succ, List.set_cons_zero])
  refine wpAnyH_take (i := 7) (v := ?_) rfl (by kernel_rfl) (by kernel_rfl) (by kernel_rfl) (fun _ _ _ h => h) (Or.inl ⟨by rfl, ?_⟩) (by assumption) ?_
  rotate_left
  · (intro W hSw; (try dsimp only at hSw); go_simp <;> with_reducible rfl)
  (try simp only [Act.put, List.getElem_toArray, List.getElem_cons_succ, List.getElem_cons_zero, List.setIfInBounds_toArray, List.set_cons_succ, List.set_cons_zero])
  refine wpAnyH_take (i := 8) (v := ?_) rfl (by kernel_rfl) (by kernel_rfl) (by kernel_rfl) (fun _ _ _ h => h) (Or.inl ⟨by rfl, ?_⟩) (by assumption) ?_
  rotate_left
  · (intro W hSw; (try dsimp only at hSw); go_simp <;> with_reducible rfl)
  (try simp only [Act.put, List.getElem_toArray, List.getElem_cons_succ, List.getElem_cons_zero, List.setIfInBounds_toArray, List.set_cons_succ, List.set_cons_zero])
  refine wpAnyH_ready (rs := [6]) (by kernel_rfl) (by simp) ?_
  refine AllReadyH.cons rfl (fun K hK => ?_) AllReadyH.nil
  go_simp
  go_at_call 13
  refine (implHolds_any l s _ _ (by exact S8.out.rd 4 rfl)).mono ?_
  rintro e w9 ⟨rfl, bb⟩
  have S9 := Lib.hid (S8.out.go bb)
  (first | done | go_wp2_with fail)
  refine hK.out _ _ (KW.out _ _ (Wr.of_below bb (Nat.le_refl _)) (by assumption)) (fun hHeld6 => ?_)
  clear hK K bb S8
  refine wpAnyH_ready (rs := [9]) (by kernel_rfl) (by simp) ?_
  refine AllReadyH.cons rfl (fun K hK => ?_) AllReadyH.nil
  go_simp
  go_at_call 13
  refine (implHolds_any k s _ _ (by exact S9.out.rd 4 rfl)).mono ?_
  rintro e w10 ⟨rfl, bb⟩
  have S10 := Lib.hid (S9.out.go bb)
  (first | done | go_wp2_with fail)
  refine hK.out _ _ (KW.out _ _ (Wr.of_below bb (Nat.le_refl _)) (by assumption)) (fun hHeld9 => ?_)
  clear hK K bb S9
  rw [HK.out]
  generalize holdB l s = x
  have hx : (x != !x) = true := by cases x <;> rfl
  refine wpAnyH_take (i := 10) (v := ?_) rfl (by kernel_rfl) (by kernel_rfl) (by kernel_rfl) (fun _ _ _ h => h) (Or.inl ⟨by rfl, ?_⟩) (by assumption) ?_
  rotate_left
  · (intro W hSw; (try dsimp only at hSw); go_simp <;> with_reducible rfl)
  (try simp only [Act.put, List.getElem_toArray, List.getElem_cons_succ, List.getElem_cons_zero, List.setIfInBounds_toArray, List.set_cons_succ, List.set_cons_zero])
  refine wpAnyH_take (i := 11) (v := ?_) rfl (by kernel_rfl) (by kernel_rfl) (by kernel_rfl) (fun _ _ _ h => h) (Or.inl ⟨by rfl, ?_⟩) (by assumption) ?_
  rotate_left
  · (intro W hSw; (try dsimp only at hSw); go_simp <;> with_reducible rfl)
  (try simp only [Act.put, List.getElem_toArray, List.getElem_cons_succ, List.getElem_cons_zero, List.setIfInBounds_toArray, List.set_cons_succ, List.set_cons_zero])
  refine wpAnyH_take (i := 12) (v := ?_) rfl (by kernel_rfl) (by kernel_rfl) (by kernel_rfl) (fun _ _ _ h => h) (Or.inl ⟨by rfl, ?_⟩) (by assumption) ?_
  rotate_left
  · (intro W hSw; (try dsimp only at hSw); go_simp <;> with_reducible rfl)
  (try simp only [Act.put, List.getElem_toArray, List.getElem_cons_succ, List.getElem_cons_zero, List.setIfInBounds_toArray, List.set_cons_succ, List.set_cons_zero])
  refine wpAnyH_take (i := 13) (v := ?_) rfl (by kernel_rfl) (by kernel_rfl) (by kernel_rfl) (fun _ _ _ h => h) (Or.inl ⟨by rfl, ?_⟩) (by assumption) ?_
  rotate_left
  · (intro W hSw; (try dsimp only at hSw); go_simp <;> with_reducible rfl)
  (try simp only [Act.put, List.getElem_toArray, List.getElem_cons_succ, List.getElem_cons_zero, List.setIfInBounds_toArray, List.set_cons_succ, List.set_cons_zero])
  refine wpAnyH_take (i := 15) (v := ?_) rfl (by kernel_rfl) (by kernel_rfl) (by kernel_rfl) (fun _ _ _ h => h) (Or.inl ⟨by rfl, ?_⟩) (by assumption) ?_
  rotate_left
  · (intro W hSw; (try dsimp only at hSw); go_simp <;> with_reducible rfl)
  (try simp only [Act.put, List.getElem_toArray, List.getElem_cons_succ, List.getElem_cons_zero, List.setIfInBounds_toArray, List.set_cons_succ, List.set_cons_zero])
  refine wpAnyH_ready (rs := [14]) (by kernel_rfl) (by simp) ?_
  refine AllReadyH.cons rfl (fun K hK => ?_) AllReadyH.nil
  go_simp
  go_at_call 11
  refine (implNegate_any k _).mono ?_
  rintro e w11 ⟨rfl, bb⟩
  have S11 := Lib.hid (S10.out.go bb)
  (first | done | go_wp2_with fail)
  refine hK.out _ _ (KW.out _ _ (Wr.of_below bb (Nat.le_refl _)) (by assumption)) (fun hHeld14 => ?_)
  clear hK K bb S10
  rw [HNN.out]
  unfold ltV
  refine wpAnyH_take (i := 16) (v := ?_) rfl (by kernel_rfl) (by kernel_rfl) (by kernel_rfl) (fun _ _ _ h => h) (Or.inl ⟨by rfl, ?_⟩) (by assumption) ?_
  rotate_left
  · (intro W hSw; (try dsimp only at hSw); go_simp <;> with_reducible rfl)
  (try simp only [Act.put, List.getElem_toArray, List.getElem_cons_succ, List.getElem_cons_zero, List.setIfInBounds_toArray, List.set_cons_succ, List.set_cons_zero])
  refine wpAnyH_take (i := 17) (v := ?_) rfl (by kernel_rfl) (by kernel_rfl) (by kernel_rfl) (fun _ _ _ h => h) (Or.inl ⟨by rfl, ?_⟩) (by assumption) ?_
  rotate_left
  · (intro W hSw; (try dsimp only at hSw); go_simp <;> with_reducible rfl)
  (try simp only [Act.put, List.getElem_toArray, List.getElem_cons_succ, List.getElem_cons_zero, List.setIfInBounds_toArray, List.set_cons_succ, List.set_cons_zero])
  refine wpAnyH_take (i := 18) (v := ?_) rfl (by kernel_rfl) (by kernel_rfl) (by kernel_rfl) (fun _ _ _ h => h) (Or.inl ⟨by rfl, ?_⟩) (by assumption) ?_
  rotate_left
  · (intro W hSw; (try dsimp only at hSw); go_simp <;> with_reducible rfl)
  (try simp only [Act.put, List.getElem_toArray, List.getElem_cons_succ, List.getElem_cons_zero, List.setIfInBounds_toArray, List.set_cons_succ, List.set_cons_zero])
  refine wpAnyH_take (i := 19) (v := ?_) rfl (by kernel_rfl) (by kernel_rfl) (by kernel_rfl) (fun _ _ _ h => h) (Or.inl ⟨by rfl, ?_⟩) (by assumption) ?_
  rotate_left
  · (intro W hSw; (try dsimp only at hSw); go_simp <;> with_reducible rfl)
  (try simp only [Act.put, List.getElem_toArray, List.getElem_cons_succ, List.getElem_cons_zero, List.setIfInBounds_toArray, List.set_cons_succ, List.set_cons_zero])
  refine wpAnyH_take (i := 20) (v := ?_) rfl (by kernel_rfl) (by kernel_rfl) (by kernel_rfl) (fun _ _ _ h => h) (Or.inl ⟨by rfl, ?_⟩) (by assumption) ?_
  rotate_left
  · (intro W hSw; (try dsimp only at hSw); go_simp <;> with_reducible rfl)
  (try simp only [Act.put, List.getElem_toArray, List.getElem_cons_succ, List.getElem_cons_zero, List.setIfInBounds_toArray, List.set_cons_succ, List.set_cons_zero])
  refine wpAnyH_take (i := 22) (v := ?_) rfl (by kernel_rfl) (by kernel_rfl) (by kernel_rfl) (fun _ _ _ h => h) (Or.inl ⟨by rfl, ?_⟩) (by assumption) ?_
  rotate_left
  · (intro W hSw; (try dsimp only at hSw); go_simp <;> with_reducible rfl)
  (try simp only [Act.put, List.getElem_toArray, List.getElem_cons_succ, List.getElem_cons_zero, List.setIfInBounds_toArray, List.set_cons_succ, List.set_cons_zero])
  refine wpAnyH_take (i := 23) (v := ?_) rfl (by kernel_rfl) (by kernel_rfl) (by kernel_rfl) (fun _ _ _ h => h) (Or.inl ⟨by rfl, ?_⟩) (by assumption) ?_
  rotate_left
  · (intro W hSw; (try dsimp only at hSw); go_simp <;> with_reducible rfl)
  (try simp only [Act.put, List.getElem_toArray, List.getElem_cons_succ, List.getElem_cons_zero, List.setIfInBounds_toArray, List.set_cons_succ, List.set_cons_zero])
  have HSW := Lib.hid (cmp_swap l o)
  have HZ := Lib.hid (cmp_zero l o)
  have hy := cmp_range o l
  refine wpAnyH_ready (rs := [21]) (by kernel_rfl) (by simp) ?_
  refine AllReadyH.cons rfl (fun K hK => ?_) AllReadyH.nil
  go_simp
  go_at_call 14
  refine (implCompare_any l o _).mono ?_
  rintro e w12 ⟨rfl, bb⟩
  have S12 := Lib.hid (S11.out.go bb)
  (first | done | go_wp2_with fail)
  refine hK.out _ _ (KW.out _ _ (Wr.of_below bb (Nat.le_refl _)) (by assumption)) (fun hHeld21 => ?_)
  clear hK K bb S11
  refine wpAnyH_ready (rs := [24]) (by kernel_rfl) (by simp) ?_
  refine AllReadyH.cons rfl (fun K hK => ?_) AllReadyH.nil
  go_simp
  go_at_call 14
  refine (implCompare_any o l _).mono ?_
  rintro e w13 ⟨rfl, bb⟩
  have S13 := Lib.hid (S12.out.go bb)
  (first | done | go_wp2_with fail)
  refine hK.out _ _ (KW.out _ _ (Wr.of_below bb (Nat.le_refl _)) (by assumption)) (fun hHeld24 => ?_)
  clear hK K bb S12
  rw [HSW.out] at HZ
  rw [HSW.out]
  generalize cmpLt o l = y at HSW HZ hy ⊢
  have hwn : IntKind.i64.wrap (-y) = -y := by rw [IntKind.wrap_i64]; omega
  refine wpAnyH_take (i := 25) (v := ?_) rfl (by kernel_rfl) (by kernel_rfl) (by kernel_rfl) (fun _ _ _ h => h) (Or.inl ⟨by rfl, ?_⟩) (by assumption) ?_
  rotate_left
  · (intro W hSw; (try dsimp only at hSw); go_simp <;> with_reducible rfl)
  (try simp only [Act.put, List.getElem_toArray, List.getElem_cons_succ, List.getElem_cons_zero, List.setIfInBounds_toArray, List.set_cons_succ, List.set_cons_zero])
  refine wpAnyH_take (i := 26) (v := ?_) rfl (by kernel_rfl) (by kernel_rfl) (by kernel_rfl) (fun _ _ _ h => h) (Or.inl ⟨by rfl, ?_⟩) (by assumption) ?_
  rotate_left
  · (intro W hSw; (try dsimp only at hSw); go_simp <;> with_reducible rfl)
  (try simp only [Act.put, List.getElem_toArray, List.getElem_cons_succ, List.getElem_cons_zero, List.setIfInBounds_toArray, List.set_cons_succ, List.set_cons_zero])
  refine wpAnyH_take (i := 27) (v := ?_) rfl (by kernel_rfl) (by kernel_rfl) (by kernel_rfl) (fun _ _ _ h => h) (Or.inl ⟨by rfl, ?_⟩) (by assumption) ?_
  rotate_left
  · (intro W hSw; (try dsimp only at hSw); go_simp <;> with_reducible rfl)
  (try simp only [Act.put, List.getElem_toArray, List.getElem_cons_succ, List.getElem_cons_zero, List.setIfInBounds_toArray, List.set_cons_succ, List.set_cons_zero])
  refine wpAnyH_take (i := 28) (v := ?_) rfl (by kernel_rfl) (by kernel_rfl) (by kernel_rfl) (fun _ _ _ h => h) (Or.inl ⟨by rfl, ?_⟩) (by assumption) ?_
  rotate_left
  · (intro W hSw; (try dsimp only at hSw); go_simp <;> with_reducible rfl)
  (try simp only [Act.put, List.getElem_toArray, List.getElem_cons_succ, List.getElem_cons_zero, List.setIfInBounds_toArray, List.set_cons_succ, List.set_cons_zero])
  refine wpAnyH_take (i := 29) (v := ?_) rfl (by kernel_rfl) (by kernel_rfl) (by kernel_rfl) (fun _ _ _ h => h) (Or.inl ⟨by rfl, ?_⟩) (by assumption) ?_
  rotate_left
  · (intro W hSw; (try dsimp only at hSw); go_simp <;> with_reducible rfl)
  (try simp only [Act.put, List.getElem_toArray, List.getElem_cons_succ, List.getElem_cons_zero, List.setIfInBounds_toArray, List.set_cons_succ, List.set_cons_zero])
  refine wpAnyH_take (i := 30) (v := ?_) rfl (by kernel_rfl) (by kernel_rfl) (by kernel_rfl) (fun _ _ _ h => h) (Or.inl ⟨by rfl, ?_⟩) (by assumption) ?_
  rotate_left
  · (intro W hSw; (try dsimp only at hSw); go_simp <;> with_reducible rfl)
  (try simp only [Act.put, List.getElem_toArray, List.getElem_cons_succ, List.getElem_cons_zero, List.setIfInBounds_toArray, List.set_cons_succ, List.set_cons_zero])
  refine wpAnyH_take (i := 33) (v := ?_) rfl (by kernel_rfl) (by kernel_rfl) (by kernel_rfl) (fun _ _ _ h => h) (Or.inl ⟨by rfl, ?_⟩) (by assumption) ?_
  rotate_left
  · (intro W hSw; (try dsimp only at hSw); go_simp <;> with_reducible rfl)
  (try simp only [Act.put, List.getElem_toArray, List.getElem_cons_succ, List.getElem_cons_zero, List.setIfInBounds_toArray, List.set_cons_succ, List.set_cons_zero])
  refine wpAnyH_take (i := 34) (v := ?_) rfl (by kernel_rfl) (by kernel_rfl) (by kernel_rfl) (fun _ _ _ h => h) (Or.inl ⟨by rfl, ?_⟩) (by assumption) ?_
  rotate_left
  · (intro W hSw; (try dsimp only at hSw); go_simp <;> with_reducible rfl)
  (try simp only [Act.put, List.getElem_toArray, List.getElem_cons_succ, List.getElem_cons_zero, List.setIfInBounds_toArray, List.set_cons_succ, List.set_cons_zero])
  by_cases hlo : l = o
  · subst hlo
    have hy0 : y = 0 := by have := HZ.out.2 rfl; omega
    subst hy0
    refine wpAnyH_take (i := 35) (v := ?_) rfl (by kernel_rfl) (by kernel_rfl) (by kernel_rfl) (fun _ _ _ h => h) (Or.inl ⟨by rfl, ?_⟩) (by assumption) ?_
    rotate_left
    · (intro W hSw; (try dsimp only at hSw); go_simp <;> with_reducible rfl)
    (try simp only [Act.put, List.getElem_toArray, List.getElem_cons_succ, List.getElem_cons_zero, List.setIfInBounds_toArray, List.set_cons_succ, List.set_cons_zero])
    refine wpAnyH_ready (rs := [31]) (by kernel_rfl) (by simp) ?_
    refine AllReadyH.cons rfl (fun K hK => ?_) AllReadyH.nil
    go_simp
    go_at_call 14
    refine (implCompare_any l l _).mono ?_
    rintro e w14 ⟨rfl, bb⟩
    have S14 := Lib.hid (S13.out.go bb)
    (first | done | go_wp2_with fail)
    refine hK.out _ _ (KW.out _ _ (Wr.of_below bb (Nat.le_refl _)) (by assumption)) (fun hHeld31 => ?_)
    clear hK K bb S13
    rw [HSW.out]
    refine wpAnyH_take (i := 32) (v := ?_) rfl (by kernel_rfl) (by kernel_rfl) (by kernel_rfl) (fun _ _ _ h => h) (Or.inl ⟨by rfl, ?_⟩) (by assumption) ?_
    rotate_left
    · (intro W hSw; (try dsimp only at hSw); go_simp <;> with_reducible rfl)
    (try simp only [Act.put, List.getElem_toArray, List.getElem_cons_succ, List.getElem_cons_zero, List.setIfInBounds_toArray, List.set_cons_succ, List.set_cons_zero])
    refine wpAnyH_take (i := 36) (v := ?_) rfl (by kernel_rfl) (by kernel_rfl) (by kernel_rfl) (fun _ _ _ h => h) (Or.inl ⟨by rfl, ?_⟩) (by assumption) ?_
    rotate_left
    · (intro W hSw; (try dsimp only at hSw); go_simp <;> with_reducible rfl)
    (try simp only [Act.put, List.getElem_toArray, List.getElem_cons_succ, List.getElem_cons_zero, List.setIfInBounds_toArray, List.set_cons_succ, List.set_cons_zero])
    refine wpAnyH_take (i := 37) (v := ?_) rfl (by kernel_rfl) (by kernel_rfl) (by kernel_rfl) (fun _ _ _ h => h) (Or.inl ⟨by rfl, ?_⟩) (by assumption) ?_
    rotate_left
    · (intro W hSw; (try dsimp only at hSw); go_simp <;> with_reducible rfl)
    (try simp only [Act.put, List.getElem_toArray, List.getElem_cons_succ, List.getElem_cons_zero, List.setIfInBounds_toArray, List.set_cons_succ, List.set_cons_zero])
    refine wpAnyH_take (i := 38) (v := ?_) rfl (by kernel_rfl) (by kernel_rfl) (by kernel_rfl) (fun _ _ _ h => h) (Or.inl ⟨by rfl, ?_⟩) (by assumption) ?_
    rotate_left
    · (intro W hSw; (try dsimp only at hSw); go_simp <;> with_reducible rfl)
    (try simp only [Act.put, List.getElem_toArray, List.getElem_cons_succ, List.getElem_cons_zero, List.setIfInBounds_toArray, List.set_cons_succ, List.set_cons_zero])
    refine wpAnyH_take (i := 39) (v := ?_) rfl (by kernel_rfl) (by kernel_rfl) (by kernel_rfl) (fun _ _ _ h => h) (Or.inl ⟨by rfl, ?_⟩) (by assumption) ?_
    rotate_left
    · (intro W hSw; (try dsimp only at hSw); go_simp <;> with_reducible rfl)
    (try simp only [Act.put, List.getElem_toArray, List.getElem_cons_succ, List.getElem_cons_zero, List.setIfInBounds_toArray, List.set_cons_succ, List.set_cons_zero])
    refine wpAnyH_take (i := 40) (v := ?_) rfl (by kernel_rfl) (by kernel_rfl) (by kernel_rfl) (fun _ _ _ h => h) (Or.inl ⟨by rfl, ?_⟩) (by assumption) ?_
    rotate_left
    · (intro W hSw; (try dsimp only at hSw); go_simp <;> with_reducible rfl)
    (try simp only [Act.put, List.getElem_toArray, List.getElem_cons_succ, List.getElem_cons_zero, List.setIfInBounds_toArray, List.set_cons_succ, List.set_cons_zero])
    refine wpAnyH_ready (rs := [41]) (by kernel_rfl) (by simp) ?_
    refine AllReadyH.cons rfl (fun K hK => ?_) AllReadyH.nil
    go_simp
    go_at_call 15
    refine (implLiteralSign_any l.ki _).mono ?_
    rintro e w15 ⟨rfl, bb⟩
    have S15 := Lib.hid (S14.out.go bb)
    (first | done | go_wp2_with fail)
    refine hK.out _ _ (KW.out _ _ (Wr.of_below bb (Nat.le_refl _)) (by assumption)) (fun hHeld41 => ?_)
    clear hK K bb S14
    have hsn := HSG.out
    have hsg := str_some hsn
    generalize ltSg l.ki = sg at hsn hsg ⊢
    have hsl : ¬ sg.toList = [] := fun e => by rw [e] at hsg; cases hsg
    refine wpAnyH_take (i := 42) (v := ?_) rfl (by kernel_rfl) (by kernel_rfl) (by kernel_rfl) (fun _ _ _ h => h) (Or.inl ⟨by rfl, ?_⟩) (by assumption) ?_
    rotate_left
    · (intro W hSw; (try dsimp only at hSw); go_simp <;> with_reducible rfl)
    (try simp only [Act.put, List.getElem_toArray, List.getElem_cons_succ, List.getElem_cons_zero, List.setIfInBounds_toArray, List.set_cons_succ, List.set_cons_zero])
    refine wpAnyH_take (i := 43) (v := ?_) rfl (by kernel_rfl) (by kernel_rfl) (by kernel_rfl) (fun _ _ _ h => h) (Or.inl ⟨by rfl, ?_⟩) (by assumption) ?_
    rotate_left
    · (intro W hSw; (try dsimp only at hSw); go_simp <;> with_reducible rfl)
    (try simp only [Act.put, List.getElem_toArray, List.getElem_cons_succ, List.getElem_cons_zero, List.setIfInBounds_toArray, List.set_cons_succ, List.set_cons_zero])
    refine wpAnyH_take (i := 44) (v := ?_) rfl (by kernel_rfl) (by kernel_rfl) (by kernel_rfl) (fun _ _ _ h => h) (Or.inl ⟨by rfl, ?_⟩) (by assumption) ?_
    rotate_left
    · (intro W hSw; (try dsimp only at hSw); go_simp <;> with_reducible rfl)
    (try simp only [Act.put, List.getElem_toArray, List.getElem_cons_succ, List.getElem_cons_zero, List.setIfInBounds_toArray, List.set_cons_succ, List.set_cons_zero])
    refine wpAnyH_done (by kernel_rfl) ?_ _
    go_wp2
    go_ret
    exact ⟨rfl, S15.out.1⟩
  · have hyz : (-y == 0) = false := by
      have : ¬ -y = 0 := fun e => hlo (HZ.out.1 e)
      simpa using this
    have hyn : ¬ -y = 0 := fun e => hlo (HZ.out.1 e)
    refine wpAnyH_take (i := 35) (v := .bool false) rfl (by kernel_rfl) (by kernel_rfl) (by kernel_rfl) (fun _ _ _ h => h) (Or.inl ⟨by rfl, ?_⟩) (by assumption) ?_
    · intro W hSw
      go_simp
      exact fun e1 e2 e3 => hlo (lt_ext.2 ⟨e1, e2, e3⟩)
    (try simp only [Act.put, List.getElem_toArray, List.getElem_cons_succ, List.getElem_cons_zero, List.setIfInBounds_toArray, List.set_cons_succ, List.set_cons_zero])
    refine wpAnyH_ready (rs := [31]) (by kernel_rfl) (by simp) ?_
    refine AllReadyH.cons rfl (fun K hK => ?_) AllReadyH.nil
    go_simp
    go_at_call 14
    refine (implCompare_any l o _).mono ?_
    rintro e w14 ⟨rfl, bb⟩
    have S14 := Lib.hid (S13.out.go bb)
    (first | done | go_wp2_with fail)
    refine hK.out _ _ (KW.out _ _ (Wr.of_below bb (Nat.le_refl _)) (by assumption)) (fun hHeld31 => ?_)
    clear hK K bb S13
    rw [HSW.out]
    refine wpAnyH_take (i := 32) (v := ?_) rfl (by kernel_rfl) (by kernel_rfl) (by kernel_rfl) (fun _ _ _ h => h) (Or.inl ⟨by rfl, ?_⟩) (by assumption) ?_
    rotate_left
    · (intro W hSw; (try dsimp only at hSw); go_simp <;> with_reducible rfl)
    (try simp only [Act.put, List.getElem_toArray, List.getElem_cons_succ, List.getElem_cons_zero, List.setIfInBounds_toArray, List.set_cons_succ, List.set_cons_zero])
    refine wpAnyH_take (i := 36) (v := ?_) rfl (by kernel_rfl) (by kernel_rfl) (by kernel_rfl) (fun _ _ _ h => h) (Or.inl ⟨by rfl, ?_⟩) (by assumption) ?_
    rotate_left
    · (intro W hSw; (try dsimp only at hSw); go_simp <;> with_reducible rfl)
    (try simp only [Act.put, List.getElem_toArray, List.getElem_cons_succ, List.getElem_cons_zero, List.setIfInBounds_toArray, List.set_cons_succ, List.set_cons_zero])
    refine wpAnyH_take (i := 37) (v := ?_) rfl (by kernel_rfl) (by kernel_rfl) (by kernel_rfl) (fun _ _ _ h => h) (Or.inl ⟨by rfl, ?_⟩) (by assumption) ?_
    rotate_left
    · (intro W hSw; (try dsimp only at hSw); go_simp <;> with_reducible rfl)
    (try simp only [Act.put, List.getElem_toArray, List.getElem_cons_succ, List.getElem_cons_zero, List.setIfInBounds_toArray, List.set_cons_succ, List.set_cons_zero])
    refine wpAnyH_take (i := 38) (v := ?_) rfl (by kernel_rfl) (by kernel_rfl) (by kernel_rfl) (fun _ _ _ h => h) (Or.inl ⟨by rfl, ?_⟩) (by assumption) ?_
    rotate_left
    · (intro W hSw; (try dsimp only at hSw); go_simp <;> with_reducible rfl)
    (try simp only [Act.put, List.getElem_toArray, List.getElem_cons_succ, List.getElem_cons_zero, List.setIfInBounds_toArray, List.set_cons_succ, List.set_cons_zero])
    refine wpAnyH_take (i := 39) (v := ?_) rfl (by kernel_rfl) (by kernel_rfl) (by kernel_rfl) (fun _ _ _ h => h) (Or.inl ⟨by rfl, ?_⟩) (by assumption) ?_
    rotate_left
    · (intro W hSw; (try dsimp only at hSw); go_simp <;> with_reducible rfl)
    (try simp only [Act.put, List.getElem_toArray, List.getElem_cons_succ, List.getElem_cons_zero, List.setIfInBounds_toArray, List.set_cons_succ, List.set_cons_zero])
    refine wpAnyH_take (i := 40) (v := ?_) rfl (by kernel_rfl) (by kernel_rfl) (by kernel_rfl) (fun _ _ _ h => h) (Or.inl ⟨by rfl, ?_⟩) (by assumption) ?_
    rotate_left
    · (intro W hSw; (try dsimp only at hSw); go_simp <;> with_reducible rfl)
    (try simp only [Act.put, List.getElem_toArray, List.getElem_cons_succ, List.getElem_cons_zero, List.setIfInBounds_toArray, List.set_cons_succ, List.set_cons_zero])
    refine wpAnyH_ready (rs := [41]) (by kernel_rfl) (by simp) ?_
    refine AllReadyH.cons rfl (fun K hK => ?_) AllReadyH.nil
    go_simp
    go_at_call 15
    refine (implLiteralSign_any l.ki _).mono ?_
    rintro e w15 ⟨rfl, bb⟩
    have S15 := Lib.hid (S14.out.go bb)
    (first | done | go_wp2_with fail)
    refine hK.out _ _ (KW.out _ _ (Wr.of_below bb (Nat.le_refl _)) (by assumption)) (fun hHeld41 => ?_)
    clear hK K bb S14
    have hsn := HSG.out
    have hsg := str_some hsn
    generalize ltSg l.ki = sg at hsn hsg ⊢
    have hsl : ¬ sg.toList = [] := fun e => by rw [e] at hsg; cases hsg
    refine wpAnyH_take (i := 42) (v := ?_) rfl (by kernel_rfl) (by kernel_rfl) (by kernel_rfl) (fun _ _ _ h => h) (Or.inl ⟨by rfl, ?_⟩) (by assumption) ?_
    rotate_left
    · (intro W hSw; (try dsimp only at hSw); go_simp <;> with_reducible rfl)
    (try simp only [Act.put, List.getElem_toArray, List.getElem_cons_succ, List.getElem_cons_zero, List.setIfInBounds_toArray, List.set_cons_succ, List.set_cons_zero])
    refine wpAnyH_take (i := 43) (v := ?_) rfl (by kernel_rfl) (by kernel_rfl) (by kernel_rfl) (fun _ _ _ h => h) (Or.inl ⟨by rfl, ?_⟩) (by assumption) ?_
    rotate_left
    · (intro W hSw; (try dsimp only at hSw); go_simp <;> with_reducible rfl)
    (try simp only [Act.put, List.getElem_toArray, List.getElem_cons_succ, List.getElem_cons_zero, List.setIfInBounds_toArray, List.set_cons_succ, List.set_cons_zero])
    refine wpAnyH_take (i := 44) (v := ?_) rfl (by kernel_rfl) (by kernel_rfl) (by kernel_rfl) (fun _ _ _ h => h) (Or.inl ⟨by rfl, ?_⟩) (by assumption) ?_
    rotate_left
    · (intro W hSw; (try dsimp only at hSw); go_simp <;> with_reducible rfl)
    (try simp only [Act.put, List.getElem_toArray, List.getElem_cons_succ, List.getElem_cons_zero, List.setIfInBounds_toArray, List.set_cons_succ, List.set_cons_zero])
    refine wpAnyH_done (by kernel_rfl) ?_ _
    go_wp2
    go_ret
    exact ⟨rfl, S15.out.1⟩
end Go.Proofs.Ytilcfbffjjdgnaa
