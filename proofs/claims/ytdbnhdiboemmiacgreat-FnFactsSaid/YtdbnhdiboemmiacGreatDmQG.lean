/- DERIVED. CONTRACTS of chapter 13: LiteralValue, of the program and of the model. -/
import Derived.Test.YtdbnhdiboemmiacGreatDmG
import Derived.Test.YtdbnhdiboemmiacGreatEqI
import Derived.Test.YtdbnhdiboemmiacGreatHofE
import Derived.Test.YtdbnhdiboemmiacGreatRegZ
import Derived.Deep.QuietTactic

section
namespace Go.Proofs.YtdbnhdiboemmiacGreat
open Go.RowKit Go.Shelf
set_option linter.unusedVariables false

theorem enters_setEq : ∀ args w, (callFunc 32 args).run Tryz.prog w = .ok (.enter 32 args) w := enters_of Tryz.func32 (by kernel_rfl) rfl
theorem eqL_rows (xs ys : List (List Int)) : eqL (fun x y => eqB x y) xs ys = decide (xs = ys) := eqL_dec (p := fun x y => eqB x y) (fun x y => rfl) xs ys
set_option maxRecDepth 100000 in
set_option maxHeartbeats 8000000 in
theorem implDomainEqual_any (d f : Dm) (v u : Value) (w : World) (hv : (trDm d).rd w v) (hu : (trDm f).rd w u) (hk : (trDm d).ok) (hk2 : (trDm f).ok) :
    Calls Tryz.prog 11 #[v, u] w fun e w' => e = .returned (.bool (eqD d f)) ∧ Below w.heap.size w w' := by
  obtain ⟨A1, a1, A2, a2, A3, a3, rfl, r1, r2, r3⟩ := rdDomain_t hv
  obtain ⟨B1, b1, B2, b2, B3, b3, rfl, s1, s2, s3⟩ := rdDomain_t hu
  have R1 := Lib.hid r1
  have R2 := Lib.hid r2
  have R3 := Lib.hid r3
  have T1 := Lib.hid s1
  have T2 := Lib.hid s2
  have T3 := Lib.hid s3
  have K1 := Lib.hid hk
  have K2 := Lib.hid hk2
  clear hv hu r1 r2 r3 s1 s2 s3 hk hk2
  have HE := Lib.hid (show eqD d f = (eqB d.mn f.mn && (eqB d.mx f.mx && decide (d.md = f.md))) from rfl)
  generalize eqD d f = res at HE ⊢
  have S0 := Lib.hid (((Sn.start w).box 32 [.slice A1 d.mn.length a1, .slice A2 d.mx.length a2, .slice A3 d.md.length a3]).box 32 [.slice B1 f.mn.length b1, .slice B2 f.mx.length b2, .slice B3 f.md.length b3])
  simp only [World.size_alloc] at S0
  go_enter Tryz.func11, Tryz.ntmps11
  go_wp2_with fail
  refine (slicesEqual_any d.mn f.mn _ _ _ (by exact rd_flat (S0.out.old R1.out)) (by exact rd_flat (S0.out.old T1.out))).mono ?_
  rintro e w1 ⟨rfl, b⟩
  have S1 := Lib.hid (S0.out.go b)
  clear S0 b
  obtain ⟨e0, e1, e2, ef⟩ := (S1.out.bk 1 rfl).c3
  obtain ⟨q0, q1, q2, qf⟩ := (S1.out.bk 0 rfl).c3
  generalize eqB d.mn f.mn = x1 at HE ⊢
  rcases x1 with _ | _
  · go_wp2
    go_ret
    exact ⟨ret_boo (by rw [HE.out]; rfl), S1.out.1⟩
  go_wp2_with fail
  clear e0 e1 e2 ef
  clear q0 q1 q2 qf
  refine (slicesEqual_any d.mx f.mx _ _ _ (by exact rd_flat (S1.out.old R2.out)) (by exact rd_flat (S1.out.old T2.out))).mono ?_
  rintro e w2 ⟨rfl, b⟩
  have S2 := Lib.hid (S1.out.go b)
  clear S1 b
  obtain ⟨e0, e1, e2, ef⟩ := (S2.out.bk 1 rfl).c3
  obtain ⟨q0, q1, q2, qf⟩ := (S2.out.bk 0 rfl).c3
  generalize eqB d.mx f.mx = x2 at HE ⊢
  rcases x2 with _ | _
  · go_wp2
    go_ret
    exact ⟨ret_boo (by rw [HE.out]; rfl), S2.out.1⟩
  go_wp2_with fail
  clear e0 e1 e2 ef
  clear q0 q1 q2 qf
  refine (equalFuncInt_any 32 #[] (fun x y => eqB x y) d.md f.md _ _ _ (by exact S2.out.old R3.out) (by exact S2.out.old T3.out) (by exact K1.out.2.2.1) (by exact K2.out.2.2.1) enters_setEq (fun x y v u w _ _ _ hx hy => implEqual_any x y v u w (rd_flat hx) (rd_flat hy))).mono ?_
  rintro e w3 ⟨rfl, b⟩
  have S3 := Lib.hid (S2.out.go b)
  clear S2 b
  rw [eqL_rows]
  go_wp2
  go_ret
  exact ⟨ret_boo (by rw [HE.out]; rfl), S3.out.1⟩
end Go.Proofs.YtdbnhdiboemmiacGreat
end

section
namespace Go.Proofs.YtdbnhdiboemmiacGreat
open Go.RowKit Go.Shelf
set_option linter.unusedVariables false

set_option maxRecDepth 100000 in
set_option maxHeartbeats 8000000 in
theorem implDomainSubset_any (d f : Dm) (v u : Value) (w : World) {B1 B2 : Nat} {G1 G2 : List Nat} (hv : (trDm d).own w B1 v G1) (hu : (trDm f).own w B2 u G2) (hz : (trDm d).sz ≤ 1048576) (hy : (trDm f).sz ≤ 1048576) :
    Calls Tryz.prog 12 #[v, u] w fun e w' => e = .returned (.bool (subD d f)) ∧ Below w.heap.size w w' := by
  have ZD := Lib.hid (fun j (h : j < d.md.length) => Nat.le_trans (su_at h) (by rw [dm_sz] at hz; omega : (trSu d.md).sz ≤ 1048576))
  have ZF := Lib.hid (fun j (h : j < f.md.length) => Nat.le_trans (su_at h) (by rw [dm_sz] at hy; omega : (trSu f.md).sz ≤ 1048576))
  clear hz hy
  have HD := Lib.hid (show (trDm d).rd w _ from Tr.own_rd _ _ _ hv)
  obtain ⟨v1, v2, v3, F1, F2, F3, rfl, o1, o2, o3⟩ := own_dom hv
  obtain ⟨hD1, D1, t1, rfl, y1⟩ := rdI (rd_flat (Tr.own_rd _ _ _ o1))
  obtain ⟨hD2, D2, t2, rfl, y2⟩ := rdI (rd_flat (Tr.own_rd _ _ _ o2))
  obtain ⟨hD3, D3, t3, rfl, y3⟩ := own_rowsI o3
  have Y1 := Lib.hid y1
  have Y2 := Lib.hid y2
  have Y3 := Lib.hid y3
  clear hv o1 o2 o3 y1 y2 y3
  have HE := Lib.hid (show (trDm f).rd w _ from Tr.own_rd _ _ _ hu)
  obtain ⟨v1, v2, v3, F1, F2, F3, rfl, o1, o2, o3⟩ := own_dom hu
  obtain ⟨hE1, E1, r1, rfl, x1⟩ := rdI (rd_flat (Tr.own_rd _ _ _ o1))
  obtain ⟨hE2, E2, r2, rfl, x2⟩ := rdI (rd_flat (Tr.own_rd _ _ _ o2))
  obtain ⟨hE3, E3, r3, rfl, x3⟩ := own_rowsI o3
  have X1 := Lib.hid x1
  have X2 := Lib.hid x2
  have X3 := Lib.hid x3
  clear hu o1 o2 o3 x1 x2 x3
  have S0 := Lib.hid (((Sn.start w).box 32 [.slice D1 d.mn.length t1, .slice D2 d.mx.length t2, .slice D3 d.md.length t3]).box 32 [.slice E1 f.mn.length r1, .slice E2 f.mx.length r2, .slice E3 f.md.length r3])
  simp only [World.size_alloc] at S0
  unfold maxLen at hD1 hD2 hE1 hE2
  go_enter Tryz.func12, Tryz.ntmps12
  go_wp2_with fail
  refine (hasCount_any d d.md.length _ _ (by exact S0.out.old HD.out)).mono ?_
  rintro e w1 ⟨rfl, b⟩
  have S1 := Lib.hid (S0.out.go b)
  clear S0 b
  by_cases hl : lensD d d.md.length
  rotate_left
  · rw [decide_eq_false hl]
    have HR := Lib.hid (subD_l (e := f) hl)
    go_wp2
    go_ret
    exact ⟨ret_boo HR.out.symm, S1.out.1⟩
  rw [decide_eq_true hl]
  obtain ⟨q0, q1, q2, qf⟩ := (S1.out.bk 0 rfl).c3
  go_wp2_with fail
  clear q0 q1 q2 qf
  refine (hasCount_any f d.md.length _ _ (by exact S1.out.old HE.out)).mono ?_
  rintro e w2 ⟨rfl, b⟩
  have S2 := Lib.hid (S1.out.go b)
  clear S1 b
  by_cases hm : lensD f d.md.length
  rotate_left
  · rw [decide_eq_false hm]
    have HR := Lib.hid (subD_r (d := d) hm)
    go_wp2
    go_ret
    exact ⟨ret_boo HR.out.symm, S2.out.1⟩
  rw [decide_eq_true hm]
  have LD := Lib.hid hl
  have LF := Lib.hid hm
  have l1 := hl.1
  have l2 := hl.2.1
  have g1 := hm.1
  have g2 := hm.2.1
  have g3 := hm.2.2
  clear hl hm
  obtain ⟨e0, e1, e2, ef⟩ := (S2.out.bk 1 rfl).c3
  go_wp2_with fail
  clear e0 e1 e2 ef
  go_loopw [24] (fun i wr => ∃ k : Nat, k ≤ d.md.length ∧ i = .int .i64 k ∧ Sn w wr [boxI (w.heap.size + 1) 32 [.slice E1 f.mn.length r1, .slice E2 f.mx.length r2, .slice E3 f.md.length r3], boxI w.heap.size 32 [.slice D1 d.mn.length t1, .slice D2 d.mx.length t2, .slice D3 d.md.length t3]] ∧ Hid (∀ a, a < k → subA d f a = true)) (fun i _ => d.md.length - (intOf i).toNat)
  case atStart => exact ⟨0, Nat.zero_le _, rfl, S2.out, Lib.hid (fun a ha => absurd ha (by omega))⟩
  case round =>
    obtain ⟨k, hkl, rfl, hS, GD⟩ := hrel
    have S3 := Lib.hid hS
    clear hS S2
    by_cases hlt : k < d.md.length
    · have hlt' : (k : Int) < (d.md.length : Int) := by omega
      have k0 : (0 : Int) ≤ (k : Int) := by omega
      have i1 : (k : Int) < (d.mn.length : Int) := by omega
      have i2 : (k : Int) < (d.mx.length : Int) := by omega
      have i3 : (k : Int) < (f.mn.length : Int) := by omega
      have i4 : (k : Int) < (f.mx.length : Int) := by omega
      have i5 : (k : Int) < (f.md.length : Int) := by omega
      have hkm : k < d.md.length := hlt
      obtain ⟨b1, o1, rfl, hb1, hc1⟩ := Y1.out k (by omega)
      obtain ⟨b2, o2, rfl, hb2, hc2⟩ := Y2.out k (by omega)
      obtain ⟨b3, o3, rfl, hb3, hc3⟩ := Y3.out k (by omega)
      obtain ⟨A5, c5, hc3b, rm5, nl5⟩ := hc3 k (by omega)
      obtain ⟨b6, o6, rfl, hb6, hc6⟩ := X1.out k (by omega)
      obtain ⟨b7, o7, rfl, hb7, hc7⟩ := X2.out k (by omega)
      obtain ⟨b8, o8, rfl, hb8, hc8⟩ := X3.out k (by omega)
      obtain ⟨A8, c8, hc8b, rm8, nl8⟩ := hc8 k (by omega)
      have z1 := (S3.out.1.cell (p := ⟨b1, o1 + k, none⟩) hb1).trans (hc1 k (by omega))
      have z2 := (S3.out.1.cell (p := ⟨b2, o2 + k, none⟩) hb2).trans (hc2 k (by omega))
      have z3 := (S3.out.1.cell (p := ⟨b3, o3 + k, none⟩) hb3).trans hc3b
      have z6 := (S3.out.1.cell (p := ⟨b6, o6 + k, none⟩) hb6).trans (hc6 k (by omega))
      have z7 := (S3.out.1.cell (p := ⟨b7, o7 + k, none⟩) hb7).trans (hc7 k (by omega))
      have z8 := (S3.out.1.cell (p := ⟨b8, o8 + k, none⟩) hb8).trans hc8b
      rw [← mnD_at] at z1 z6
      rw [← mxD_at] at z2 z7
      have RM := Lib.hid (rd_flat rm5)
      have RF := Lib.hid (rd_flat rm8)
      have NM := Lib.hid nl5
      have NF := Lib.hid nl8
      have LM := Lib.hid (ZD.out k (by omega))
      have LN := Lib.hid (ZF.out k (by omega))
      rw [← mdD_at (d := d)] at NM LM
      rw [← mdD_at (d := f)] at NF LN
      rw [← mdD_at (d := d)] at RM z3
      rw [← mdD_at (d := f)] at RF z8
      have GL := Lib.hid (fun h => subA_lo (d := d) (e := f) (a := k) h)
      have GH := Lib.hid (fun h => subA_hi (d := d) (e := f) (a := k) h)
      have GY := Lib.hid (fun h h2 => subA_yes (d := d) (e := f) (a := k) h h2)
      have GN := Lib.hid (fun (h : subA d f k = false) => subD_at hkm h)
      generalize mnD d k = mn at z1 GL GY
      generalize mxD d k = mx at z2 GH GY
      generalize mdD d k = md at z3 RM GY NM LM
      generalize mnD f k = nn at z6 GL GY
      generalize mxD f k = nx at z7 GH GY
      generalize mdD f k = nd at z8 RF GY NF LN
      clear hc1 hc2 hc3 hc3b rm5 hc6 hc7 hc8 hc8b rm8 nl5 nl8
      obtain ⟨q0, q1, q2, qf⟩ := (S3.out.bk 0 rfl).c3
      obtain ⟨e0, e1, e2, ef⟩ := (S3.out.bk 1 rfl).c3
      go_wp2_with fail
      have hv1 := Nat.lt_of_lt_of_le hb1 S3.out.1.size
      have hv2 := Nat.lt_of_lt_of_le hb2 S3.out.1.size
      have hv3 := Nat.lt_of_lt_of_le hb3 S3.out.1.size
      have hv6 := Nat.lt_of_lt_of_le hb6 S3.out.1.size
      have hv7 := Nat.lt_of_lt_of_le hb7 S3.out.1.size
      have hv8 := Nat.lt_of_lt_of_le hb8 S3.out.1.size
      have hlq := (S3.out.bk 0 rfl).lt
      have hle := (S3.out.bk 1 rfl).lt
      have S4 := Lib.hid S3.out.drew1
      clear S3
      have CE := Lib.hid (fun (W : World) (h : Wr [] wr.drew W) => show Hid (Wr [] wr.drew W) ∧ W.cell? ⟨w.heap.size, 0, none⟩ = some (.slice (some ⟨b1, o1, none⟩) d.mn.length t1) ∧ W.cell? ⟨w.heap.size, 1, none⟩ = some (.slice (some ⟨b2, o2, none⟩) d.mx.length t2) ∧ W.cell? ⟨w.heap.size, 2, none⟩ = some (.slice (some ⟨b3, o3, none⟩) d.md.length t3) ∧ W.cell? ⟨w.heap.size + 1, 0, none⟩ = some (.slice (some ⟨b6, o6, none⟩) f.mn.length r1) ∧ W.cell? ⟨w.heap.size + 1, 1, none⟩ = some (.slice (some ⟨b7, o7, none⟩) f.mx.length r2) ∧ W.cell? ⟨w.heap.size + 1, 2, none⟩ = some (.slice (some ⟨b8, o8, none⟩) f.md.length r3) ∧ W.cell? ⟨b1, o1 + k, none⟩ = some (.int .i64 mn) ∧ W.cell? ⟨b2, o2 + k, none⟩ = some (.int .i64 mx) ∧ W.cell? ⟨b3, o3 + k, none⟩ = some (.slice A5 md.length c5) ∧ W.cell? ⟨b6, o6 + k, none⟩ = some (.int .i64 nn) ∧ W.cell? ⟨b7, o7 + k, none⟩ = some (.int .i64 nx) ∧ W.cell? ⟨b8, o8 + k, none⟩ = some (.slice A8 nd.length c8) from ⟨Lib.hid h, (wr_cell h (p := ⟨w.heap.size, 0, none⟩) hle (by simp)).trans (by exact by simpa using e0), (wr_cell h (p := ⟨w.heap.size, 1, none⟩) hle (by simp)).trans (by exact by simpa using e1), (wr_cell h (p := ⟨w.heap.size, 2, none⟩) hle (by simp)).trans (by exact by simpa using e2), (wr_cell h (p := ⟨w.heap.size + 1, 0, none⟩) hlq (by simp)).trans (by exact by simpa using q0), (wr_cell h (p := ⟨w.heap.size + 1, 1, none⟩) hlq (by simp)).trans (by exact by simpa using q1), (wr_cell h (p := ⟨w.heap.size + 1, 2, none⟩) hlq (by simp)).trans (by exact by simpa using q2), (wr_cell h (p := ⟨b1, o1 + k, none⟩) (by show b1 < _; simpa using hv1) (by simp)).trans (by exact by simpa using z1), (wr_cell h (p := ⟨b2, o2 + k, none⟩) (by show b2 < _; simpa using hv2) (by simp)).trans (by exact by simpa using z2), (wr_cell h (p := ⟨b3, o3 + k, none⟩) (by show b3 < _; simpa using hv3) (by simp)).trans (by exact by simpa using z3), (wr_cell h (p := ⟨b6, o6 + k, none⟩) (by show b6 < _; simpa using hv6) (by simp)).trans (by exact by simpa using z6), (wr_cell h (p := ⟨b7, o7 + k, none⟩) (by show b7 < _; simpa using hv7) (by simp)).trans (by exact by simpa using z7), (wr_cell h (p := ⟨b8, o8 + k, none⟩) (by show b8 < _; simpa using hv8) (by simp)).trans (by exact by simpa using z8)⟩)
      have INIT := Lib.hid (CE.out _ (Wr.refl _ _))
      have KW := Lib.hid (fun (W2 W : World) (hb : Wr [] W W2) (h : Hid (Wr [] wr.drew W) ∧ W.cell? ⟨w.heap.size, 0, none⟩ = some (.slice (some ⟨b1, o1, none⟩) d.mn.length t1) ∧ W.cell? ⟨w.heap.size, 1, none⟩ = some (.slice (some ⟨b2, o2, none⟩) d.mx.length t2) ∧ W.cell? ⟨w.heap.size, 2, none⟩ = some (.slice (some ⟨b3, o3, none⟩) d.md.length t3) ∧ W.cell? ⟨w.heap.size + 1, 0, none⟩ = some (.slice (some ⟨b6, o6, none⟩) f.mn.length r1) ∧ W.cell? ⟨w.heap.size + 1, 1, none⟩ = some (.slice (some ⟨b7, o7, none⟩) f.mx.length r2) ∧ W.cell? ⟨w.heap.size + 1, 2, none⟩ = some (.slice (some ⟨b8, o8, none⟩) f.md.length r3) ∧ W.cell? ⟨b1, o1 + k, none⟩ = some (.int .i64 mn) ∧ W.cell? ⟨b2, o2 + k, none⟩ = some (.int .i64 mx) ∧ W.cell? ⟨b3, o3 + k, none⟩ = some (.slice A5 md.length c5) ∧ W.cell? ⟨b6, o6 + k, none⟩ = some (.int .i64 nn) ∧ W.cell? ⟨b7, o7 + k, none⟩ = some (.int .i64 nx) ∧ W.cell? ⟨b8, o8 + k, none⟩ = some (.slice A8 nd.length c8)) => CE.out W2 (h.1.out.trans hb))
      clear q0 q1 q2 qf e0 e1 e2 ef z1 z2 z3 z6 z7 z8 hlq hle hv1 hv2 hv3 hv6 hv7 hv8
      refine wp_region_held_drew (S := fun W => Hid (Wr [] wr.drew W) ∧ W.cell? ⟨w.heap.size, 0, none⟩ = some (.slice (some ⟨b1, o1, none⟩) d.mn.length t1) ∧ W.cell? ⟨w.heap.size, 1, none⟩ = some (.slice (some ⟨b2, o2, none⟩) d.mx.length t2) ∧ W.cell? ⟨w.heap.size, 2, none⟩ = some (.slice (some ⟨b3, o3, none⟩) d.md.length t3) ∧ W.cell? ⟨w.heap.size + 1, 0, none⟩ = some (.slice (some ⟨b6, o6, none⟩) f.mn.length r1) ∧ W.cell? ⟨w.heap.size + 1, 1, none⟩ = some (.slice (some ⟨b7, o7, none⟩) f.mx.length r2) ∧ W.cell? ⟨w.heap.size + 1, 2, none⟩ = some (.slice (some ⟨b8, o8, none⟩) f.md.length r3) ∧ W.cell? ⟨b1, o1 + k, none⟩ = some (.int .i64 mn) ∧ W.cell? ⟨b2, o2 + k, none⟩ = some (.int .i64 mx) ∧ W.cell? ⟨b3, o3 + k, none⟩ = some (.slice A5 md.length c5) ∧ W.cell? ⟨b6, o6 + k, none⟩ = some (.int .i64 nn) ∧ W.cell? ⟨b7, o7 + k, none⟩ = some (.int .i64 nx) ∧ W.cell? ⟨b8, o8 + k, none⟩ = some (.slice A8 nd.length c8)) (by kernel_rfl) INIT.out (fun hHeld => ?_)
      clear CE INIT
      by_cases a1 : mn < nn
      · have HR := Lib.hid (GN.out (GL.out a1))
        refine wpAnyH_take (i := 0) (v := ?_) rfl (by kernel_rfl) (by kernel_rfl) (by kernel_rfl) (fun _ _ _ h => h) (Or.inl ⟨by rfl, ?_⟩) (by assumption) ?_
        rotate_left
        · (intro W hSw; (try dsimp only at hSw); go_simp <;> with_reducible rfl)
        (try simp only [Act.put, List.getElem_toArray, List.getElem_cons_zero, List.setIfInBounds_toArray, List.set_cons_succ, List.set_cons_zero])
        refine wpAnyH_take (i := 1) (v := ?_) rfl (by kernel_rfl) (by kernel_rfl) (by kernel_rfl) (fun _ _ _ h => h) (Or.inl ⟨by rfl, ?_⟩) (by assumption) ?_
        rotate_left
        · (intro W hSw; (try dsimp only at hSw); go_simp <;> with_reducible rfl)
        (try simp only [Act.put, List.getElem_toArray, List.getElem_cons_succ, List.getElem_cons_zero, List.setIfInBounds_toArray, List.set_cons_succ, List.set_cons_zero])
        refine wpAnyH_take (i := 2) (v := ?_) rfl (by kernel_rfl) (by kernel_rfl) (by kernel_rfl) (fun _ _ _ h => h) (Or.inl ⟨by rfl, ?_⟩) (by assumption) ?_
        rotate_left
        · (intro W hSw; (try dsimp only at hSw); go_simp <;> with_reducible rfl)
        (try simp only [Act.put, List.getElem_toArray, List.getElem_cons_succ, List.getElem_cons_zero, List.setIfInBounds_toArray, List.set_cons_succ, List.set_cons_zero])
        refine wpAnyH_take (i := 3) (v := ?_) rfl (by kernel_rfl) (by kernel_rfl) (by kernel_rfl) (fun _ _ _ h => h) (Or.inl ⟨by rfl, ?_⟩) (by assumption) ?_
        rotate_left
        · (intro W hSw; (try dsimp only at hSw); go_simp <;> with_reducible rfl)
        (try simp only [Act.put, List.getElem_toArray, List.getElem_cons_succ, List.getElem_cons_zero, List.setIfInBounds_toArray, List.set_cons_succ, List.set_cons_zero])
        refine wpAnyH_take (i := 4) (v := ?_) rfl (by kernel_rfl) (by kernel_rfl) (by kernel_rfl) (fun _ _ _ h => h) (Or.inl ⟨by rfl, ?_⟩) (by assumption) ?_
        rotate_left
        · (intro W hSw; (try dsimp only at hSw); go_simp <;> with_reducible rfl)
        (try simp only [Act.put, List.getElem_toArray, List.getElem_cons_succ, List.getElem_cons_zero, List.setIfInBounds_toArray, List.set_cons_succ, List.set_cons_zero])
        refine wpAnyH_take (i := 5) (v := ?_) rfl (by kernel_rfl) (by kernel_rfl) (by kernel_rfl) (fun _ _ _ h => h) (Or.inl ⟨by rfl, ?_⟩) (by assumption) ?_
        rotate_left
        · (intro W hSw; (try dsimp only at hSw); go_simp <;> with_reducible rfl)
        (try simp only [Act.put, List.getElem_toArray, List.getElem_cons_succ, List.getElem_cons_zero, List.setIfInBounds_toArray, List.set_cons_succ, List.set_cons_zero])
        refine wpAnyH_take (i := 6) (v := ?_) rfl (by kernel_rfl) (by kernel_rfl) (by kernel_rfl) (fun _ _ _ h => h) (Or.inl ⟨by rfl, ?_⟩) (by assumption) ?_
        rotate_left
        · (intro W hSw; (try dsimp only at hSw); go_simp <;> with_reducible rfl)
        (try simp only [Act.put, List.getElem_toArray, List.getElem_cons_succ, List.getElem_cons_zero, List.setIfInBounds_toArray, List.set_cons_succ, List.set_cons_zero])
        refine wpAnyH_take (i := 7) (v := ?_) rfl (by kernel_rfl) (by kernel_rfl) (by kernel_rfl) (fun _ _ _ h => h) (Or.inl ⟨by rfl, ?_⟩) (by assumption) ?_
        rotate_left
        · (intro W hSw; (try dsimp only at hSw); go_simp <;> with_reducible rfl)
        (try simp only [Act.put, List.getElem_toArray, List.getElem_cons_succ, List.getElem_cons_zero, List.setIfInBounds_toArray, List.set_cons_succ, List.set_cons_zero])
        refine wpAnyH_take (i := 8) (v := ?_) rfl (by kernel_rfl) (by kernel_rfl) (by kernel_rfl) (fun _ _ _ h => h) (Or.inl ⟨by rfl, ?_⟩) (by assumption) ?_
        rotate_left
        · (intro W hSw; (try dsimp only at hSw); go_simp <;> with_reducible rfl)
        (try simp only [Act.put, List.getElem_toArray, List.getElem_cons_succ, List.getElem_cons_zero, List.setIfInBounds_toArray, List.set_cons_succ, List.set_cons_zero])
        refine wpAnyH_take (i := 9) (v := ?_) rfl (by kernel_rfl) (by kernel_rfl) (by kernel_rfl) (fun _ _ _ h => h) (Or.inl ⟨by rfl, ?_⟩) (by assumption) ?_
        rotate_left
        · (intro W hSw; (try dsimp only at hSw); go_simp <;> with_reducible rfl)
        (try simp only [Act.put, List.getElem_toArray, List.getElem_cons_succ, List.getElem_cons_zero, List.setIfInBounds_toArray, List.set_cons_succ, List.set_cons_zero])
        refine wpAnyH_take (i := 10) (v := ?_) rfl (by kernel_rfl) (by kernel_rfl) (by kernel_rfl) (fun _ _ _ h => h) (Or.inl ⟨by rfl, ?_⟩) (by assumption) ?_
        rotate_left
        · (intro W hSw; (try dsimp only at hSw); go_simp <;> with_reducible rfl)
        (try simp only [Act.put, List.getElem_toArray, List.getElem_cons_succ, List.getElem_cons_zero, List.setIfInBounds_toArray, List.set_cons_succ, List.set_cons_zero])
        refine wpAnyH_take (i := 11) (v := ?_) rfl (by kernel_rfl) (by kernel_rfl) (by kernel_rfl) (fun _ _ _ h => h) (Or.inl ⟨by rfl, ?_⟩) (by assumption) ?_
        rotate_left
        · (intro W hSw; (try dsimp only at hSw); go_simp <;> with_reducible rfl)
        (try simp only [Act.put, List.getElem_toArray, List.getElem_cons_succ, List.getElem_cons_zero, List.setIfInBounds_toArray, List.set_cons_succ, List.set_cons_zero])
        refine wpAnyH_take (i := 12) (v := undef) rfl (by kernel_rfl) (by kernel_rfl) (by kernel_rfl) (fun _ _ _ h => h) (Or.inr ⟨by rfl, rfl⟩) (by assumption) ?_
        (try simp only [Act.put, List.getElem_toArray, List.getElem_cons_succ, List.getElem_cons_zero, List.setIfInBounds_toArray, List.set_cons_succ, List.set_cons_zero])
        refine wpAnyH_take (i := 13) (v := undef) rfl (by kernel_rfl) (by kernel_rfl) (by kernel_rfl) (fun _ _ _ h => h) (Or.inr ⟨by rfl, rfl⟩) (by assumption) ?_
        (try simp only [Act.put, List.getElem_toArray, List.getElem_cons_succ, List.getElem_cons_zero, List.setIfInBounds_toArray, List.set_cons_succ, List.set_cons_zero])
        refine wpAnyH_take (i := 14) (v := undef) rfl (by kernel_rfl) (by kernel_rfl) (by kernel_rfl) (fun _ _ _ h => h) (Or.inr ⟨by rfl, rfl⟩) (by assumption) ?_
        (try simp only [Act.put, List.getElem_toArray, List.getElem_cons_succ, List.getElem_cons_zero, List.setIfInBounds_toArray, List.set_cons_succ, List.set_cons_zero])
        refine wpAnyH_take (i := 15) (v := undef) rfl (by kernel_rfl) (by kernel_rfl) (by kernel_rfl) (fun _ _ _ h => h) (Or.inr ⟨by rfl, rfl⟩) (by assumption) ?_
        (try simp only [Act.put, List.getElem_toArray, List.getElem_cons_succ, List.getElem_cons_zero, List.setIfInBounds_toArray, List.set_cons_succ, List.set_cons_zero])
        refine wpAnyH_take (i := 16) (v := undef) rfl (by kernel_rfl) (by kernel_rfl) (by kernel_rfl) (fun _ _ _ h => h) (Or.inr ⟨by rfl, rfl⟩) (by assumption) ?_
        (try simp only [Act.put, List.getElem_toArray, List.getElem_cons_succ, List.getElem_cons_zero, List.setIfInBounds_toArray, List.set_cons_succ, List.set_cons_zero])
        refine wpAnyH_take (i := 17) (v := undef) rfl (by kernel_rfl) (by kernel_rfl) (by kernel_rfl) (fun _ _ _ h => h) (Or.inr ⟨by rfl, rfl⟩) (by assumption) ?_
        (try simp only [Act.put, List.getElem_toArray, List.getElem_cons_succ, List.getElem_cons_zero, List.setIfInBounds_toArray, List.set_cons_succ, List.set_cons_zero])
        refine wpAnyH_take (i := 18) (v := undef) rfl (by kernel_rfl) (by kernel_rfl) (by kernel_rfl) (fun _ _ _ h => h) (Or.inr ⟨by rfl, rfl⟩) (by assumption) ?_
        (try simp only [Act.put, List.getElem_toArray, List.getElem_cons_succ, List.getElem_cons_zero, List.setIfInBounds_toArray, List.set_cons_succ, List.set_cons_zero])
        refine wpAnyH_take (i := 19) (v := undef) rfl (by kernel_rfl) (by kernel_rfl) (by kernel_rfl) (fun _ _ _ h => h) (Or.inr ⟨by rfl, rfl⟩) (by assumption) ?_
        (try simp only [Act.put, List.getElem_toArray, List.getElem_cons_succ, List.getElem_cons_zero, List.setIfInBounds_toArray, List.set_cons_succ, List.set_cons_zero])
        refine wpAnyH_take (i := 20) (v := undef) rfl (by kernel_rfl) (by kernel_rfl) (by kernel_rfl) (fun _ _ _ h => h) (Or.inr ⟨by rfl, rfl⟩) (by assumption) ?_
        (try simp only [Act.put, List.getElem_toArray, List.getElem_cons_succ, List.getElem_cons_zero, List.setIfInBounds_toArray, List.set_cons_succ, List.set_cons_zero])
        refine wpAnyH_take (i := 21) (v := undef) rfl (by kernel_rfl) (by kernel_rfl) (by kernel_rfl) (fun _ _ _ h => h) (Or.inr ⟨by rfl, rfl⟩) (by assumption) ?_
        (try simp only [Act.put, List.getElem_toArray, List.getElem_cons_succ, List.getElem_cons_zero, List.setIfInBounds_toArray, List.set_cons_succ, List.set_cons_zero])
        refine wpAnyH_take (i := 22) (v := undef) rfl (by kernel_rfl) (by kernel_rfl) (by kernel_rfl) (fun _ _ _ h => h) (Or.inr ⟨by rfl, rfl⟩) (by assumption) ?_
        (try simp only [Act.put, List.getElem_toArray, List.getElem_cons_succ, List.getElem_cons_zero, List.setIfInBounds_toArray, List.set_cons_succ, List.set_cons_zero])
        refine wpAnyH_take (i := 23) (v := ?_) rfl (by kernel_rfl) (by kernel_rfl) (by kernel_rfl) (fun _ _ _ h => h) (Or.inl ⟨by rfl, ?_⟩) (by assumption) ?_
        rotate_left
        · (intro W hSw; (try dsimp only at hSw); go_simp <;> with_reducible rfl)
        (try simp only [Act.put, List.getElem_toArray, List.getElem_cons_succ, List.getElem_cons_zero, List.setIfInBounds_toArray, List.set_cons_succ, List.set_cons_zero])
        refine wpAnyH_take (i := 24) (v := ?_) rfl (by kernel_rfl) (by kernel_rfl) (by kernel_rfl) (fun _ _ _ h => h) (Or.inl ⟨by rfl, ?_⟩) (by assumption) ?_
        rotate_left
        · (intro W hSw; (try dsimp only at hSw); go_simp <;> with_reducible rfl)
        (try simp only [Act.put, List.getElem_toArray, List.getElem_cons_succ, List.getElem_cons_zero, List.setIfInBounds_toArray, List.set_cons_succ, List.set_cons_zero])
        refine wpAnyH_take (i := 25) (v := undef) rfl (by kernel_rfl) (by kernel_rfl) (by kernel_rfl) (fun _ _ _ h => h) (Or.inr ⟨by rfl, rfl⟩) (by assumption) ?_
        (try simp only [Act.put, List.getElem_toArray, List.getElem_cons_succ, List.getElem_cons_zero, List.setIfInBounds_toArray, List.set_cons_succ, List.set_cons_zero])
        refine wpAnyH_take (i := 26) (v := undef) rfl (by kernel_rfl) (by kernel_rfl) (by kernel_rfl) (fun _ _ _ h => h) (Or.inr ⟨by rfl, rfl⟩) (by assumption) ?_
        (try simp only [Act.put, List.getElem_toArray, List.getElem_cons_succ, List.getElem_cons_zero, List.setIfInBounds_toArray, List.set_cons_succ, List.set_cons_zero])
        refine wpAnyH_take (i := 27) (v := undef) rfl (by kernel_rfl) (by kernel_rfl) (by kernel_rfl) (fun _ _ _ h => h) (Or.inr ⟨by rfl, rfl⟩) (by assumption) ?_
        (try simp only [Act.put, List.getElem_toArray, List.getElem_cons_succ, List.getElem_cons_zero, List.setIfInBounds_toArray, List.set_cons_succ, List.set_cons_zero])
        refine wpAnyH_take (i := 28) (v := undef) rfl (by kernel_rfl) (by kernel_rfl) (by kernel_rfl) (fun _ _ _ h => h) (Or.inr ⟨by rfl, rfl⟩) (by assumption) ?_
        (try simp only [Act.put, List.getElem_toArray, List.getElem_cons_succ, List.getElem_cons_zero, List.setIfInBounds_toArray, List.set_cons_succ, List.set_cons_zero])
        refine wpAnyH_take (i := 29) (v := undef) rfl (by kernel_rfl) (by kernel_rfl) (by kernel_rfl) (fun _ _ _ h => h) (Or.inr ⟨by rfl, rfl⟩) (by assumption) ?_
        (try simp only [Act.put, List.getElem_toArray, List.getElem_cons_succ, List.getElem_cons_zero, List.setIfInBounds_toArray, List.set_cons_succ, List.set_cons_zero])
        refine wpAnyH_take (i := 30) (v := undef) rfl (by kernel_rfl) (by kernel_rfl) (by kernel_rfl) (fun _ _ _ h => h) (Or.inr ⟨by rfl, rfl⟩) (by assumption) ?_
        (try simp only [Act.put, List.getElem_toArray, List.getElem_cons_succ, List.getElem_cons_zero, List.setIfInBounds_toArray, List.set_cons_succ, List.set_cons_zero])
        refine wpAnyH_take (i := 31) (v := undef) rfl (by kernel_rfl) (by kernel_rfl) (by kernel_rfl) (fun _ _ _ h => h) (Or.inr ⟨by rfl, rfl⟩) (by assumption) ?_
        (try simp only [Act.put, List.getElem_toArray, List.getElem_cons_succ, List.getElem_cons_zero, List.setIfInBounds_toArray, List.set_cons_succ, List.set_cons_zero])
        refine wpAnyH_take (i := 32) (v := undef) rfl (by kernel_rfl) (by kernel_rfl) (by kernel_rfl) (fun _ _ _ h => h) (Or.inr ⟨by rfl, rfl⟩) (by assumption) ?_
        (try simp only [Act.put, List.getElem_toArray, List.getElem_cons_succ, List.getElem_cons_zero, List.setIfInBounds_toArray, List.set_cons_succ, List.set_cons_zero])
        refine wpAnyH_take (i := 33) (v := ?_) rfl (by kernel_rfl) (by kernel_rfl) (by kernel_rfl) (fun _ _ _ h => h) (Or.inl ⟨by rfl, ?_⟩) (by assumption) ?_
        rotate_left
        · (intro W hSw; (try dsimp only at hSw); go_simp <;> with_reducible rfl)
        (try simp only [Act.put, List.getElem_toArray, List.getElem_cons_succ, List.getElem_cons_zero, List.setIfInBounds_toArray, List.set_cons_succ, List.set_cons_zero])
        refine wpAnyH_done (by kernel_rfl) ?_ _
        go_wp2
        go_ret
        exact ⟨ret_boo HR.out.symm, S4.out.1⟩
      by_cases a2 : nx < mx
      · have HR := Lib.hid (GN.out (GH.out a2))
        refine wpAnyH_take (i := 0) (v := ?_) rfl (by kernel_rfl) (by kernel_rfl) (by kernel_rfl) (fun _ _ _ h => h) (Or.inl ⟨by rfl, ?_⟩) (by assumption) ?_
        rotate_left
        · (intro W hSw; (try dsimp only at hSw); go_simp <;> with_reducible rfl)
        (try simp only [Act.put, List.getElem_toArray, List.getElem_cons_zero, List.setIfInBounds_toArray, List.set_cons_succ, List.set_cons_zero])
        refine wpAnyH_take (i := 1) (v := ?_) rfl (by kernel_rfl) (by kernel_rfl) (by kernel_rfl) (fun _ _ _ h => h) (Or.inl ⟨by rfl, ?_⟩) (by assumption) ?_
        rotate_left
        · (intro W hSw; (try dsimp only at hSw); go_simp <;> with_reducible rfl)
        (try simp only [Act.put, List.getElem_toArray, List.getElem_cons_succ, List.getElem_cons_zero, List.setIfInBounds_toArray, List.set_cons_succ, List.set_cons_zero])
        refine wpAnyH_take (i := 2) (v := ?_) rfl (by kernel_rfl) (by kernel_rfl) (by kernel_rfl) (fun _ _ _ h => h) (Or.inl ⟨by rfl, ?_⟩) (by assumption) ?_
        rotate_left
        · (intro W hSw; (try dsimp only at hSw); go_simp <;> with_reducible rfl)
        (try simp only [Act.put, List.getElem_toArray, List.getElem_cons_succ, List.getElem_cons_zero, List.setIfInBounds_toArray, List.set_cons_succ, List.set_cons_zero])
        refine wpAnyH_take (i := 3) (v := ?_) rfl (by kernel_rfl) (by kernel_rfl) (by kernel_rfl) (fun _ _ _ h => h) (Or.inl ⟨by rfl, ?_⟩) (by assumption) ?_
        rotate_left
        · (intro W hSw; (try dsimp only at hSw); go_simp <;> with_reducible rfl)
        (try simp only [Act.put, List.getElem_toArray, List.getElem_cons_succ, List.getElem_cons_zero, List.setIfInBounds_toArray, List.set_cons_succ, List.set_cons_zero])
        refine wpAnyH_take (i := 4) (v := ?_) rfl (by kernel_rfl) (by kernel_rfl) (by kernel_rfl) (fun _ _ _ h => h) (Or.inl ⟨by rfl, ?_⟩) (by assumption) ?_
        rotate_left
        · (intro W hSw; (try dsimp only at hSw); go_simp <;> with_reducible rfl)
        (try simp only [Act.put, List.getElem_toArray, List.getElem_cons_succ, List.getElem_cons_zero, List.setIfInBounds_toArray, List.set_cons_succ, List.set_cons_zero])
        refine wpAnyH_take (i := 5) (v := ?_) rfl (by kernel_rfl) (by kernel_rfl) (by kernel_rfl) (fun _ _ _ h => h) (Or.inl ⟨by rfl, ?_⟩) (by assumption) ?_
        rotate_left
        · (intro W hSw; (try dsimp only at hSw); go_simp <;> with_reducible rfl)
        (try simp only [Act.put, List.getElem_toArray, List.getElem_cons_succ, List.getElem_cons_zero, List.setIfInBounds_toArray, List.set_cons_succ, List.set_cons_zero])
        refine wpAnyH_take (i := 6) (v := ?_) rfl (by kernel_rfl) (by kernel_rfl) (by kernel_rfl) (fun _ _ _ h => h) (Or.inl ⟨by rfl, ?_⟩) (by assumption) ?_
        rotate_left
        · (intro W hSw; (try dsimp only at hSw); go_simp <;> with_reducible rfl)
        (try simp only [Act.put, List.getElem_toArray, List.getElem_cons_succ, List.getElem_cons_zero, List.setIfInBounds_toArray, List.set_cons_succ, List.set_cons_zero])
        refine wpAnyH_take (i := 7) (v := ?_) rfl (by kernel_rfl) (by kernel_rfl) (by kernel_rfl) (fun _ _ _ h => h) (Or.inl ⟨by rfl, ?_⟩) (by assumption) ?_
        rotate_left
        · (intro W hSw; (try dsimp only at hSw); go_simp <;> with_reducible rfl)
        (try simp only [Act.put, List.getElem_toArray, List.getElem_cons_succ, List.getElem_cons_zero, List.setIfInBounds_toArray, List.set_cons_succ, List.set_cons_zero])
        refine wpAnyH_take (i := 8) (v := ?_) rfl (by kernel_rfl) (by kernel_rfl) (by kernel_rfl) (fun _ _ _ h => h) (Or.inl ⟨by rfl, ?_⟩) (by assumption) ?_
        rotate_left
        · (intro W hSw; (try dsimp only at hSw); go_simp <;> with_reducible rfl)
        (try simp only [Act.put, List.getElem_toArray, List.getElem_cons_succ, List.getElem_cons_zero, List.setIfInBounds_toArray, List.set_cons_succ, List.set_cons_zero])
        refine wpAnyH_take (i := 9) (v := ?_) rfl (by kernel_rfl) (by kernel_rfl) (by kernel_rfl) (fun _ _ _ h => h) (Or.inl ⟨by rfl, ?_⟩) (by assumption) ?_
        rotate_left
        · (intro W hSw; (try dsimp only at hSw); go_simp <;> with_reducible rfl)
        (try simp only [Act.put, List.getElem_toArray, List.getElem_cons_succ, List.getElem_cons_zero, List.setIfInBounds_toArray, List.set_cons_succ, List.set_cons_zero])
        refine wpAnyH_take (i := 10) (v := ?_) rfl (by kernel_rfl) (by kernel_rfl) (by kernel_rfl) (fun _ _ _ h => h) (Or.inl ⟨by rfl, ?_⟩) (by assumption) ?_
        rotate_left
        · (intro W hSw; (try dsimp only at hSw); go_simp <;> with_reducible rfl)
        (try simp only [Act.put, List.getElem_toArray, List.getElem_cons_succ, List.getElem_cons_zero, List.setIfInBounds_toArray, List.set_cons_succ, List.set_cons_zero])
        refine wpAnyH_take (i := 11) (v := ?_) rfl (by kernel_rfl) (by kernel_rfl) (by kernel_rfl) (fun _ _ _ h => h) (Or.inl ⟨by rfl, ?_⟩) (by assumption) ?_
        rotate_left
        · (intro W hSw; (try dsimp only at hSw); go_simp <;> with_reducible rfl)
        (try simp only [Act.put, List.getElem_toArray, List.getElem_cons_succ, List.getElem_cons_zero, List.setIfInBounds_toArray, List.set_cons_succ, List.set_cons_zero])
        refine wpAnyH_take (i := 12) (v := ?_) rfl (by kernel_rfl) (by kernel_rfl) (by kernel_rfl) (fun _ _ _ h => h) (Or.inl ⟨by rfl, ?_⟩) (by assumption) ?_
        rotate_left
        · (intro W hSw; (try dsimp only at hSw); go_simp <;> with_reducible rfl)
        (try simp only [Act.put, List.getElem_toArray, List.getElem_cons_succ, List.getElem_cons_zero, List.setIfInBounds_toArray, List.set_cons_succ, List.set_cons_zero])
        refine wpAnyH_take (i := 13) (v := ?_) rfl (by kernel_rfl) (by kernel_rfl) (by kernel_rfl) (fun _ _ _ h => h) (Or.inl ⟨by rfl, ?_⟩) (by assumption) ?_
        rotate_left
        · (intro W hSw; (try dsimp only at hSw); go_simp <;> with_reducible rfl)
        (try simp only [Act.put, List.getElem_toArray, List.getElem_cons_succ, List.getElem_cons_zero, List.setIfInBounds_toArray, List.set_cons_succ, List.set_cons_zero])
        refine wpAnyH_take (i := 14) (v := ?_) rfl (by kernel_rfl) (by kernel_rfl) (by kernel_rfl) (fun _ _ _ h => h) (Or.inl ⟨by rfl, ?_⟩) (by assumption) ?_
        rotate_left
        · (intro W hSw; (try dsimp only at hSw); go_simp <;> with_reducible rfl)
        (try simp only [Act.put, List.getElem_toArray, List.getElem_cons_succ, List.getElem_cons_zero, List.setIfInBounds_toArray, List.set_cons_succ, List.set_cons_zero])
        refine wpAnyH_take (i := 15) (v := ?_) rfl (by kernel_rfl) (by kernel_rfl) (by kernel_rfl) (fun _ _ _ h => h) (Or.inl ⟨by rfl, ?_⟩) (by assumption) ?_
        rotate_left
        · (intro W hSw; (try dsimp only at hSw); go_simp <;> with_reducible rfl)
        (try simp only [Act.put, List.getElem_toArray, List.getElem_cons_succ, List.getElem_cons_zero, List.setIfInBounds_toArray, List.set_cons_succ, List.set_cons_zero])
        refine wpAnyH_take (i := 16) (v := ?_) rfl (by kernel_rfl) (by kernel_rfl) (by kernel_rfl) (fun _ _ _ h => h) (Or.inl ⟨by rfl, ?_⟩) (by assumption) ?_
        rotate_left
        · (intro W hSw; (try dsimp only at hSw); go_simp <;> with_reducible rfl)
        (try simp only [Act.put, List.getElem_toArray, List.getElem_cons_succ, List.getElem_cons_zero, List.setIfInBounds_toArray, List.set_cons_succ, List.set_cons_zero])
        refine wpAnyH_take (i := 17) (v := ?_) rfl (by kernel_rfl) (by kernel_rfl) (by kernel_rfl) (fun _ _ _ h => h) (Or.inl ⟨by rfl, ?_⟩) (by assumption) ?_
        rotate_left
        · (intro W hSw; (try dsimp only at hSw); go_simp <;> with_reducible rfl)
        (try simp only [Act.put, List.getElem_toArray, List.getElem_cons_succ, List.getElem_cons_zero, List.setIfInBounds_toArray, List.set_cons_succ, List.set_cons_zero])
        refine wpAnyH_take (i := 18) (v := ?_) rfl (by kernel_rfl) (by kernel_rfl) (by kernel_rfl) (fun _ _ _ h => h) (Or.inl ⟨by rfl, ?_⟩) (by assumption) ?_
        rotate_left
        · (intro W hSw; (try dsimp only at hSw); go_simp <;> with_reducible rfl)
        (try simp only [Act.put, List.getElem_toArray, List.getElem_cons_succ, List.getElem_cons_zero, List.setIfInBounds_toArray, List.set_cons_succ, List.set_cons_zero])
        refine wpAnyH_take (i := 19) (v := ?_) rfl (by kernel_rfl) (by kernel_rfl) (by kernel_rfl) (fun _ _ _ h => h) (Or.inl ⟨by rfl, ?_⟩) (by assumption) ?_
        rotate_left
        · (intro W hSw; (try dsimp only at hSw); go_simp <;> with_reducible rfl)
        (try simp only [Act.put, List.getElem_toArray, List.getElem_cons_succ, List.getElem_cons_zero, List.setIfInBounds_toArray, List.set_cons_succ, List.set_cons_zero])
        refine wpAnyH_take (i := 20) (v := ?_) rfl (by kernel_rfl) (by kernel_rfl) (by kernel_rfl) (fun _ _ _ h => h) (Or.inl ⟨by rfl, ?_⟩) (by assumption) ?_
        rotate_left
        · (intro W hSw; (try dsimp only at hSw); go_simp <;> with_reducible rfl)
        (try simp only [Act.put, List.getElem_toArray, List.getElem_cons_succ, List.getElem_cons_zero, List.setIfInBounds_toArray, List.set_cons_succ, List.set_cons_zero])
        refine wpAnyH_take (i := 21) (v := ?_) rfl (by kernel_rfl) (by kernel_rfl) (by kernel_rfl) (fun _ _ _ h => h) (Or.inl ⟨by rfl, ?_⟩) (by assumption) ?_
        rotate_left
        · (intro W hSw; (try dsimp only at hSw); go_simp <;> with_reducible rfl)
        (try simp only [Act.put, List.getElem_toArray, List.getElem_cons_succ, List.getElem_cons_zero, List.setIfInBounds_toArray, List.set_cons_succ, List.set_cons_zero])
        refine wpAnyH_take (i := 22) (v := ?_) rfl (by kernel_rfl) (by kernel_rfl) (by kernel_rfl) (fun _ _ _ h => h) (Or.inl ⟨by rfl, ?_⟩) (by assumption) ?_
        rotate_left
        · (intro W hSw; (try dsimp only at hSw); go_simp <;> with_reducible rfl)
        (try simp only [Act.put, List.getElem_toArray, List.getElem_cons_succ, List.getElem_cons_zero, List.setIfInBounds_toArray, List.set_cons_succ, List.set_cons_zero])
        refine wpAnyH_take (i := 23) (v := ?_) rfl (by kernel_rfl) (by kernel_rfl) (by kernel_rfl) (fun _ _ _ h => h) (Or.inl ⟨by rfl, ?_⟩) (by assumption) ?_
        rotate_left
        · (intro W hSw; (try dsimp only at hSw); go_simp <;> with_reducible rfl)
        (try simp only [Act.put, List.getElem_toArray, List.getElem_cons_succ, List.getElem_cons_zero, List.setIfInBounds_toArray, List.set_cons_succ, List.set_cons_zero])
        refine wpAnyH_take (i := 24) (v := ?_) rfl (by kernel_rfl) (by kernel_rfl) (by kernel_rfl) (fun _ _ _ h => h) (Or.inl ⟨by rfl, ?_⟩) (by assumption) ?_
        rotate_left
        · (intro W hSw; (try dsimp only at hSw); go_simp <;> with_reducible rfl)
        (try simp only [Act.put, List.getElem_toArray, List.getElem_cons_succ, List.getElem_cons_zero, List.setIfInBounds_toArray, List.set_cons_succ, List.set_cons_zero])
        refine wpAnyH_take (i := 25) (v := undef) rfl (by kernel_rfl) (by kernel_rfl) (by kernel_rfl) (fun _ _ _ h => h) (Or.inr ⟨by rfl, rfl⟩) (by assumption) ?_
        (try simp only [Act.put, List.getElem_toArray, List.getElem_cons_succ, List.getElem_cons_zero, List.setIfInBounds_toArray, List.set_cons_succ, List.set_cons_zero])
        refine wpAnyH_take (i := 26) (v := undef) rfl (by kernel_rfl) (by kernel_rfl) (by kernel_rfl) (fun _ _ _ h => h) (Or.inr ⟨by rfl, rfl⟩) (by assumption) ?_
        (try simp only [Act.put, List.getElem_toArray, List.getElem_cons_succ, List.getElem_cons_zero, List.setIfInBounds_toArray, List.set_cons_succ, List.set_cons_zero])
        refine wpAnyH_take (i := 27) (v := undef) rfl (by kernel_rfl) (by kernel_rfl) (by kernel_rfl) (fun _ _ _ h => h) (Or.inr ⟨by rfl, rfl⟩) (by assumption) ?_
        (try simp only [Act.put, List.getElem_toArray, List.getElem_cons_succ, List.getElem_cons_zero, List.setIfInBounds_toArray, List.set_cons_succ, List.set_cons_zero])
        refine wpAnyH_take (i := 28) (v := undef) rfl (by kernel_rfl) (by kernel_rfl) (by kernel_rfl) (fun _ _ _ h => h) (Or.inr ⟨by rfl, rfl⟩) (by assumption) ?_
        (try simp only [Act.put, List.getElem_toArray, List.getElem_cons_succ, List.getElem_cons_zero, List.setIfInBounds_toArray, List.set_cons_succ, List.set_cons_zero])
        refine wpAnyH_take (i := 29) (v := undef) rfl (by kernel_rfl) (by kernel_rfl) (by kernel_rfl) (fun _ _ _ h => h) (Or.inr ⟨by rfl, rfl⟩) (by assumption) ?_
        (try simp only [Act.put, List.getElem_toArray, List.getElem_cons_succ, List.getElem_cons_zero, List.setIfInBounds_toArray, List.set_cons_succ, List.set_cons_zero])
        refine wpAnyH_take (i := 30) (v := undef) rfl (by kernel_rfl) (by kernel_rfl) (by kernel_rfl) (fun _ _ _ h => h) (Or.inr ⟨by rfl, rfl⟩) (by assumption) ?_
        (try simp only [Act.put, List.getElem_toArray, List.getElem_cons_succ, List.getElem_cons_zero, List.setIfInBounds_toArray, List.set_cons_succ, List.set_cons_zero])
        refine wpAnyH_take (i := 31) (v := undef) rfl (by kernel_rfl) (by kernel_rfl) (by kernel_rfl) (fun _ _ _ h => h) (Or.inr ⟨by rfl, rfl⟩) (by assumption) ?_
        (try simp only [Act.put, List.getElem_toArray, List.getElem_cons_succ, List.getElem_cons_zero, List.setIfInBounds_toArray, List.set_cons_succ, List.set_cons_zero])
        refine wpAnyH_take (i := 32) (v := undef) rfl (by kernel_rfl) (by kernel_rfl) (by kernel_rfl) (fun _ _ _ h => h) (Or.inr ⟨by rfl, rfl⟩) (by assumption) ?_
        (try simp only [Act.put, List.getElem_toArray, List.getElem_cons_succ, List.getElem_cons_zero, List.setIfInBounds_toArray, List.set_cons_succ, List.set_cons_zero])
        refine wpAnyH_take (i := 33) (v := ?_) rfl (by kernel_rfl) (by kernel_rfl) (by kernel_rfl) (fun _ _ _ h => h) (Or.inl ⟨by rfl, ?_⟩) (by assumption) ?_
        rotate_left
        · (intro W hSw; (try dsimp only at hSw); go_simp <;> with_reducible rfl)
        (try simp only [Act.put, List.getElem_toArray, List.getElem_cons_succ, List.getElem_cons_zero, List.setIfInBounds_toArray, List.set_cons_succ, List.set_cons_zero])
        refine wpAnyH_done (by kernel_rfl) ?_ _
        go_wp2
        go_ret
        exact ⟨ret_boo HR.out.symm, S4.out.1⟩
      have HG := Lib.hid (GY.out (by omega) (by omega))
      refine wpAnyH_take (i := 0) (v := ?_) rfl (by kernel_rfl) (by kernel_rfl) (by kernel_rfl) (fun _ _ _ h => h) (Or.inl ⟨by rfl, ?_⟩) (by assumption) ?_
      rotate_left
      · (intro W hSw; (try dsimp only at hSw); go_simp <;> with_reducible rfl)
      (try simp only [Act.put, List.getElem_toArray, List.getElem_cons_zero, List.setIfInBounds_toArray, List.set_cons_succ, List.set_cons_zero])
      refine wpAnyH_take (i := 1) (v := ?_) rfl (by kernel_rfl) (by kernel_rfl) (by kernel_rfl) (fun _ _ _ h => h) (Or.inl ⟨by rfl, ?_⟩) (by assumption) ?_
      rotate_left
      · (intro W hSw; (try dsimp only at hSw); go_simp <;> with_reducible rfl)
      (try simp only [Act.put, List.getElem_toArray, List.getElem_cons_succ, List.getElem_cons_zero, List.setIfInBounds_toArray, List.set_cons_succ, List.set_cons_zero])
      refine wpAnyH_take (i := 2) (v := ?_) rfl (by kernel_rfl) (by kernel_rfl) (by kernel_rfl) (fun _ _ _ h => h) (Or.inl ⟨by rfl, ?_⟩) (by assumption) ?_
      rotate_left
      · (intro W hSw; (try dsimp only at hSw); go_simp <;> with_reducible rfl)
      (try simp only [Act.put, List.getElem_toArray, List.getElem_cons_succ, List.getElem_cons_zero, List.setIfInBounds_toArray, List.set_cons_succ, List.set_cons_zero])
      refine wpAnyH_take (i := 3) (v := ?_) rfl (by kernel_rfl) (by kernel_rfl) (by kernel_rfl) (fun _ _ _ h => h) (Or.inl ⟨by rfl, ?_⟩) (by assumption) ?_
      rotate_left
      · (intro W hSw; (try dsimp only at hSw); go_simp <;> with_reducible rfl)
      (try simp only [Act.put, List.getElem_toArray, List.getElem_cons_succ, List.getElem_cons_zero, List.setIfInBounds_toArray, List.set_cons_succ, List.set_cons_zero])
      refine wpAnyH_take (i := 4) (v := ?_) rfl (by kernel_rfl) (by kernel_rfl) (by kernel_rfl) (fun _ _ _ h => h) (Or.inl ⟨by rfl, ?_⟩) (by assumption) ?_
      rotate_left
      · (intro W hSw; (try dsimp only at hSw); go_simp <;> with_reducible rfl)
      (try simp only [Act.put, List.getElem_toArray, List.getElem_cons_succ, List.getElem_cons_zero, List.setIfInBounds_toArray, List.set_cons_succ, List.set_cons_zero])
      refine wpAnyH_take (i := 5) (v := ?_) rfl (by kernel_rfl) (by kernel_rfl) (by kernel_rfl) (fun _ _ _ h => h) (Or.inl ⟨by rfl, ?_⟩) (by assumption) ?_
      rotate_left
      · (intro W hSw; (try dsimp only at hSw); go_simp <;> with_reducible rfl)
      (try simp only [Act.put, List.getElem_toArray, List.getElem_cons_succ, List.getElem_cons_zero, List.setIfInBounds_toArray, List.set_cons_succ, List.set_cons_zero])
      refine wpAnyH_take (i := 6) (v := ?_) rfl (by kernel_rfl) (by kernel_rfl) (by kernel_rfl) (fun _ _ _ h => h) (Or.inl ⟨by rfl, ?_⟩) (by assumption) ?_
      rotate_left
      · (intro W hSw; (try dsimp only at hSw); go_simp <;> with_reducible rfl)
      (try simp only [Act.put, List.getElem_toArray, List.getElem_cons_succ, List.getElem_cons_zero, List.setIfInBounds_toArray, List.set_cons_succ, List.set_cons_zero])
      refine wpAnyH_take (i := 7) (v := ?_) rfl (by kernel_rfl) (by kernel_rfl) (by kernel_rfl) (fun _ _ _ h => h) (Or.inl ⟨by rfl, ?_⟩) (by assumption) ?_
      rotate_left
      · (intro W hSw; (try dsimp only at hSw); go_simp <;> with_reducible rfl)
      (try simp only [Act.put, List.getElem_toArray, List.getElem_cons_succ, List.getElem_cons_zero, List.setIfInBounds_toArray, List.set_cons_succ, List.set_cons_zero])
      refine wpAnyH_take (i := 8) (v := ?_) rfl (by kernel_rfl) (by kernel_rfl) (by kernel_rfl) (fun _ _ _ h => h) (Or.inl ⟨by rfl, ?_⟩) (by assumption) ?_
      rotate_left
      · (intro W hSw; (try dsimp only at hSw); go_simp <;> with_reducible rfl)
      (try simp only [Act.put, List.getElem_toArray, List.getElem_cons_succ, List.getElem_cons_zero, List.setIfInBounds_toArray, List.set_cons_succ, List.set_cons_zero])
      refine wpAnyH_take (i := 9) (v := ?_) rfl (by kernel_rfl) (by kernel_rfl) (by kernel_rfl) (fun _ _ _ h => h) (Or.inl ⟨by rfl, ?_⟩) (by assumption) ?_
      rotate_left
      · (intro W hSw; (try dsimp only at hSw); go_simp <;> with_reducible rfl)
      (try simp only [Act.put, List.getElem_toArray, List.getElem_cons_succ, List.getElem_cons_zero, List.setIfInBounds_toArray, List.set_cons_succ, List.set_cons_zero])
      refine wpAnyH_take (i := 10) (v := ?_) rfl (by kernel_rfl) (by kernel_rfl) (by kernel_rfl) (fun _ _ _ h => h) (Or.inl ⟨by rfl, ?_⟩) (by assumption) ?_
      rotate_left
      · (intro W hSw; (try dsimp only at hSw); go_simp <;> with_reducible rfl)
      (try simp only [Act.put, List.getElem_toArray, List.getElem_cons_succ, List.getElem_cons_zero, List.setIfInBounds_toArray, List.set_cons_succ, List.set_cons_zero])
      refine wpAnyH_take (i := 11) (v := ?_) rfl (by kernel_rfl) (by kernel_rfl) (by kernel_rfl) (fun _ _ _ h => h) (Or.inl ⟨by rfl, ?_⟩) (by assumption) ?_
      rotate_left
      · (intro W hSw; (try dsimp only at hSw); go_simp <;> with_reducible rfl)
      (try simp only [Act.put, List.getElem_toArray, List.getElem_cons_succ, List.getElem_cons_zero, List.setIfInBounds_toArray, List.set_cons_succ, List.set_cons_zero])
      refine wpAnyH_take (i := 12) (v := ?_) rfl (by kernel_rfl) (by kernel_rfl) (by kernel_rfl) (fun _ _ _ h => h) (Or.inl ⟨by rfl, ?_⟩) (by assumption) ?_
      rotate_left
      · (intro W hSw; (try dsimp only at hSw); go_simp <;> with_reducible rfl)
      (try simp only [Act.put, List.getElem_toArray, List.getElem_cons_succ, List.getElem_cons_zero, List.setIfInBounds_toArray, List.set_cons_succ, List.set_cons_zero])
      refine wpAnyH_take (i := 13) (v := ?_) rfl (by kernel_rfl) (by kernel_rfl) (by kernel_rfl) (fun _ _ _ h => h) (Or.inl ⟨by rfl, ?_⟩) (by assumption) ?_
      rotate_left
      · (intro W hSw; (try dsimp only at hSw); go_simp <;> with_reducible rfl)
      (try simp only [Act.put, List.getElem_toArray, List.getElem_cons_succ, List.getElem_cons_zero, List.setIfInBounds_toArray, List.set_cons_succ, List.set_cons_zero])
      refine wpAnyH_take (i := 14) (v := ?_) rfl (by kernel_rfl) (by kernel_rfl) (by kernel_rfl) (fun _ _ _ h => h) (Or.inl ⟨by rfl, ?_⟩) (by assumption) ?_
      rotate_left
      · (intro W hSw; (try dsimp only at hSw); go_simp <;> with_reducible rfl)
      (try simp only [Act.put, List.getElem_toArray, List.getElem_cons_succ, List.getElem_cons_zero, List.setIfInBounds_toArray, List.set_cons_succ, List.set_cons_zero])
      refine wpAnyH_take (i := 15) (v := ?_) rfl (by kernel_rfl) (by kernel_rfl) (by kernel_rfl) (fun _ _ _ h => h) (Or.inl ⟨by rfl, ?_⟩) (by assumption) ?_
      rotate_left
      · (intro W hSw; (try dsimp only at hSw); go_simp <;> with_reducible rfl)
      (try simp only [Act.put, List.getElem_toArray, List.getElem_cons_succ, List.getElem_cons_zero, List.setIfInBounds_toArray, List.set_cons_succ, List.set_cons_zero])
      refine wpAnyH_take (i := 16) (v := ?_) rfl (by kernel_rfl) (by kernel_rfl) (by kernel_rfl) (fun _ _ _ h => h) (Or.inl ⟨by rfl, ?_⟩) (by assumption) ?_
      rotate_left
      · (intro W hSw; (try dsimp only at hSw); go_simp <;> with_reducible rfl)
      (try simp only [Act.put, List.getElem_toArray, List.getElem_cons_succ, List.getElem_cons_zero, List.setIfInBounds_toArray, List.set_cons_succ, List.set_cons_zero])
      refine wpAnyH_take (i := 17) (v := ?_) rfl (by kernel_rfl) (by kernel_rfl) (by kernel_rfl) (fun _ _ _ h => h) (Or.inl ⟨by rfl, ?_⟩) (by assumption) ?_
      rotate_left
      · (intro W hSw; (try dsimp only at hSw); go_simp <;> with_reducible rfl)
      (try simp only [Act.put, List.getElem_toArray, List.getElem_cons_succ, List.getElem_cons_zero, List.setIfInBounds_toArray, List.set_cons_succ, List.set_cons_zero])
      refine wpAnyH_take (i := 18) (v := ?_) rfl (by kernel_rfl) (by kernel_rfl) (by kernel_rfl) (fun _ _ _ h => h) (Or.inl ⟨by rfl, ?_⟩) (by assumption) ?_
      rotate_left
      · (intro W hSw; (try dsimp only at hSw); go_simp <;> with_reducible rfl)
      (try simp only [Act.put, List.getElem_toArray, List.getElem_cons_succ, List.getElem_cons_zero, List.setIfInBounds_toArray, List.set_cons_succ, List.set_cons_zero])
      refine wpAnyH_take (i := 19) (v := ?_) rfl (by kernel_rfl) (by kernel_rfl) (by kernel_rfl) (fun _ _ _ h => h) (Or.inl ⟨by rfl, ?_⟩) (by assumption) ?_
      rotate_left
      · (intro W hSw; (try dsimp only at hSw); go_simp <;> with_reducible rfl)
      (try simp only [Act.put, List.getElem_toArray, List.getElem_cons_succ, List.getElem_cons_zero, List.setIfInBounds_toArray, List.set_cons_succ, List.set_cons_zero])
      refine wpAnyH_take (i := 20) (v := ?_) rfl (by kernel_rfl) (by kernel_rfl) (by kernel_rfl) (fun _ _ _ h => h) (Or.inl ⟨by rfl, ?_⟩) (by assumption) ?_
      rotate_left
      · (intro W hSw; (try dsimp only at hSw); go_simp <;> with_reducible rfl)
      (try simp only [Act.put, List.getElem_toArray, List.getElem_cons_succ, List.getElem_cons_zero, List.setIfInBounds_toArray, List.set_cons_succ, List.set_cons_zero])
      refine wpAnyH_take (i := 21) (v := ?_) rfl (by kernel_rfl) (by kernel_rfl) (by kernel_rfl) (fun _ _ _ h => h) (Or.inl ⟨by rfl, ?_⟩) (by assumption) ?_
      rotate_left
      · (intro W hSw; (try dsimp only at hSw); go_simp <;> with_reducible rfl)
      (try simp only [Act.put, List.getElem_toArray, List.getElem_cons_succ, List.getElem_cons_zero, List.setIfInBounds_toArray, List.set_cons_succ, List.set_cons_zero])
      refine wpAnyH_take (i := 22) (v := ?_) rfl (by kernel_rfl) (by kernel_rfl) (by kernel_rfl) (fun _ _ _ h => h) (Or.inl ⟨by rfl, ?_⟩) (by assumption) ?_
      rotate_left
      · (intro W hSw; (try dsimp only at hSw); go_simp <;> with_reducible rfl)
      (try simp only [Act.put, List.getElem_toArray, List.getElem_cons_succ, List.getElem_cons_zero, List.setIfInBounds_toArray, List.set_cons_succ, List.set_cons_zero])
      refine wpAnyH_take (i := 23) (v := ?_) rfl (by kernel_rfl) (by kernel_rfl) (by kernel_rfl) (fun _ _ _ h => h) (Or.inl ⟨by rfl, ?_⟩) (by assumption) ?_
      rotate_left
      · (intro W hSw; (try dsimp only at hSw); go_simp <;> with_reducible rfl)
      (try simp only [Act.put, List.getElem_toArray, List.getElem_cons_succ, List.getElem_cons_zero, List.setIfInBounds_toArray, List.set_cons_succ, List.set_cons_zero])
      refine wpAnyH_take (i := 24) (v := ?_) rfl (by kernel_rfl) (by kernel_rfl) (by kernel_rfl) (fun _ _ _ h => h) (Or.inl ⟨by rfl, ?_⟩) (by assumption) ?_
      rotate_left
      · (intro W hSw; (try dsimp only at hSw); go_simp <;> with_reducible rfl)
      (try simp only [Act.put, List.getElem_toArray, List.getElem_cons_succ, List.getElem_cons_zero, List.setIfInBounds_toArray, List.set_cons_succ, List.set_cons_zero])
      refine wpAnyH_take (i := 25) (v := ?_) rfl (by kernel_rfl) (by kernel_rfl) (by kernel_rfl) (fun _ _ _ h => h) (Or.inl ⟨by rfl, ?_⟩) (by assumption) ?_
      rotate_left
      · (intro W hSw; (try dsimp only at hSw); go_simp <;> with_reducible rfl)
      (try simp only [Act.put, List.getElem_toArray, List.getElem_cons_succ, List.getElem_cons_zero, List.setIfInBounds_toArray, List.set_cons_succ, List.set_cons_zero])
      refine wpAnyH_take (i := 26) (v := ?_) rfl (by kernel_rfl) (by kernel_rfl) (by kernel_rfl) (fun _ _ _ h => h) (Or.inl ⟨by rfl, ?_⟩) (by assumption) ?_
      rotate_left
      · (intro W hSw; (try dsimp only at hSw); go_simp <;> with_reducible rfl)
      (try simp only [Act.put, List.getElem_toArray, List.getElem_cons_succ, List.getElem_cons_zero, List.setIfInBounds_toArray, List.set_cons_succ, List.set_cons_zero])
      refine wpAnyH_take (i := 27) (v := ?_) rfl (by kernel_rfl) (by kernel_rfl) (by kernel_rfl) (fun _ _ _ h => h) (Or.inl ⟨by rfl, ?_⟩) (by assumption) ?_
      rotate_left
      · (intro W hSw; (try dsimp only at hSw); go_simp <;> with_reducible rfl)
      (try simp only [Act.put, List.getElem_toArray, List.getElem_cons_succ, List.getElem_cons_zero, List.setIfInBounds_toArray, List.set_cons_succ, List.set_cons_zero])
      refine wpAnyH_take (i := 28) (v := ?_) rfl (by kernel_rfl) (by kernel_rfl) (by kernel_rfl) (fun _ _ _ h => h) (Or.inl ⟨by rfl, ?_⟩) (by assumption) ?_
      rotate_left
      · (intro W hSw; (try dsimp only at hSw); go_simp <;> with_reducible rfl)
      (try simp only [Act.put, List.getElem_toArray, List.getElem_cons_succ, List.getElem_cons_zero, List.setIfInBounds_toArray, List.set_cons_succ, List.set_cons_zero])
      refine wpAnyH_take (i := 29) (v := ?_) rfl (by kernel_rfl) (by kernel_rfl) (by kernel_rfl) (fun _ _ _ h => h) (Or.inl ⟨by rfl, ?_⟩) (by assumption) ?_
      rotate_left
      · (intro W hSw; (try dsimp only at hSw); go_simp <;> with_reducible rfl)
      (try simp only [Act.put, List.getElem_toArray, List.getElem_cons_succ, List.getElem_cons_zero, List.setIfInBounds_toArray, List.set_cons_succ, List.set_cons_zero])
      refine wpAnyH_take (i := 30) (v := ?_) rfl (by kernel_rfl) (by kernel_rfl) (by kernel_rfl) (fun _ _ _ h => h) (Or.inl ⟨by rfl, ?_⟩) (by assumption) ?_
      rotate_left
      · (intro W hSw; (try dsimp only at hSw); go_simp <;> with_reducible rfl)
      (try simp only [Act.put, List.getElem_toArray, List.getElem_cons_succ, List.getElem_cons_zero, List.setIfInBounds_toArray, List.set_cons_succ, List.set_cons_zero])
      refine wpAnyH_ready (rs := [31]) (by kernel_rfl) (by simp) ?_
      refine AllReadyH.cons rfl (fun K hK => ?_) AllReadyH.nil
      go_simp
      go_at_call 34
      refine (implSubset_any md nd _ _ _ (by exact RM.out.below S4.out.1 (Nat.le_refl _)) NM.out (by exact RF.out.below S4.out.1 (Nat.le_refl _)) NF.out (by have := LM.out; omega) (by have := LN.out; omega)).mono ?_
      rintro e w5 ⟨rfl, bb⟩
      have S5 := Lib.hid (S4.out.go bb)
      (first | done | go_wp2_with fail)
      refine hK.out _ _ (KW.out _ _ (Wr.of_below bb (Nat.le_refl _)) (by assumption)) (fun hHeld31 => ?_)
      clear hK K bb S4
      rcases hh : subB md nd with _ | _
      · have HR := Lib.hid (GN.out (HG.out.trans hh))
        (try rw [hh])
        refine wpAnyH_take (i := 32) (v := ?_) rfl (by kernel_rfl) (by kernel_rfl) (by kernel_rfl) (fun _ _ _ h => h) (Or.inl ⟨by rfl, ?_⟩) (by assumption) ?_
        rotate_left
        · (intro W hSw; (try dsimp only at hSw); go_simp <;> with_reducible rfl)
        (try simp only [Act.put, List.getElem_toArray, List.getElem_cons_succ, List.getElem_cons_zero, List.setIfInBounds_toArray, List.set_cons_succ, List.set_cons_zero])
        refine wpAnyH_take (i := 33) (v := ?_) rfl (by kernel_rfl) (by kernel_rfl) (by kernel_rfl) (fun _ _ _ h => h) (Or.inl ⟨by rfl, ?_⟩) (by assumption) ?_
        rotate_left
        · (intro W hSw; (try dsimp only at hSw); go_simp <;> with_reducible rfl)
        (try simp only [Act.put, List.getElem_toArray, List.getElem_cons_succ, List.getElem_cons_zero, List.setIfInBounds_toArray, List.set_cons_succ, List.set_cons_zero])
        refine wpAnyH_done (by kernel_rfl) ?_ _
        go_wp2
        go_ret
        exact ⟨ret_boo HR.out.symm, S5.out.1⟩
      have GD2 := Lib.hid (show ∀ a, a < k + 1 → subA d f a = true from fun a ha => by
        by_cases e : a = k
        · subst e; exact HG.out.trans hh
        · exact GD.out a (by omega))
      (try rw [hh])
      refine wpAnyH_take (i := 32) (v := ?_) rfl (by kernel_rfl) (by kernel_rfl) (by kernel_rfl) (fun _ _ _ h => h) (Or.inl ⟨by rfl, ?_⟩) (by assumption) ?_
      rotate_left
      · (intro W hSw; (try dsimp only at hSw); go_simp <;> with_reducible rfl)
      (try simp only [Act.put, List.getElem_toArray, List.getElem_cons_succ, List.getElem_cons_zero, List.setIfInBounds_toArray, List.set_cons_succ, List.set_cons_zero])
      refine wpAnyH_take (i := 33) (v := ?_) rfl (by kernel_rfl) (by kernel_rfl) (by kernel_rfl) (fun _ _ _ h => h) (Or.inl ⟨by rfl, ?_⟩) (by assumption) ?_
      rotate_left
      · (intro W hSw; (try dsimp only at hSw); go_simp <;> with_reducible rfl)
      (try simp only [Act.put, List.getElem_toArray, List.getElem_cons_succ, List.getElem_cons_zero, List.setIfInBounds_toArray, List.set_cons_succ, List.set_cons_zero])
      refine wpAnyH_done (by kernel_rfl) ?_ _
      go_wp2
      go_roundw
      case rel => exact ⟨k + 1, by omega, by go_num, S5.out, GD2⟩
      case measure => simp [intOf]; omega
    · have hge : ¬ (k : Int) < (d.md.length : Int) := by omega
      obtain rfl : k = d.md.length := by omega
      have HR := Lib.hid (subD_yes LD.out LF.out (by intro a ha; exact GD.out a (by omega)))
      go_wp2
      go_ret
      exact ⟨ret_boo HR.out.symm, S3.out.1⟩
end Go.Proofs.YtdbnhdiboemmiacGreat
end

section
namespace Go.Proofs.YtdbnhdiboemmiacGreat
open Go.RowKit Go.Shelf
set_option linter.unusedVariables false

theorem lval_1 {d : Dm} {ac va : Int} {n : Nat} : lvalA d ⟨1, ac, va⟩ n = knownB (decide (va ≤ mnD d n)) (decide (mxD d n < va)) := rfl
theorem lval_2 {d : Dm} {ac va : Int} {n : Nat} : lvalA d ⟨2, ac, va⟩ n = knownB (decide (mxD d n ≤ va)) (decide (va < mnD d n)) := rfl
theorem lval_3 {d : Dm} {ac va : Int} {n : Nat} : lvalA d ⟨3, ac, va⟩ n = knownB (eqB (mdD d n) [va]) (!hasB (mdD d n) va) := rfl
theorem lval_4 {d : Dm} {ac va : Int} {n : Nat} : lvalA d ⟨4, ac, va⟩ n = knownB (!hasB (mdD d n) va) (eqB (mdD d n) [va]) := rfl
theorem lval_o {d : Dm} {ki ac va : Int} {n : Nat} (h1 : ¬ ki = 1) (h2 : ¬ ki = 2) (h3 : ¬ ki = 3) (h4 : ¬ ki = 4) : lvalA d ⟨ki, ac, va⟩ n = 1 := by simp [lvalA, h1, h2, h3, h4]
theorem known_in (y n : Bool) : -1 ≤ knownB y n ∧ knownB y n ≤ 1 := by
  rcases y with _ | _ <;> rcases n with _ | _ <;> simp [knownB]
theorem eq_one {l : List Int} {x : Int} (h : ¬ l.length = 1) : eqB l [x] = false := by
  unfold eqB
  rw [decide_eq_false_iff_not]
  rintro rfl
  exact h rfl
theorem eq_one_at {l : List Int} {x : Int} (h : l.length = 1) : eqB l [x] = decide (l[0]'(by omega) = x) := by
  match l, h with
  | [y], _ => simp [eqB]
set_option maxRecDepth 100000 in
set_option maxHeartbeats 8000000 in
theorem implLiteralValue_any (d : Dm) (l : Lt) (v : Value) (w : World) (hd : (trDm d).rd w v) :
    Calls Tryz.prog 9 #[v, ltV l] w fun e w' => e = .returned (.int .i64 (lvalD d l)) ∧ Below w.heap.size w w' := by
  obtain ⟨ki, ac, va⟩ := l
  have HN := Lib.hid (fun h => @lval_no d ⟨ki, ac, va⟩ h)
  have HY := Lib.hid (fun n h e => @lval_yes d ⟨ki, ac, va⟩ n h e)
  generalize lvalD d ⟨ki, ac, va⟩ = res at HN HY ⊢
  have HD := Lib.hid hd
  obtain ⟨D1, t1, D2, t2, D3, t3, rfl, m1, m2, m3⟩ := rdDomain_t hd
  obtain ⟨hd1, B5, d5, he, y1⟩ := rdI (rd_flat m1)
  injection he with he _ he2
  subst he he2
  have Y1 := Lib.hid y1
  obtain ⟨hd2, B6, d6, he, y2⟩ := rdI (rd_flat m2)
  injection he with he _ he2
  subst he he2
  have Y2 := Lib.hid y2
  obtain ⟨hd3, B7, d7, he, y3⟩ := rdIntSS_t m3
  injection he with he _ he2
  subst he he2
  have Y3 := Lib.hid y3
  have M1 := Lib.hid (rd_flat m1)
  have M2 := Lib.hid (rd_flat m2)
  clear hd m1 m2 m3 y1 y2 y3
  unfold maxLen at hd1 hd2
  have S0 := Lib.hid (((Sn.start w).box 32 [.slice D1 d.mn.length t1, .slice D2 d.mx.length t2, .slice D3 d.md.length t3]).box 38 [.int .i64 ki, .int .i64 ac, .int .i64 va])
  simp only [World.size_alloc] at S0
  unfold ltV
  go_enter Tryz.func9, Tryz.ntmps9
  go_wp2_with fail
  refine (hasAct_any d ac _ _ (by exact S0.out.old HD.out)).mono ?_
  rintro e w1 ⟨rfl, b⟩
  have S1 := Lib.hid (S0.out.go b)
  clear S0 b
  by_cases ht : thereD d ac
  rotate_left
  · rw [decide_eq_false ht]
    have RES := Lib.hid (HN.out ht)
    go_wp2
    go_ret
    exact ⟨ret_intI RES.out.symm, S1.out.1⟩
  rw [decide_eq_true ht]
  obtain ⟨n, rfl⟩ : ∃ n : Nat, ac = (n : Int) := ⟨ac.toNat, by have := ht.1; omega⟩
  have RES := Lib.hid (HY.out n ht rfl)
  obtain ⟨k0, k1, k2, k3⟩ := ht
  obtain ⟨b1, o1, rfl, hb1, hc1⟩ := Y1.out n (by omega)
  obtain ⟨b2, o2, rfl, hb2, hc2⟩ := Y2.out n (by omega)
  obtain ⟨b3, o3, rfl, hb3, hc3⟩ := Y3.out n (by omega)
  obtain ⟨A5, c5, hc3b, rm5⟩ := hc3 n (by omega)
  have ZM := Lib.hid (fun (W : World) (h : Below w.heap.size w W) => show W.cell? ⟨b1, o1 + n, none⟩ = some (.int .i64 (mnD d n)) ∧ W.cell? ⟨b2, o2 + n, none⟩ = some (.int .i64 (mxD d n)) ∧ W.cell? ⟨b3, o3 + n, none⟩ = some (.slice A5 (mdD d n).length c5) from
    ⟨by rw [mnD_at (by omega)]; exact (h.cell (p := ⟨b1, o1 + n, none⟩) hb1).trans (hc1 n (by omega)), by rw [mxD_at (by omega)]; exact (h.cell (p := ⟨b2, o2 + n, none⟩) hb2).trans (hc2 n (by omega)), by rw [mdD_at (by omega)]; exact (h.cell (p := ⟨b3, o3 + n, none⟩) hb3).trans hc3b⟩)
  have RM := Lib.hid (rd_flat rm5)
  rw [← mdD_at (d := d)] at RM
  have L1 := Lib.hid (show ki = 1 → res = knownB (decide (va ≤ mnD d n)) (decide (mxD d n < va)) from fun e => by rw [RES.out, e]; rfl)
  have L2 := Lib.hid (show ki = 2 → res = knownB (decide (mxD d n ≤ va)) (decide (va < mnD d n)) from fun e => by rw [RES.out, e]; rfl)
  have L3 := Lib.hid (show ki = 3 → res = knownB (eqB (mdD d n) [va]) (!hasB (mdD d n) va) from fun e => by rw [RES.out, e]; rfl)
  have L4 := Lib.hid (show ki = 4 → res = knownB (!hasB (mdD d n) va) (eqB (mdD d n) [va]) from fun e => by rw [RES.out, e]; rfl)
  have LO := Lib.hid (fun h1 h2 h3 h4 => RES.out.trans (lval_o h1 h2 h3 h4))
  clear hc1 hc2 hc3 hc3b rm5 RES
  generalize mnD d n = mn at ZM L1 L2
  generalize mxD d n = mx at ZM L1 L2
  generalize mdD d n = md at ZM RM L3 L4
  obtain ⟨q0, q1, q2, qf⟩ := (S1.out.bk 0 rfl).c3
  obtain ⟨e0, e1, e2, ef⟩ := (S1.out.bk 1 rfl).c3
  obtain ⟨z1, z2, z3⟩ := ZM.out _ S1.out.1
  by_cases h1 : ki = 1
  · have RS := Lib.hid (L1.out h1)
    subst h1
    go_wp2_with fail
    go_quiet (first | (go_at_call 26; exact quiet_left (truth_any _ _ _)) | fail)
    go_wp2
    go_ret
    exact ⟨ret_intI (by first | exact RS.out.symm | (rw [RS.out]; first | rfl | simp)), below_drewN S1.out.1 _⟩
  by_cases h2 : ki = 2
  · have RS := Lib.hid (L2.out h2)
    subst h2
    go_wp2_with fail
    go_quiet (first | (go_at_call 26; exact quiet_left (truth_any _ _ _)) | fail)
    go_wp2
    go_ret
    exact ⟨ret_intI (by first | exact RS.out.symm | (rw [RS.out]; first | rfl | simp)), below_drewN S1.out.1 _⟩
  by_cases h3 : ki = 3
  · have RS := Lib.hid (L3.out h3)
    subst h3
    go_wp2_with fail
    have hlq := (S1.out.bk 0 rfl).lt
    have hle := (S1.out.bk 1 rfl).lt
    have hv3 := Nat.lt_of_lt_of_le hb3 S1.out.1.size
    have S2 := Lib.hid S1.out.drew1
    have RM2 := Lib.hid (RM.out.below S2.out.1 (Nat.le_refl _))
    have CE := Lib.hid (fun (W : World) (h : Wr [] w1.drew W) => show Hid (Wr [] w1.drew W) ∧ W.cell? ⟨w.heap.size, 2, none⟩ = some (.slice (some ⟨b3, o3, none⟩) d.md.length t3) ∧ W.cell? ⟨w.heap.size + 1, 2, none⟩ = some (.int .i64 va) ∧ W.cell? ⟨b3, o3 + n, none⟩ = some (.slice A5 md.length c5) from ⟨Lib.hid h, (wr_cell h (p := ⟨w.heap.size, 2, none⟩) hle (by simp)).trans (by exact by simpa using e2), (wr_cell h (p := ⟨w.heap.size + 1, 2, none⟩) hlq (by simp)).trans (by exact by simpa using q2), (wr_cell h (p := ⟨b3, o3 + n, none⟩) (by show b3 < _; simpa using hv3) (by simp)).trans (by exact by simpa using z3)⟩)
    have INIT := Lib.hid (CE.out _ (Wr.refl _ _))
    have KW := Lib.hid (fun (W2 W : World) (hb : Wr [] W W2) (h : Hid (Wr [] w1.drew W) ∧ W.cell? ⟨w.heap.size, 2, none⟩ = some (.slice (some ⟨b3, o3, none⟩) d.md.length t3) ∧ W.cell? ⟨w.heap.size + 1, 2, none⟩ = some (.int .i64 va) ∧ W.cell? ⟨b3, o3 + n, none⟩ = some (.slice A5 md.length c5)) => CE.out W2 (h.1.out.trans hb))
    clear z1 z2 z3 e0 e1 e2 ef q0 q1 q2 qf hle hlq hv3
    go_region_held3 (fun W => Hid (Wr [] w1.drew W) ∧ W.cell? ⟨w.heap.size, 2, none⟩ = some (.slice (some ⟨b3, o3, none⟩) d.md.length t3) ∧ W.cell? ⟨w.heap.size + 1, 2, none⟩ = some (.int .i64 va) ∧ W.cell? ⟨b3, o3 + n, none⟩ = some (.slice A5 md.length c5)) (first | exact INIT.out | exact KW.out _ _ (by assumption) (by assumption) | exact KW.out _ _ (Wr.of_below (by assumption) (Nat.le_refl _)) (by assumption) | exact KW.out _ _ (Wr.of_below ((Below.refl _ _).alloc (Nat.le_refl _) _) (Nat.le_refl _)) (by assumption))
      ((go_at_call 27; refine (modeValue_any md va _ _ (by exact RM2.out)).mono ?_; rintro e w3 ⟨rfl, bb⟩; have S3 := Lib.hid (S2.out.go bb); clear S2))
    go_wp2
    go_ret
    exact ⟨ret_intI (by rw [RS.out]), S3.out.1⟩
  by_cases h4 : ki = 4
  · have RS := Lib.hid (L4.out h4)
    subst h4
    rw [← known_neg] at RS
    have hki := known_in (eqB md [va]) (!hasB md va)
    generalize hkk : knownB (eqB md [va]) (!hasB md va) = kk at RS hki
    have HKK := Lib.hid hkk
    have hwn : IntKind.i64.wrap (-kk) = -kk := by rw [IntKind.wrap_i64]; omega
    clear hkk
    go_wp2_with fail
    have hlq := (S1.out.bk 0 rfl).lt
    have hle := (S1.out.bk 1 rfl).lt
    have hv3 := Nat.lt_of_lt_of_le hb3 S1.out.1.size
    have S2 := Lib.hid S1.out.drew1
    have RM2 := Lib.hid (RM.out.below S2.out.1 (Nat.le_refl _))
    have CE := Lib.hid (fun (W : World) (h : Wr [] w1.drew W) => show Hid (Wr [] w1.drew W) ∧ W.cell? ⟨w.heap.size, 2, none⟩ = some (.slice (some ⟨b3, o3, none⟩) d.md.length t3) ∧ W.cell? ⟨w.heap.size + 1, 2, none⟩ = some (.int .i64 va) ∧ W.cell? ⟨b3, o3 + n, none⟩ = some (.slice A5 md.length c5) from ⟨Lib.hid h, (wr_cell h (p := ⟨w.heap.size, 2, none⟩) hle (by simp)).trans (by exact by simpa using e2), (wr_cell h (p := ⟨w.heap.size + 1, 2, none⟩) hlq (by simp)).trans (by exact by simpa using q2), (wr_cell h (p := ⟨b3, o3 + n, none⟩) (by show b3 < _; simpa using hv3) (by simp)).trans (by exact by simpa using z3)⟩)
    have INIT := Lib.hid (CE.out _ (Wr.refl _ _))
    have KW := Lib.hid (fun (W2 W : World) (hb : Wr [] W W2) (h : Hid (Wr [] w1.drew W) ∧ W.cell? ⟨w.heap.size, 2, none⟩ = some (.slice (some ⟨b3, o3, none⟩) d.md.length t3) ∧ W.cell? ⟨w.heap.size + 1, 2, none⟩ = some (.int .i64 va) ∧ W.cell? ⟨b3, o3 + n, none⟩ = some (.slice A5 md.length c5)) => CE.out W2 (h.1.out.trans hb))
    clear z1 z2 z3 e0 e1 e2 ef q0 q1 q2 qf hle hlq hv3
    go_region_held3 (fun W => Hid (Wr [] w1.drew W) ∧ W.cell? ⟨w.heap.size, 2, none⟩ = some (.slice (some ⟨b3, o3, none⟩) d.md.length t3) ∧ W.cell? ⟨w.heap.size + 1, 2, none⟩ = some (.int .i64 va) ∧ W.cell? ⟨b3, o3 + n, none⟩ = some (.slice A5 md.length c5)) (first | exact INIT.out | exact KW.out _ _ (by assumption) (by assumption) | exact KW.out _ _ (Wr.of_below (by assumption) (Nat.le_refl _)) (by assumption) | exact KW.out _ _ (Wr.of_below ((Below.refl _ _).alloc (Nat.le_refl _) _) (Nat.le_refl _)) (by assumption))
      ((go_at_call 27; refine (modeValue_any md va _ _ (by exact RM2.out)).mono ?_; rintro e w3 ⟨rfl, bb⟩; rw [HKK.out]; have S3 := Lib.hid (S2.out.go bb); clear S2))
    go_wp2
    go_ret
    exact ⟨ret_intI (by rw [RS.out]), S3.out.1⟩
  have RS := Lib.hid (LO.out h1 h2 h3 h4)
  go_wp2
  go_ret
  exact ⟨ret_intI RS.out.symm, by first | exact S1.out.1 | exact below_drewN S1.out.1 _⟩
end Go.Proofs.YtdbnhdiboemmiacGreat
end
