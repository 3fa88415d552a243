/- DERIVED. CONTRACTS of chapter 13: Restrict of the model. -/
import Derived.Test.YtdbnhdiboemmiaaDmU
import Derived.Test.YtdbnhdiboemmiaaDmW
namespace Go.Proofs.Ytdbnhdiboemmiaa
open Go.RowKit Go.Shelf
set_option linter.unusedVariables false

theorem su_set : ∀ {D : List (List Int)} {n : Nat} {r : List Int}, (h : n < D.length) → r.length ≤ D[n].length → (trSu (D.set n r)).sz ≤ (trSu D).sz
  | x :: D, 0, r, _, hr => by
    simp only [List.set_cons_zero, List.getElem_cons_zero] at hr ⊢
    rw [su_sz, su_sz]
    simp only [List.flatMap_cons, szL_app, List.length_cons]
    simp only [cellsI1, szL, trI_sz]
    omega
  | x :: D, n + 1, r, h, hr => by
    have h1 := su_set (D := D) (n := n) (r := r) (by simpa using h) (by simpa using hr)
    rw [List.set_cons_succ]
    rw [su_sz, su_sz] at h1 ⊢
    simp only [List.flatMap_cons, szL_app, List.length_cons]
    omega
theorem rest_sz (d : Dm) (l : Lt) : (trDm (restD d l)).sz ≤ (trDm d).sz := by
  unfold restD
  split
  next h =>
    obtain ⟨h0, h1, h2, h3⟩ := h
    have hn : l.ac.toNat < d.md.length := by omega
    unfold restA
    split
    · rw [dm_sz, dm_sz]; simp
    split
    · rw [dm_sz, dm_sz]; simp
    split
    · rw [dm_sz, dm_sz]
      have := su_set (r := interB (mdD d l.ac.toNat) [brT l.va]) hn (by rw [← mdD_at]; exact inter_len _ _)
      simp only
      omega
    split
    · rw [dm_sz, dm_sz]
      have := su_set (r := (mdD d l.ac.toNat).filter fun x => x != brT l.va) hn (by rw [← mdD_at]; exact List.length_filter_le _ _)
      simp only
      omega
    · exact Nat.le_refl _
  next h => exact Nat.le_refl _
theorem max_b (x y : Int) (w : World) : Calls Try.prog 69 #[.int .i64 x, .int .i64 y] w fun e w' => e = .returned (.int .i64 (max x y)) ∧ Below w.heap.size w w' := (max_any x y w).mono fun e w' h => ⟨h.1, h.2 ▸ Below.refl _ _⟩
theorem min_b (x y : Int) (w : World) : Calls Try.prog 70 #[.int .i64 x, .int .i64 y] w fun e w' => e = .returned (.int .i64 (min x y)) ∧ Below w.heap.size w w' := (min_any x y w).mono fun e w' h => ⟨h.1, h.2 ▸ Below.refl _ _⟩
set_option maxRecDepth 100000 in
set_option maxHeartbeats 8000000 in
theorem specRestrict_any (d : Dm) (l : Lt) (v : Value) (w : World) {BB : Nat} {GG : List Nat} (ho : (trDm d).own w BB v GG) (hsz : (trDm d).sz ≤ 1048576) :
    Calls Try.prog 23 #[v, ltV l] w fun e w' => ∃ u F, e = .returned u ∧ (trDm (restD d l)).own w' w.heap.size u F ∧ F.Nodup ∧ Below w.heap.size w w' := by
  obtain ⟨ki, ac, va⟩ := l
  have HN := Lib.hid (fun h => @rest_no d ⟨ki, ac, va⟩ h)
  have HY := Lib.hid (fun n h e => @rest_yes d ⟨ki, ac, va⟩ n h e)
  generalize restD d ⟨ki, ac, va⟩ = res at HN HY ⊢
  have ZM := Lib.hid (fun j (h : j < d.md.length) => Nat.le_trans (su_at h) (by rw [dm_sz] at hsz; omega : (trSu d.md).sz ≤ 1048576))
  have HO := Lib.hid ho
  have hd := Tr.own_rd _ _ _ ho
  clear ho
  have HD := Lib.hid hd
  obtain ⟨D1, t1, D2, t2, D3, t3, rfl, m1, m2, m3⟩ := rdDomain_t hd
  obtain ⟨hd1, B5, d5, he, y1⟩ := rdI (rd_flat m1)
  injection he with he _ he2
  subst he he2
  have Y1 := Lib.hid y1
  obtain ⟨hd2, B6, d6, he, y2⟩ := rdI (rd_flat m2)
  injection he with he _ he2
  subst he he2
  have Y2 := Lib.hid y2
  obtain ⟨hd3, B7, d7, he, y3⟩ := rdIntSS_t m3
  injection he with he _ he2
  subst he he2
  have Y3 := Lib.hid y3
  have M1 := Lib.hid (rd_flat m1)
  have M2 := Lib.hid (rd_flat m2)
  clear hd m1 m2 m3 y1 y2 y3
  unfold maxLen at hd1 hd2
  have S0 := Lib.hid ((((Sn.start w).box 40 [.slice D1 d.mn.length t1, .slice D2 d.mx.length t2, .slice D3 d.md.length t3]).box 54 [.int .i64 ki, .int .i64 ac, .int .i64 va]).box 40 [.slice none 0 0, .slice none 0 0, .slice none 0 0])
  simp only [World.size_alloc] at S0
  unfold ltV
  go_enter Try.func23, Try.ntmps23
  go_wp2_with fail
  refine (specCopyD_any d _ _ (by exact Tr.own_below HO.out S0.out.1 (Nat.le_refl _)) hsz).mono ?_
  rintro e w1 ⟨u1, G1, rfl, o1, h1, b1⟩
  obtain ⟨X0, x0, X1, x1, X2, x2, rfl, _⟩ := rdDomain_t (Tr.own_rd _ _ _ o1)
  obtain ⟨F1, F2, F3, hS⟩ := (S0.out.new o1 h1 b1).undom
  have S1 := Lib.hid (hS.box 40 [.slice X0 d.mn.length x0, .slice X1 d.mx.length x1, .slice X2 d.md.length x2])
  clear S0 o1 h1 b1 hS
  obtain ⟨e0, e1, e2, ef⟩ := (S1.out.bk 6 rfl).c3
  obtain ⟨q0, q1, q2, qf⟩ := (S1.out.bk 5 rfl).c3
  go_wp2_with fail
  clear e0 e1 e2 ef
  clear q0 q1 q2 qf
  refine (l12There_any d ac _ _ (by exact S1.out.old HD.out)).mono ?_
  rintro e w2 ⟨rfl, b⟩
  have S2 := Lib.hid (S1.out.go b)
  clear S1 b
  by_cases ht : thereD d ac
  rotate_left
  · rw [decide_eq_false ht]
    have RES := Lib.hid (HN.out ht)
    obtain ⟨y0, y1, y2, yf⟩ := (S2.out.bk 0 rfl).c3
    obtain ⟨p0, p1, p2, pf⟩ := (S2.out.bk 4 rfl).c3
    have hgr : w1.heap.size ≠ w.heap.size + 1 + 1 := fun e => S2.out.2.apart (i := 0) (j := 4) rfl rfl (by omega) w1.heap.size (by simp [boxI]) (by simp [boxI, e])
    go_wp2
    have SZ := ((S2.out.boxSet 4 rfl 0 (.slice X0 d.mn.length x0)).boxSet 4 rfl 1 (.slice X1 d.mx.length x1)).boxSet 4 rfl 2 (.slice X2 d.md.length x2)
    have P := SZ.nil0
    have P := (P.pick 4 rfl).pack
    have P := (P.pick 3 rfl).pack
    have P := (P.pick 2 rfl).pack
    have PO := (P.own 0 rfl).1
    have PN := (P.own 0 rfl).2
    refine bodyPost_ret (v := .agg #[.slice X0 d.mn.length x0, .slice X1 d.mx.length x1, .slice X2 d.md.length x2]) (by simp [results, Try.results23, go_sem, p0, p1, p2]) rfl (by first | exact ⟨_, _, rfl, by rw [RES.out]; exact PO, PN, SZ.1⟩ | exact ⟨_, by rw [RES.out]; exact PO, PN, SZ.1⟩ | exact ⟨_, rfl, _, by rw [RES.out]; exact PO, PN, SZ.1⟩)
  rw [decide_eq_true ht]
  obtain ⟨n, rfl⟩ : ∃ n : Nat, ac = (n : Int) := ⟨ac.toNat, by have := ht.1; omega⟩
  have RES := Lib.hid (HY.out n ht rfl)
  obtain ⟨k0, k1, k2, k3⟩ := ht
  have n1 : n < d.mn.length := by omega
  have n2 : n < d.mx.length := by omega
  have n3 : n < d.md.length := by omega
  clear HN HY
  obtain ⟨q0, q1, q2, qf⟩ := (S2.out.bk 5 rfl).c3
  go_wp2_with fail
  clear q0 q1 q2 qf
  refine (brought_any va _).mono ?_
  rintro e w9 ⟨rfl, rfl⟩
  obtain ⟨b1, rfl, hac1⟩ := (S2.out.pick 1 rfl).formI (by omega)
  obtain ⟨b2, rfl, hac2⟩ := (S2.out.pick 2 rfl).formI (by omega)
  obtain ⟨b3, rfl, hac3, hlt3⟩ := (S2.out.pick 3 rfl).formR (by omega)
  obtain ⟨d1, s1, rfl, hd5, hc5⟩ := Y1.out n n1
  obtain ⟨d2, s2, rfl, hd6, hc6⟩ := Y2.out n n2
  obtain ⟨d3, s3, rfl, hd7, hc7⟩ := Y3.out n n3
  obtain ⟨A7, c7, hx7, rm7⟩ := hc7 n n3
  have z1 := (S2.out.1.cell (p := ⟨d1, s1 + n, none⟩) hd5).trans (hc5 n n1)
  have z2 := (S2.out.1.cell (p := ⟨d2, s2 + n, none⟩) hd6).trans (hc6 n n2)
  have z3 := (S2.out.1.cell (p := ⟨d3, s3 + n, none⟩) hd7).trans hx7
  rw [← mnD_at] at z1
  rw [← mxD_at] at z2
  have RM := Lib.hid (rd_flat rm7)
  have LM := Lib.hid (ZM.out n n3)
  rw [← mdD_at (d := d)] at RM LM z3
  clear hc5 hc6 hc7 hx7 rm7
  have hv1 := Nat.lt_of_lt_of_le hd5 S2.out.1.size
  have hv2 := Nat.lt_of_lt_of_le hd6 S2.out.1.size
  have hv3 := Nat.lt_of_lt_of_le hd7 S2.out.1.size
  obtain ⟨y0, y1, y2, yf⟩ := (S2.out.bk 0 rfl).c3
  obtain ⟨q0, q1, q2, qf⟩ := (S2.out.bk 5 rfl).c3
  obtain ⟨e0, e1, e2, ef⟩ := (S2.out.bk 6 rfl).c3
  have hly := (S2.out.bk 0 rfl).lt
  have hlq := (S2.out.bk 5 rfl).lt
  have hle := (S2.out.bk 6 rfl).lt
  by_cases h1 : ki = 1
  · subst h1
    rw [rest_1] at RES
    go_wp2_with fail
    have S3 := Lib.hid S2.out.drew1
    clear S2
    generalize hxx : mnD d n = xx at z1 RES
    have CE := Lib.hid (fun (W : World) (h : Wr [] w2.drew W) => show Hid (Wr [] w2.drew W) ∧ W.cell? ⟨w1.heap.size, 0, none⟩ = some (.slice (some ⟨b1, 0, none⟩) d.mn.length x0) ∧ W.cell? ⟨w.heap.size + 1, 1, none⟩ = some (.int .i64 (n : Int)) ∧ W.cell? ⟨w.heap.size, 0, none⟩ = some (.slice (some ⟨d1, s1, none⟩) d.mn.length t1) ∧ W.cell? ⟨d1, s1 + n, none⟩ = some (.int .i64 xx) from ⟨Lib.hid h, (wr_cell h (p := ⟨w1.heap.size, 0, none⟩) hly (by simp)).trans (by exact by simpa using y0), (wr_cell h (p := ⟨w.heap.size + 1, 1, none⟩) hlq (by simp)).trans (by exact by simpa using q1), (wr_cell h (p := ⟨w.heap.size, 0, none⟩) hle (by simp)).trans (by exact by simpa using e0), (wr_cell h (p := ⟨d1, s1 + n, none⟩) (by show d1 < _; simpa using hv1) (by simp)).trans (by exact by simpa using z1)⟩)
    have INIT := Lib.hid (CE.out _ (Wr.refl _ _))
    have KW := Lib.hid (fun (W2 W : World) (hb : Wr [] W W2) (h : Hid (Wr [] w2.drew W) ∧ W.cell? ⟨w1.heap.size, 0, none⟩ = some (.slice (some ⟨b1, 0, none⟩) d.mn.length x0) ∧ W.cell? ⟨w.heap.size + 1, 1, none⟩ = some (.int .i64 (n : Int)) ∧ W.cell? ⟨w.heap.size, 0, none⟩ = some (.slice (some ⟨d1, s1, none⟩) d.mn.length t1) ∧ W.cell? ⟨d1, s1 + n, none⟩ = some (.int .i64 xx)) => CE.out W2 (h.1.out.trans hb))
    clear y0 y1 y2 yf q0 q1 q2 qf e0 e1 e2 ef z1 z2 z3 hv1 hv2 hv3 hly hlq hle
    refine wpAnyZ_start 13 (fun W => Hid (Wr [] w2.drew W) ∧ W.cell? ⟨w1.heap.size, 0, none⟩ = some (.slice (some ⟨b1, 0, none⟩) d.mn.length x0) ∧ W.cell? ⟨w.heap.size + 1, 1, none⟩ = some (.int .i64 (n : Int)) ∧ W.cell? ⟨w.heap.size, 0, none⟩ = some (.slice (some ⟨d1, s1, none⟩) d.mn.length t1) ∧ W.cell? ⟨d1, s1 + n, none⟩ = some (.int .i64 xx)) (by kernel_rfl) INIT.out (fun hHeld => ?_)
    clear CE INIT
    refine wpAnyZ_take (i := 0) (v := ?_) rfl (by kernel_rfl) (by kernel_rfl) (by kernel_rfl) (fun _ _ _ h => h) (Or.inl ⟨by rfl, ?_⟩) (by assumption) ?_
    rotate_left
    · (intro W hSw; (try dsimp only at hSw); go_simp <;> with_reducible rfl)
    (try simp only [Act.put])
    refine wpAnyZ_take (i := 1) (v := ?_) rfl (by kernel_rfl) (by kernel_rfl) (by kernel_rfl) (fun _ _ _ h => h) (Or.inl ⟨by rfl, ?_⟩) (by assumption) ?_
    rotate_left
    · (intro W hSw; (try dsimp only at hSw); go_simp <;> with_reducible rfl)
    (try simp only [Act.put])
    refine wpAnyZ_take (i := 2) (v := ?_) rfl (by kernel_rfl) (by kernel_rfl) (by kernel_rfl) (fun _ _ _ h => h) (Or.inl ⟨by rfl, ?_⟩) (by assumption) ?_
    rotate_left
    · (intro W hSw; (try dsimp only at hSw); go_simp <;> with_reducible rfl)
    (try simp only [Act.put])
    refine wpAnyZ_take (i := 3) (v := ?_) rfl (by kernel_rfl) (by kernel_rfl) (by kernel_rfl) (fun _ _ _ h => h) (Or.inl ⟨by rfl, ?_⟩) (by assumption) ?_
    rotate_left
    · (intro W hSw; (try dsimp only at hSw); go_simp <;> with_reducible rfl)
    (try simp only [Act.put])
    refine wpAnyZ_take (i := 4) (v := ?_) rfl (by kernel_rfl) (by kernel_rfl) (by kernel_rfl) (fun _ _ _ h => h) (Or.inl ⟨by rfl, ?_⟩) (by assumption) ?_
    rotate_left
    · (intro W hSw; (try dsimp only at hSw); go_simp <;> with_reducible rfl)
    (try simp only [Act.put])
    refine wpAnyZ_take (i := 5) (v := ?_) rfl (by kernel_rfl) (by kernel_rfl) (by kernel_rfl) (fun _ _ _ h => h) (Or.inl ⟨by rfl, ?_⟩) (by assumption) ?_
    rotate_left
    · (intro W hSw; (try dsimp only at hSw); go_simp <;> with_reducible rfl)
    (try simp only [Act.put])
    refine wpAnyZ_take (i := 6) (v := ?_) rfl (by kernel_rfl) (by kernel_rfl) (by kernel_rfl) (fun _ _ _ h => h) (Or.inl ⟨by rfl, ?_⟩) (by assumption) ?_
    rotate_left
    · (intro W hSw; (try dsimp only at hSw); go_simp <;> with_reducible rfl)
    (try simp only [Act.put])
    refine wpAnyZ_take (i := 7) (v := ?_) rfl (by kernel_rfl) (by kernel_rfl) (by kernel_rfl) (fun _ _ _ h => h) (Or.inl ⟨by rfl, ?_⟩) (by assumption) ?_
    rotate_left
    · (intro W hSw; (try dsimp only at hSw); go_simp <;> with_reducible rfl)
    (try simp only [Act.put])
    refine wpAnyZ_take (i := 8) (v := ?_) rfl (by kernel_rfl) (by kernel_rfl) (by kernel_rfl) (fun _ _ _ h => h) (Or.inl ⟨by rfl, ?_⟩) (by assumption) ?_
    rotate_left
    · (intro W hSw; (try dsimp only at hSw); go_simp <;> with_reducible rfl)
    (try simp only [Act.put])
    refine wpAnyZ_take (i := 9) (v := ?_) rfl (by kernel_rfl) (by kernel_rfl) (by kernel_rfl) (fun _ _ _ h => h) (Or.inl ⟨by rfl, ?_⟩) (by assumption) ?_
    rotate_left
    · (intro W hSw; (try dsimp only at hSw); go_simp <;> with_reducible rfl)
    (try simp only [Act.put])
    refine wpAnyZ_take (i := 10) (v := ?_) rfl (by kernel_rfl) (by kernel_rfl) (by kernel_rfl) (fun _ _ _ h => h) (Or.inl ⟨by rfl, ?_⟩) (by assumption) ?_
    rotate_left
    · (intro W hSw; (try dsimp only at hSw); go_simp <;> with_reducible rfl)
    (try simp only [Act.put])
    refine wpAnyZ_one (i := 11) (by kernel_rfl) rfl (fun K hK => ?_)
    go_simp
    go_at_call 69
    refine (max_b xx (brT va) _).mono ?_
    rintro e w11 ⟨rfl, bb7⟩
    (first | done | go_wp2_with fail)
    refine hK.out _ _ (KW.out _ _ (Wr.of_below bb7 (Nat.le_refl _)) hHeld) (fun hHeld11 => ?_)
    clear hK K
    have S4 := Lib.hid (S3.out.go bb7)
    clear S3 bb7
    have CF := (S4.out.pick 1 rfl).cellI n1
    have hcf := CF.1
    have hff := CF.2
    have S5 := Lib.hid ((S4.out.pick 1 rfl).setI n (max xx (brT va)))
    simp only [List.eraseIdx_cons_succ, List.eraseIdx_cons_zero] at S5
    refine wpAnyZ_take (i := 12) (v := ?_) rfl (by kernel_rfl) (by kernel_rfl) (by kernel_rfl) (fun _ _ _ h => h) (Or.inl ⟨by rfl, ?_⟩) (by assumption) ?_
    rotate_left
    · (intro W hSw; (try dsimp only at hSw); go_simp <;> with_reducible rfl)
    (try simp only [Act.put])
    refine wpAnyZ_last (by kernel_rfl) (by kernel_rfl) rfl (fun K hK => ?_)
    go_simp
    refine hK.out _ _ ?_
    clear hK K
    generalize World.setCell w11 _ _ = w9 at S5 ⊢
    clear S4 CF hcf hff KW
    obtain ⟨y0, y1, y2, yf⟩ := (S5.out.bk 1 rfl).c3
    obtain ⟨p0, p1, p2, pf⟩ := (S5.out.bk 4 rfl).c3
    have hgr : w1.heap.size ≠ w.heap.size + 1 + 1 := fun e => S5.out.2.apart (i := 1) (j := 4) rfl rfl (by omega) w1.heap.size (by simp [boxI]) (by simp [boxI, e])
    go_wp2
    have SZ := ((S5.out.boxSet 4 rfl 0 (.slice (some ⟨b1, 0, none⟩) d.mn.length x0)).boxSet 4 rfl 1 (.slice (some ⟨b2, 0, none⟩) d.mx.length x1)).boxSet 4 rfl 2 (.slice (some ⟨b3, 0, none⟩) d.md.length x2)
    have P := SZ.nil0
    have P := (P.pick 4 rfl).pack
    have P := (P.pick 3 rfl).pack
    have P := (P.pick 1 rfl).pack
    have PO := (P.own 0 rfl).1
    have PN := (P.own 0 rfl).2
    refine bodyPost_ret (v := .agg #[.slice (some ⟨b1, 0, none⟩) d.mn.length x0, .slice (some ⟨b2, 0, none⟩) d.mx.length x1, .slice (some ⟨b3, 0, none⟩) d.md.length x2]) (by simp [results, Try.results23, go_sem, p0, p1, p2]) rfl (by first | exact ⟨_, _, rfl, by rw [RES.out]; exact PO, PN, SZ.1⟩ | exact ⟨_, by rw [RES.out]; exact PO, PN, SZ.1⟩ | exact ⟨_, rfl, _, by rw [RES.out]; exact PO, PN, SZ.1⟩)
  by_cases h2 : ki = 2
  · subst h2
    rw [rest_2] at RES
    go_wp2_with fail
    have S3 := Lib.hid S2.out.drew1
    clear S2
    generalize hxx : mxD d n = xx at z2 RES
    have CE := Lib.hid (fun (W : World) (h : Wr [] w2.drew W) => show Hid (Wr [] w2.drew W) ∧ W.cell? ⟨w1.heap.size, 1, none⟩ = some (.slice (some ⟨b2, 0, none⟩) d.mx.length x1) ∧ W.cell? ⟨w.heap.size + 1, 1, none⟩ = some (.int .i64 (n : Int)) ∧ W.cell? ⟨w.heap.size, 1, none⟩ = some (.slice (some ⟨d2, s2, none⟩) d.mx.length t2) ∧ W.cell? ⟨d2, s2 + n, none⟩ = some (.int .i64 xx) from ⟨Lib.hid h, (wr_cell h (p := ⟨w1.heap.size, 1, none⟩) hly (by simp)).trans (by exact by simpa using y1), (wr_cell h (p := ⟨w.heap.size + 1, 1, none⟩) hlq (by simp)).trans (by exact by simpa using q1), (wr_cell h (p := ⟨w.heap.size, 1, none⟩) hle (by simp)).trans (by exact by simpa using e1), (wr_cell h (p := ⟨d2, s2 + n, none⟩) (by show d2 < _; simpa using hv2) (by simp)).trans (by exact by simpa using z2)⟩)
    have INIT := Lib.hid (CE.out _ (Wr.refl _ _))
    have KW := Lib.hid (fun (W2 W : World) (hb : Wr [] W W2) (h : Hid (Wr [] w2.drew W) ∧ W.cell? ⟨w1.heap.size, 1, none⟩ = some (.slice (some ⟨b2, 0, none⟩) d.mx.length x1) ∧ W.cell? ⟨w.heap.size + 1, 1, none⟩ = some (.int .i64 (n : Int)) ∧ W.cell? ⟨w.heap.size, 1, none⟩ = some (.slice (some ⟨d2, s2, none⟩) d.mx.length t2) ∧ W.cell? ⟨d2, s2 + n, none⟩ = some (.int .i64 xx)) => CE.out W2 (h.1.out.trans hb))
    clear y0 y1 y2 yf q0 q1 q2 qf e0 e1 e2 ef z1 z2 z3 hv1 hv2 hv3 hly hlq hle
    refine wpAnyZ_start 13 (fun W => Hid (Wr [] w2.drew W) ∧ W.cell? ⟨w1.heap.size, 1, none⟩ = some (.slice (some ⟨b2, 0, none⟩) d.mx.length x1) ∧ W.cell? ⟨w.heap.size + 1, 1, none⟩ = some (.int .i64 (n : Int)) ∧ W.cell? ⟨w.heap.size, 1, none⟩ = some (.slice (some ⟨d2, s2, none⟩) d.mx.length t2) ∧ W.cell? ⟨d2, s2 + n, none⟩ = some (.int .i64 xx)) (by kernel_rfl) INIT.out (fun hHeld => ?_)
    clear CE INIT
    refine wpAnyZ_take (i := 0) (v := ?_) rfl (by kernel_rfl) (by kernel_rfl) (by kernel_rfl) (fun _ _ _ h => h) (Or.inl ⟨by rfl, ?_⟩) (by assumption) ?_
    rotate_left
    · (intro W hSw; (try dsimp only at hSw); go_simp <;> with_reducible rfl)
    (try simp only [Act.put])
    refine wpAnyZ_take (i := 1) (v := ?_) rfl (by kernel_rfl) (by kernel_rfl) (by kernel_rfl) (fun _ _ _ h => h) (Or.inl ⟨by rfl, ?_⟩) (by assumption) ?_
    rotate_left
    · (intro W hSw; (try dsimp only at hSw); go_simp <;> with_reducible rfl)
    (try simp only [Act.put])
    refine wpAnyZ_take (i := 2) (v := ?_) rfl (by kernel_rfl) (by kernel_rfl) (by kernel_rfl) (fun _ _ _ h => h) (Or.inl ⟨by rfl, ?_⟩) (by assumption) ?_
    rotate_left
    · (intro W hSw; (try dsimp only at hSw); go_simp <;> with_reducible rfl)
    (try simp only [Act.put])
    refine wpAnyZ_take (i := 3) (v := ?_) rfl (by kernel_rfl) (by kernel_rfl) (by kernel_rfl) (fun _ _ _ h => h) (Or.inl ⟨by rfl, ?_⟩) (by assumption) ?_
    rotate_left
    · (intro W hSw; (try dsimp only at hSw); go_simp <;> with_reducible rfl)
    (try simp only [Act.put])
    refine wpAnyZ_take (i := 4) (v := ?_) rfl (by kernel_rfl) (by kernel_rfl) (by kernel_rfl) (fun _ _ _ h => h) (Or.inl ⟨by rfl, ?_⟩) (by assumption) ?_
    rotate_left
    · (intro W hSw; (try dsimp only at hSw); go_simp <;> with_reducible rfl)
    (try simp only [Act.put])
    refine wpAnyZ_take (i := 5) (v := ?_) rfl (by kernel_rfl) (by kernel_rfl) (by kernel_rfl) (fun _ _ _ h => h) (Or.inl ⟨by rfl, ?_⟩) (by assumption) ?_
    rotate_left
    · (intro W hSw; (try dsimp only at hSw); go_simp <;> with_reducible rfl)
    (try simp only [Act.put])
    refine wpAnyZ_take (i := 6) (v := ?_) rfl (by kernel_rfl) (by kernel_rfl) (by kernel_rfl) (fun _ _ _ h => h) (Or.inl ⟨by rfl, ?_⟩) (by assumption) ?_
    rotate_left
    · (intro W hSw; (try dsimp only at hSw); go_simp <;> with_reducible rfl)
    (try simp only [Act.put])
    refine wpAnyZ_take (i := 7) (v := ?_) rfl (by kernel_rfl) (by kernel_rfl) (by kernel_rfl) (fun _ _ _ h => h) (Or.inl ⟨by rfl, ?_⟩) (by assumption) ?_
    rotate_left
    · (intro W hSw; (try dsimp only at hSw); go_simp <;> with_reducible rfl)
    (try simp only [Act.put])
    refine wpAnyZ_take (i := 8) (v := ?_) rfl (by kernel_rfl) (by kernel_rfl) (by kernel_rfl) (fun _ _ _ h => h) (Or.inl ⟨by rfl, ?_⟩) (by assumption) ?_
    rotate_left
    · (intro W hSw; (try dsimp only at hSw); go_simp <;> with_reducible rfl)
    (try simp only [Act.put])
    refine wpAnyZ_take (i := 9) (v := ?_) rfl (by kernel_rfl) (by kernel_rfl) (by kernel_rfl) (fun _ _ _ h => h) (Or.inl ⟨by rfl, ?_⟩) (by assumption) ?_
    rotate_left
    · (intro W hSw; (try dsimp only at hSw); go_simp <;> with_reducible rfl)
    (try simp only [Act.put])
    refine wpAnyZ_take (i := 10) (v := ?_) rfl (by kernel_rfl) (by kernel_rfl) (by kernel_rfl) (fun _ _ _ h => h) (Or.inl ⟨by rfl, ?_⟩) (by assumption) ?_
    rotate_left
    · (intro W hSw; (try dsimp only at hSw); go_simp <;> with_reducible rfl)
    (try simp only [Act.put])
    refine wpAnyZ_one (i := 11) (by kernel_rfl) rfl (fun K hK => ?_)
    go_simp
    go_at_call 70
    refine (min_b xx (brT va) _).mono ?_
    rintro e w11 ⟨rfl, bb7⟩
    (first | done | go_wp2_with fail)
    refine hK.out _ _ (KW.out _ _ (Wr.of_below bb7 (Nat.le_refl _)) hHeld) (fun hHeld11 => ?_)
    clear hK K
    have S4 := Lib.hid (S3.out.go bb7)
    clear S3 bb7
    have CF := (S4.out.pick 2 rfl).cellI n2
    have hcf := CF.1
    have hff := CF.2
    have S5 := Lib.hid ((S4.out.pick 2 rfl).setI n (min xx (brT va)))
    simp only [List.eraseIdx_cons_succ, List.eraseIdx_cons_zero] at S5
    refine wpAnyZ_take (i := 12) (v := ?_) rfl (by kernel_rfl) (by kernel_rfl) (by kernel_rfl) (fun _ _ _ h => h) (Or.inl ⟨by rfl, ?_⟩) (by assumption) ?_
    rotate_left
    · (intro W hSw; (try dsimp only at hSw); go_simp <;> with_reducible rfl)
    (try simp only [Act.put])
    refine wpAnyZ_last (by kernel_rfl) (by kernel_rfl) rfl (fun K hK => ?_)
    go_simp
    refine hK.out _ _ ?_
    clear hK K
    generalize World.setCell w11 _ _ = w9 at S5 ⊢
    clear S4 CF hcf hff KW
    obtain ⟨y0, y1, y2, yf⟩ := (S5.out.bk 1 rfl).c3
    obtain ⟨p0, p1, p2, pf⟩ := (S5.out.bk 4 rfl).c3
    have hgr : w1.heap.size ≠ w.heap.size + 1 + 1 := fun e => S5.out.2.apart (i := 1) (j := 4) rfl rfl (by omega) w1.heap.size (by simp [boxI]) (by simp [boxI, e])
    go_wp2
    have SZ := ((S5.out.boxSet 4 rfl 0 (.slice (some ⟨b1, 0, none⟩) d.mn.length x0)).boxSet 4 rfl 1 (.slice (some ⟨b2, 0, none⟩) d.mx.length x1)).boxSet 4 rfl 2 (.slice (some ⟨b3, 0, none⟩) d.md.length x2)
    have P := SZ.nil0
    have P := (P.pick 4 rfl).pack
    have P := (P.pick 1 rfl).pack
    have P := (P.pick 2 rfl).pack
    have PO := (P.own 0 rfl).1
    have PN := (P.own 0 rfl).2
    refine bodyPost_ret (v := .agg #[.slice (some ⟨b1, 0, none⟩) d.mn.length x0, .slice (some ⟨b2, 0, none⟩) d.mx.length x1, .slice (some ⟨b3, 0, none⟩) d.md.length x2]) (by simp [results, Try.results23, go_sem, p0, p1, p2]) rfl (by first | exact ⟨_, _, rfl, by rw [RES.out]; exact PO, PN, SZ.1⟩ | exact ⟨_, by rw [RES.out]; exact PO, PN, SZ.1⟩ | exact ⟨_, rfl, _, by rw [RES.out]; exact PO, PN, SZ.1⟩)
  by_cases h3 : ki = 3
  · subst h3
    rw [rest_3] at RES
    go_wp2_with fail
    have S3 := Lib.hid S2.out.drew1
    have BB := Lib.hid (S3.out.1)
    clear S2
    generalize hxx : mdD d n = row at z3 RES RM LM
    have CE := Lib.hid (fun (W : World) (h : Wr [] w2.drew W) => show Hid (Wr [] w2.drew W) ∧ W.cell? ⟨w1.heap.size, 2, none⟩ = some (.slice (some ⟨b3, 0, none⟩) d.md.length x2) ∧ W.cell? ⟨w.heap.size + 1, 1, none⟩ = some (.int .i64 (n : Int)) ∧ W.cell? ⟨w.heap.size, 2, none⟩ = some (.slice (some ⟨d3, s3, none⟩) d.md.length t3) ∧ W.cell? ⟨d3, s3 + n, none⟩ = some (.slice A7 row.length c7) from ⟨Lib.hid h, (wr_cell h (p := ⟨w1.heap.size, 2, none⟩) hly (by simp)).trans (by exact by simpa using y2), (wr_cell h (p := ⟨w.heap.size + 1, 1, none⟩) hlq (by simp)).trans (by exact by simpa using q1), (wr_cell h (p := ⟨w.heap.size, 2, none⟩) hle (by simp)).trans (by exact by simpa using e2), (wr_cell h (p := ⟨d3, s3 + n, none⟩) (by show d3 < _; simpa using hv3) (by simp)).trans (by exact by simpa using z3)⟩)
    have INIT := Lib.hid (CE.out _ (Wr.refl _ _))
    have KW := Lib.hid (fun (W2 W : World) (hb : Wr [] W W2) (h : Hid (Wr [] w2.drew W) ∧ W.cell? ⟨w1.heap.size, 2, none⟩ = some (.slice (some ⟨b3, 0, none⟩) d.md.length x2) ∧ W.cell? ⟨w.heap.size + 1, 1, none⟩ = some (.int .i64 (n : Int)) ∧ W.cell? ⟨w.heap.size, 2, none⟩ = some (.slice (some ⟨d3, s3, none⟩) d.md.length t3) ∧ W.cell? ⟨d3, s3 + n, none⟩ = some (.slice A7 row.length c7)) => CE.out W2 (h.1.out.trans hb))
    clear y0 y1 y2 yf q0 q1 q2 qf e0 e1 e2 ef z1 z2 z3 hv1 hv2 hv3 hly hlq hle
    refine wpAnyZ_start 14 (fun W => Hid (Wr [] w2.drew W) ∧ W.cell? ⟨w1.heap.size, 2, none⟩ = some (.slice (some ⟨b3, 0, none⟩) d.md.length x2) ∧ W.cell? ⟨w.heap.size + 1, 1, none⟩ = some (.int .i64 (n : Int)) ∧ W.cell? ⟨w.heap.size, 2, none⟩ = some (.slice (some ⟨d3, s3, none⟩) d.md.length t3) ∧ W.cell? ⟨d3, s3 + n, none⟩ = some (.slice A7 row.length c7)) (by kernel_rfl) INIT.out (fun hHeld => ?_)
    clear CE INIT
    generalize hwd : w2.drew = wd at S3 KW hHeld BB ⊢
    clear hwd
    refine wpAnyZ_take (i := 0) (v := ?_) rfl (by kernel_rfl) (by kernel_rfl) (by kernel_rfl) (fun _ _ _ h => h) (Or.inl ⟨by rfl, ?_⟩) (by assumption) ?_
    rotate_left
    · (intro W hSw; (try dsimp only at hSw); go_simp <;> with_reducible rfl)
    (try simp only [Act.put])
    refine wpAnyZ_take (i := 1) (v := ?_) rfl (by kernel_rfl) (by kernel_rfl) (by kernel_rfl) (fun _ _ _ h => h) (Or.inl ⟨by rfl, ?_⟩) (by assumption) ?_
    rotate_left
    · (intro W hSw; (try dsimp only at hSw); go_simp <;> with_reducible rfl)
    (try simp only [Act.put])
    refine wpAnyZ_take (i := 2) (v := ?_) rfl (by kernel_rfl) (by kernel_rfl) (by kernel_rfl) (fun _ _ _ h => h) (Or.inl ⟨by rfl, ?_⟩) (by assumption) ?_
    rotate_left
    · (intro W hSw; (try dsimp only at hSw); go_simp <;> with_reducible rfl)
    (try simp only [Act.put])
    refine wpAnyZ_take (i := 3) (v := ?_) rfl (by kernel_rfl) (by kernel_rfl) (by kernel_rfl) (fun _ _ _ h => h) (Or.inl ⟨by rfl, ?_⟩) (by assumption) ?_
    rotate_left
    · (intro W hSw; (try dsimp only at hSw); go_simp <;> with_reducible rfl)
    (try simp only [Act.put])
    refine wpAnyZ_take (i := 4) (v := ?_) rfl (by kernel_rfl) (by kernel_rfl) (by kernel_rfl) (fun _ _ _ h => h) (Or.inl ⟨by rfl, ?_⟩) (by assumption) ?_
    rotate_left
    · (intro W hSw; (try dsimp only at hSw); go_simp <;> with_reducible rfl)
    (try simp only [Act.put])
    refine wpAnyZ_take (i := 6) (v := ?_) rfl (by kernel_rfl) (by kernel_rfl) (by kernel_rfl) (fun _ _ _ h => h) (Or.inl ⟨by rfl, ?_⟩) (by assumption) ?_
    rotate_left
    · (intro W hSw; (try dsimp only at hSw); go_simp <;> with_reducible rfl)
    (try simp only [Act.put])
    refine wpAnyZ_take (i := 7) (v := ?_) rfl (by kernel_rfl) (by kernel_rfl) (by kernel_rfl) (fun _ _ _ h => h) (Or.inl ⟨by rfl, ?_⟩) (by assumption) ?_
    rotate_left
    · (intro W hSw; (try dsimp only at hSw); go_simp <;> with_reducible rfl)
    (try simp only [Act.put])
    refine wpAnyZ_take (i := 8) (v := ?_) rfl (by kernel_rfl) (by kernel_rfl) (by kernel_rfl) (fun _ _ _ h => h) (Or.inl ⟨by rfl, ?_⟩) (by assumption) ?_
    rotate_left
    · (intro W hSw; (try dsimp only at hSw); go_simp <;> with_reducible rfl)
    (try simp only [Act.put])
    refine wpAnyZ_take (i := 9) (v := ?_) rfl (by kernel_rfl) (by kernel_rfl) (by kernel_rfl) (fun _ _ _ h => h) (Or.inl ⟨by rfl, ?_⟩) (by assumption) ?_
    rotate_left
    · (intro W hSw; (try dsimp only at hSw); go_simp <;> with_reducible rfl)
    (try simp only [Act.put])
    refine wpAnyZ_take (i := 10) (v := ?_) rfl (by kernel_rfl) (by kernel_rfl) (by kernel_rfl) (fun _ _ _ h => h) (Or.inl ⟨by rfl, ?_⟩) (by assumption) ?_
    rotate_left
    · (intro W hSw; (try dsimp only at hSw); go_simp <;> with_reducible rfl)
    (try simp only [Act.put])
    refine wpAnyZ_take (i := 11) (v := ?_) rfl (by kernel_rfl) (by kernel_rfl) (by kernel_rfl) (fun _ _ _ h => h) (Or.inl ⟨by rfl, ?_⟩) (by assumption) ?_
    rotate_left
    · (intro W hSw; (try dsimp only at hSw); go_simp <;> with_reducible rfl)
    (try simp only [Act.put])
    have SA := Lib.hid (S3.out.go ((Below.refl _ _).alloc (Nat.le_refl _) (.cells #[.int .i64 (brT va)] 3)))
    have RN := Lib.hid (rd_new wd (brT va) 3)
    refine wpAnyZ_one (i := 5) (by kernel_rfl) rfl (fun K hK => ?_)
    go_simp
    refine hK.out _ _ (KW.out _ _ (Wr.of_below ((Below.refl _ _).alloc (Nat.le_refl _) _) (Nat.le_refl _)) hHeld) (fun hHeld5 => ?_)
    clear hK K
    refine wpAnyZ_one (i := 12) (by kernel_rfl) rfl (fun K hK => ?_)
    go_simp
    go_at_call 71
    refine (specInter_any [brT va] row _ _ _ (by exact RN.out) (by exact RM.out.below SA.out.1 (Nat.le_refl _)) (by simp)).mono ?_
    rintro e w12 ⟨v7, rfl, o7, bb7⟩
    (first | done | go_wp2_with fail)
    refine hK.out _ _ (KW.out _ _ (Wr.of_below bb7 (Nat.le_refl _)) hHeld5) (fun hHeld12 => ?_)
    clear hK K
    rw [inter_one] at o7
    have S4 := Lib.hid (SA.out.new (flat_own (by simpa using o7)).1 (flat_own o7).2 bb7)
    clear RN SA
    obtain ⟨A8, c8, rfl⟩ : ∃ A c, v7 = .slice A (interB row [brT va]).length c := slice_ints (S4.out.rd 0 rfl)
    have S5 := Lib.hid (show Sn w w12 (⟨trI (interB row [brT va]), .slice A8 (interB row [brT va]).length c8, (Value.slice A8 (interB row [brT va]).length c8).ownBlock.toList⟩ :: ⟨trSu d.md, .slice (some ⟨b3, 0, none⟩) d.md.length x2, F3⟩ :: _) from (S4.out.pick 4 rfl).pick 1 rfl)
    simp only [List.eraseIdx_cons_succ, List.eraseIdx_cons_zero] at S5
    obtain ⟨F3', h6⟩ := S5.out.putR rfl n3
    have S6 := Lib.hid h6
    obtain ⟨vsr, Gr, owr, olr, _⟩ := rowsD_raw (S5.out.own 1 rfl).1
    have hcr := owr.frozenAt n
    have hcc := owr.cellAt n (by have := owr.1; omega)
    obtain ⟨xr, hxr⟩ : ∃ x, vsr[n]? = some x := ⟨vsr[n]'(by have := owr.1; omega), List.getElem?_eq_getElem _⟩
    rw [hxr] at hcc
    clear S4 S5 h6 o7 bb7 owr olr hxr
    refine wpAnyZ_take (i := 13) (v := ?_) rfl (by kernel_rfl) (by kernel_rfl) (by kernel_rfl) (fun _ _ _ h => h) (Or.inl ⟨by rfl, ?_⟩) (by assumption) ?_
    rotate_left
    · (intro W hSw; (try dsimp only at hSw); go_simp <;> with_reducible rfl)
    (try simp only [Act.put])
    refine wpAnyZ_last (by kernel_rfl) (by kernel_rfl) rfl (fun K hK => ?_)
    go_simp
    refine hK.out _ _ ?_
    clear hK K
    generalize World.setCell w12 _ _ = w9 at S6 ⊢
    clear hcr hcc KW BB
    obtain ⟨y0, y1, y2, yf⟩ := (S6.out.bk 1 rfl).c3
    obtain ⟨p0, p1, p2, pf⟩ := (S6.out.bk 4 rfl).c3
    have hgr : w1.heap.size ≠ w.heap.size + 1 + 1 := fun e => S6.out.2.apart (i := 1) (j := 4) rfl rfl (by omega) w1.heap.size (by simp [boxI]) (by simp [boxI, e])
    go_wp2
    have SZ := ((S6.out.boxSet 4 rfl 0 (.slice (some ⟨b1, 0, none⟩) d.mn.length x0)).boxSet 4 rfl 1 (.slice (some ⟨b2, 0, none⟩) d.mx.length x1)).boxSet 4 rfl 2 (.slice (some ⟨b3, 0, none⟩) d.md.length x2)
    have P := SZ.nil0
    have P := (P.pick 1 rfl).pack
    have P := (P.pick 3 rfl).pack
    have P := (P.pick 2 rfl).pack
    have PO := (P.own 0 rfl).1
    have PN := (P.own 0 rfl).2
    refine bodyPost_ret (v := .agg #[.slice (some ⟨b1, 0, none⟩) d.mn.length x0, .slice (some ⟨b2, 0, none⟩) d.mx.length x1, .slice (some ⟨b3, 0, none⟩) d.md.length x2]) (by simp [results, Try.results23, go_sem, p0, p1, p2]) rfl (by first | exact ⟨_, _, rfl, by rw [RES.out]; exact PO, PN, SZ.1⟩ | exact ⟨_, by rw [RES.out]; exact PO, PN, SZ.1⟩ | exact ⟨_, rfl, _, by rw [RES.out]; exact PO, PN, SZ.1⟩)
  by_cases h4 : ki = 4
  · subst h4
    rw [rest_4] at RES
    go_wp2_with fail
    have S3 := Lib.hid S2.out.drew1
    have BB := Lib.hid (S3.out.1)
    clear S2
    generalize hxx : mdD d n = row at z3 RES RM LM
    have CE := Lib.hid (fun (W : World) (h : Wr [] w2.drew W) => show Hid (Wr [] w2.drew W) ∧ W.cell? ⟨w1.heap.size, 2, none⟩ = some (.slice (some ⟨b3, 0, none⟩) d.md.length x2) ∧ W.cell? ⟨w.heap.size + 1, 1, none⟩ = some (.int .i64 (n : Int)) ∧ W.cell? ⟨w.heap.size, 2, none⟩ = some (.slice (some ⟨d3, s3, none⟩) d.md.length t3) ∧ W.cell? ⟨d3, s3 + n, none⟩ = some (.slice A7 row.length c7) from ⟨Lib.hid h, (wr_cell h (p := ⟨w1.heap.size, 2, none⟩) hly (by simp)).trans (by exact by simpa using y2), (wr_cell h (p := ⟨w.heap.size + 1, 1, none⟩) hlq (by simp)).trans (by exact by simpa using q1), (wr_cell h (p := ⟨w.heap.size, 2, none⟩) hle (by simp)).trans (by exact by simpa using e2), (wr_cell h (p := ⟨d3, s3 + n, none⟩) (by show d3 < _; simpa using hv3) (by simp)).trans (by exact by simpa using z3)⟩)
    have INIT := Lib.hid (CE.out _ (Wr.refl _ _))
    have KW := Lib.hid (fun (W2 W : World) (hb : Wr [] W W2) (h : Hid (Wr [] w2.drew W) ∧ W.cell? ⟨w1.heap.size, 2, none⟩ = some (.slice (some ⟨b3, 0, none⟩) d.md.length x2) ∧ W.cell? ⟨w.heap.size + 1, 1, none⟩ = some (.int .i64 (n : Int)) ∧ W.cell? ⟨w.heap.size, 2, none⟩ = some (.slice (some ⟨d3, s3, none⟩) d.md.length t3) ∧ W.cell? ⟨d3, s3 + n, none⟩ = some (.slice A7 row.length c7)) => CE.out W2 (h.1.out.trans hb))
    clear y0 y1 y2 yf q0 q1 q2 qf e0 e1 e2 ef z1 z2 z3 hv1 hv2 hv3 hly hlq hle
    refine wpAnyZ_start 13 (fun W => Hid (Wr [] w2.drew W) ∧ W.cell? ⟨w1.heap.size, 2, none⟩ = some (.slice (some ⟨b3, 0, none⟩) d.md.length x2) ∧ W.cell? ⟨w.heap.size + 1, 1, none⟩ = some (.int .i64 (n : Int)) ∧ W.cell? ⟨w.heap.size, 2, none⟩ = some (.slice (some ⟨d3, s3, none⟩) d.md.length t3) ∧ W.cell? ⟨d3, s3 + n, none⟩ = some (.slice A7 row.length c7)) (by kernel_rfl) INIT.out (fun hHeld => ?_)
    clear CE INIT
    generalize hwd : w2.drew = wd at S3 KW hHeld BB ⊢
    clear hwd
    refine wpAnyZ_take (i := 0) (v := ?_) rfl (by kernel_rfl) (by kernel_rfl) (by kernel_rfl) (fun _ _ _ h => h) (Or.inl ⟨by rfl, ?_⟩) (by assumption) ?_
    rotate_left
    · (intro W hSw; (try dsimp only at hSw); go_simp <;> with_reducible rfl)
    (try simp only [Act.put])
    refine wpAnyZ_take (i := 1) (v := ?_) rfl (by kernel_rfl) (by kernel_rfl) (by kernel_rfl) (fun _ _ _ h => h) (Or.inl ⟨by rfl, ?_⟩) (by assumption) ?_
    rotate_left
    · (intro W hSw; (try dsimp only at hSw); go_simp <;> with_reducible rfl)
    (try simp only [Act.put])
    refine wpAnyZ_take (i := 2) (v := ?_) rfl (by kernel_rfl) (by kernel_rfl) (by kernel_rfl) (fun _ _ _ h => h) (Or.inl ⟨by rfl, ?_⟩) (by assumption) ?_
    rotate_left
    · (intro W hSw; (try dsimp only at hSw); go_simp <;> with_reducible rfl)
    (try simp only [Act.put])
    refine wpAnyZ_take (i := 3) (v := ?_) rfl (by kernel_rfl) (by kernel_rfl) (by kernel_rfl) (fun _ _ _ h => h) (Or.inl ⟨by rfl, ?_⟩) (by assumption) ?_
    rotate_left
    · (intro W hSw; (try dsimp only at hSw); go_simp <;> with_reducible rfl)
    (try simp only [Act.put])
    refine wpAnyZ_take (i := 4) (v := ?_) rfl (by kernel_rfl) (by kernel_rfl) (by kernel_rfl) (fun _ _ _ h => h) (Or.inl ⟨by rfl, ?_⟩) (by assumption) ?_
    rotate_left
    · (intro W hSw; (try dsimp only at hSw); go_simp <;> with_reducible rfl)
    (try simp only [Act.put])
    refine wpAnyZ_take (i := 5) (v := ?_) rfl (by kernel_rfl) (by kernel_rfl) (by kernel_rfl) (fun _ _ _ h => h) (Or.inl ⟨by rfl, ?_⟩) (by assumption) ?_
    rotate_left
    · (intro W hSw; (try dsimp only at hSw); go_simp <;> with_reducible rfl)
    (try simp only [Act.put])
    refine wpAnyZ_take (i := 6) (v := ?_) rfl (by kernel_rfl) (by kernel_rfl) (by kernel_rfl) (fun _ _ _ h => h) (Or.inl ⟨by rfl, ?_⟩) (by assumption) ?_
    rotate_left
    · (intro W hSw; (try dsimp only at hSw); go_simp <;> with_reducible rfl)
    (try simp only [Act.put])
    refine wpAnyZ_take (i := 7) (v := ?_) rfl (by kernel_rfl) (by kernel_rfl) (by kernel_rfl) (fun _ _ _ h => h) (Or.inl ⟨by rfl, ?_⟩) (by assumption) ?_
    rotate_left
    · (intro W hSw; (try dsimp only at hSw); go_simp <;> with_reducible rfl)
    (try simp only [Act.put])
    refine wpAnyZ_take (i := 8) (v := ?_) rfl (by kernel_rfl) (by kernel_rfl) (by kernel_rfl) (fun _ _ _ h => h) (Or.inl ⟨by rfl, ?_⟩) (by assumption) ?_
    rotate_left
    · (intro W hSw; (try dsimp only at hSw); go_simp <;> with_reducible rfl)
    (try simp only [Act.put])
    refine wpAnyZ_take (i := 9) (v := ?_) rfl (by kernel_rfl) (by kernel_rfl) (by kernel_rfl) (fun _ _ _ h => h) (Or.inl ⟨by rfl, ?_⟩) (by assumption) ?_
    rotate_left
    · (intro W hSw; (try dsimp only at hSw); go_simp <;> with_reducible rfl)
    (try simp only [Act.put])
    refine wpAnyZ_take (i := 10) (v := ?_) rfl (by kernel_rfl) (by kernel_rfl) (by kernel_rfl) (fun _ _ _ h => h) (Or.inl ⟨by rfl, ?_⟩) (by assumption) ?_
    rotate_left
    · (intro W hSw; (try dsimp only at hSw); go_simp <;> with_reducible rfl)
    (try simp only [Act.put])
    refine wpAnyZ_one (i := 11) (by kernel_rfl) rfl (fun K hK => ?_)
    go_simp
    go_at_call 72
    refine (specRemove_any row (brT va) _ _ (by exact RM.out.below BB.out (Nat.le_refl _)) (by have := LM.out; omega)).mono ?_
    rintro e w11 ⟨v7, rfl, o7, bb7⟩
    (first | done | go_wp2_with fail)
    refine hK.out _ _ (KW.out _ _ (Wr.of_below bb7 (Nat.le_refl _)) hHeld) (fun hHeld11 => ?_)
    clear hK K
    have S4 := Lib.hid (S3.out.new (flat_own (by simpa using o7)).1 (flat_own o7).2 bb7)
    obtain ⟨A8, c8, rfl⟩ : ∃ A c, v7 = .slice A (pickB (neB (brT va)) row).length c := slice_ints (S4.out.rd 0 rfl)
    have S5 := Lib.hid (show Sn w w11 (⟨trI (pickB (neB (brT va)) row), .slice A8 (pickB (neB (brT va)) row).length c8, (Value.slice A8 (pickB (neB (brT va)) row).length c8).ownBlock.toList⟩ :: ⟨trSu d.md, .slice (some ⟨b3, 0, none⟩) d.md.length x2, F3⟩ :: _) from (S4.out.pick 4 rfl).pick 1 rfl)
    simp only [List.eraseIdx_cons_succ, List.eraseIdx_cons_zero] at S5
    obtain ⟨F3', h6⟩ := S5.out.putR rfl n3
    have S6 := Lib.hid h6
    obtain ⟨vsr, Gr, owr, olr, _⟩ := rowsD_raw (S5.out.own 1 rfl).1
    have hcr := owr.frozenAt n
    have hcc := owr.cellAt n (by have := owr.1; omega)
    obtain ⟨xr, hxr⟩ : ∃ x, vsr[n]? = some x := ⟨vsr[n]'(by have := owr.1; omega), List.getElem?_eq_getElem _⟩
    rw [hxr] at hcc
    clear S4 S5 h6 o7 bb7 owr olr hxr
    refine wpAnyZ_take (i := 12) (v := ?_) rfl (by kernel_rfl) (by kernel_rfl) (by kernel_rfl) (fun _ _ _ h => h) (Or.inl ⟨by rfl, ?_⟩) (by assumption) ?_
    rotate_left
    · (intro W hSw; (try dsimp only at hSw); go_simp <;> with_reducible rfl)
    (try simp only [Act.put])
    refine wpAnyZ_last (by kernel_rfl) (by kernel_rfl) rfl (fun K hK => ?_)
    go_simp
    refine hK.out _ _ ?_
    clear hK K
    generalize World.setCell w11 _ _ = w9 at S6 ⊢
    clear hcr hcc KW BB
    obtain ⟨y0, y1, y2, yf⟩ := (S6.out.bk 1 rfl).c3
    obtain ⟨p0, p1, p2, pf⟩ := (S6.out.bk 4 rfl).c3
    have hgr : w1.heap.size ≠ w.heap.size + 1 + 1 := fun e => S6.out.2.apart (i := 1) (j := 4) rfl rfl (by omega) w1.heap.size (by simp [boxI]) (by simp [boxI, e])
    go_wp2
    have SZ := ((S6.out.boxSet 4 rfl 0 (.slice (some ⟨b1, 0, none⟩) d.mn.length x0)).boxSet 4 rfl 1 (.slice (some ⟨b2, 0, none⟩) d.mx.length x1)).boxSet 4 rfl 2 (.slice (some ⟨b3, 0, none⟩) d.md.length x2)
    have P := SZ.nil0
    have P := (P.pick 1 rfl).pack
    have P := (P.pick 3 rfl).pack
    have P := (P.pick 2 rfl).pack
    have PO := (P.own 0 rfl).1
    have PN := (P.own 0 rfl).2
    refine bodyPost_ret (v := .agg #[.slice (some ⟨b1, 0, none⟩) d.mn.length x0, .slice (some ⟨b2, 0, none⟩) d.mx.length x1, .slice (some ⟨b3, 0, none⟩) d.md.length x2]) (by simp [results, Try.results23, go_sem, p0, p1, p2]) rfl (by first | exact ⟨_, _, rfl, by rw [RES.out]; exact PO, PN, SZ.1⟩ | exact ⟨_, by rw [RES.out]; exact PO, PN, SZ.1⟩ | exact ⟨_, rfl, _, by rw [RES.out]; exact PO, PN, SZ.1⟩)
  rw [rest_o h1 h2 h3 h4] at RES
  obtain ⟨p0, p1, p2, pf⟩ := (S2.out.bk 4 rfl).c3
  have hgr : w1.heap.size ≠ w.heap.size + 1 + 1 := fun e => S2.out.2.apart (i := 0) (j := 4) rfl rfl (by omega) w1.heap.size (by simp [boxI]) (by simp [boxI, e])
  go_wp2
  have SZ := ((S2.out.boxSet 4 rfl 0 (.slice (some ⟨b1, 0, none⟩) d.mn.length x0)).boxSet 4 rfl 1 (.slice (some ⟨b2, 0, none⟩) d.mx.length x1)).boxSet 4 rfl 2 (.slice (some ⟨b3, 0, none⟩) d.md.length x2)
  have P := SZ.nil0
  have P := (P.pick 4 rfl).pack
  have P := (P.pick 3 rfl).pack
  have P := (P.pick 2 rfl).pack
  have PO := (P.own 0 rfl).1
  have PN := (P.own 0 rfl).2
  refine bodyPost_ret (v := .agg #[.slice (some ⟨b1, 0, none⟩) d.mn.length x0, .slice (some ⟨b2, 0, none⟩) d.mx.length x1, .slice (some ⟨b3, 0, none⟩) d.md.length x2]) (by simp [results, Try.results23, go_sem, p0, p1, p2]) rfl (by first | exact ⟨_, _, rfl, by rw [RES.out]; exact PO, PN, SZ.1⟩ | exact ⟨_, by rw [RES.out]; exact PO, PN, SZ.1⟩ | exact ⟨_, rfl, _, by rw [RES.out]; exact PO, PN, SZ.1⟩)
end Go.Proofs.Ytdbnhdiboemmiaa
