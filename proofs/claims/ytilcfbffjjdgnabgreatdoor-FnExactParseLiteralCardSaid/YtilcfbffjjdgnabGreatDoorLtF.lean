/- DERIVED. CONTRACTS of chapter 12: FormatLiteral, of the program and of the model. -/
import Derived.Test.YtilcfbffjjdgnabGreatDoorLtQ
import Derived.Test.YtilcfbffjjdgnabGreatDoorLtN
import Derived.Test.YtilcfbffjjdgnabGreatDoorLtO
import Derived.Test.YtilcfbffjjdgnabGreatDoorFmt
import Derived.Test.YtilcfbffjjdgnabGreatDoorJoin
namespace Go.Proofs.YtilcfbffjjdgnabGreatDoor
open Go.RowKit Go.Shelf
set_option linter.unusedVariables false

theorem ret_sL {a b : ByteArray} (h : a = b) : Ending.returned (.string a) = Ending.returned (.string b) := by rw [h]
theorem join_two (x y b : ByteArray) : joinB [x, y] b = x ++ b ++ y := by
  unfold joinB
  show jn [x, y] b 2 = _
  rw [jn_succ (by omega) (by simp), jn_one (by simp)]; rfl
theorem ltSg_size (k : Int) : (ltSg k).size ≤ 2 := by
  unfold ltSg
  split
  · have e : k = 0 ∨ k = 1 ∨ k = 2 ∨ k = 3 ∨ k = 4 := by omega
    rcases e with rfl | rfl | rfl | rfl | rfl <;> decide
  · show (0 : Nat) ≤ 2; omega
theorem nmB_small {s : ByteArray} (h : nmB s = true) : s.size ≤ 8 := by
  simp only [nmB, Bool.and_eq_true, decide_eq_true_eq] at h
  exact h.2.1
set_option maxRecDepth 100000 in
set_option maxHeartbeats 8000000 in
theorem implFormatLiteral_any (p : Pj) (l : Lt) (v : Value) (w : World) (hv : (trPj p).rd w v) (hk : (trPj p).ok) (ht : TB w) :
    Calls Tryz.prog 10 #[v, ltV l] w fun e w' => e = .returned (.string (fmtLt p l)) ∧ Below w.heap.size w w' := by
  have HK := Lib.hid hk
  have HT := Lib.hid ht
  have HV := Lib.hid hv
  obtain ⟨A1, c1, A2, c2, A3, c3, A4, c4, rfl, r1, _⟩ := rdProject_t hv
  obtain ⟨hl1, B1, d1, he, g1⟩ := rdActivityS_t r1
  injection he with he _ he2
  subst he he2
  have G1 := Lib.hid g1
  have HNO := Lib.hid (fun h => @fmtLt_no p l h)
  have HY := Lib.hid (fun h => @fmtLt_yes p l h)
  have HPT := Lib.hid (fun h => @lit_parts p l h)
  generalize fmtLt p l = res at HNO HY ⊢
  obtain ⟨ki, ac, va⟩ := l
  have S0 := Lib.hid (((Sn.start w).box 36 [.int .i64 p.dl, .slice A1 p.acts.length c1, .slice A2 p.lks.length c2, .slice A3 p.ress.length c3, .slice A4 p.stk.length c4]).box 38 [.int .i64 ki, .int .i64 ac, .int .i64 va])
  simp only [World.size_alloc] at S0
  clear hv hk ht r1 g1
  unfold ltV
  go_enter Tryz.func10, Tryz.ntmps10
  go_wp2_with fail
  refine (implLiteralOk_any p ⟨ki, ac, va⟩ _ _ (by exact S0.out.old HV.out) HK.out).mono ?_
  rintro e w1 ⟨rfl, b⟩
  have S1 := Lib.hid (S0.out.go b)
  clear S0 b
  rcases hx : litOkB p ⟨ki, ac, va⟩ with _ | _
  · have H := Lib.hid (HNO.out hx)
    clear hx
    go_wp2
    go_ret
    exact ⟨ret_sL H.out.symm, S1.out.1⟩
  obtain ⟨⟨n, hn, e⟩, hki, hva, hnm, _⟩ := HPT.out hx
  have H := Lib.hid (HY.out hx)
  try simp only at e hki hva hnm H
  subst e
  rw [Int.toNat_natCast, nmA_at hn] at H
  rw [Int.toNat_natCast, nmA_at hn] at hnm
  have hsz := nmB_small hnm
  obtain ⟨b1, o1, rfl, hb1, hc1⟩ := G1.out n hn
  obtain ⟨M, cm, x0, x1, x2, rm⟩ := hc1 n hn
  have y0 := (S1.out.1.cell (p := ⟨b1, o1 + n * 3, none⟩) hb1).trans x0
  have hbw := Nat.lt_of_lt_of_le hb1 S1.out.1.size
  generalize p.acts[n].nm = nm at y0 H hsz
  have g0 : (0 : Int) ≤ (n : Int) := by omega
  have g1 : (n : Int) < (p.acts.length : Int) := by omega
  have hsg := ltSg_size ki
  have hfs := fmtB_size va
  clear x0 x1 x2 rm hx HNO HY HPT hc1 hnm
  go_wp2_with fail
  obtain ⟨p0, p1, p2, p3, p4, pf⟩ := (S1.out.bk 1 rfl).c5
  obtain ⟨q0, q1, q2, qf⟩ := (S1.out.bk 0 rfl).c3
  have hlp := (S1.out.bk 1 rfl).lt
  have hll := (S1.out.bk 0 rfl).lt
  have S2 := Lib.hid S1.out.drew1
  have CE := Lib.hid (fun (W : World) (h : Wr [] w1.drew W) => show Hid (Wr [] w1.drew W) ∧ W.cell? ⟨w.heap.size, 1, none⟩ = some (.slice (some ⟨b1, o1, none⟩) p.acts.length c1) ∧ W.cell? ⟨w.heap.size + 1, 0, none⟩ = some (.int .i64 ki) ∧ W.cell? ⟨w.heap.size + 1, 1, none⟩ = some (.int .i64 (n : Int)) ∧ W.cell? ⟨w.heap.size + 1, 2, none⟩ = some (.int .i64 va) ∧ W.cell? ⟨b1, o1 + n * 3, none⟩ = some (.string nm) from ⟨Lib.hid h, (wr_cell h (p := ⟨w.heap.size, 1, none⟩) hlp (by simp)).trans (by exact by simpa using p1), (wr_cell h (p := ⟨w.heap.size + 1, 0, none⟩) hll (by simp)).trans (by exact by simpa using q0), (wr_cell h (p := ⟨w.heap.size + 1, 1, none⟩) hll (by simp)).trans (by exact by simpa using q1), (wr_cell h (p := ⟨w.heap.size + 1, 2, none⟩) hll (by simp)).trans (by exact by simpa using q2), (wr_cell h (p := ⟨b1, o1 + n * 3, none⟩) (by show b1 < _; simpa using hbw) (by simp)).trans (by exact by simpa using y0)⟩)
  have INIT := Lib.hid (CE.out _ (Wr.refl _ _))
  have KW := Lib.hid (fun (W2 W : World) (hb : Wr [] W W2) (h : Hid (Wr [] w1.drew W) ∧ W.cell? ⟨w.heap.size, 1, none⟩ = some (.slice (some ⟨b1, o1, none⟩) p.acts.length c1) ∧ W.cell? ⟨w.heap.size + 1, 0, none⟩ = some (.int .i64 ki) ∧ W.cell? ⟨w.heap.size + 1, 1, none⟩ = some (.int .i64 (n : Int)) ∧ W.cell? ⟨w.heap.size + 1, 2, none⟩ = some (.int .i64 va) ∧ W.cell? ⟨b1, o1 + n * 3, none⟩ = some (.string nm)) => CE.out W2 (h.1.out.trans hb))
  clear p0 p1 p2 p3 p4 pf q0 q1 q2 qf y0 S1
  refine wp_region_held_drew (S := fun W => Hid (Wr [] w1.drew W) ∧ W.cell? ⟨w.heap.size, 1, none⟩ = some (.slice (some ⟨b1, o1, none⟩) p.acts.length c1) ∧ W.cell? ⟨w.heap.size + 1, 0, none⟩ = some (.int .i64 ki) ∧ W.cell? ⟨w.heap.size + 1, 1, none⟩ = some (.int .i64 (n : Int)) ∧ W.cell? ⟨w.heap.size + 1, 2, none⟩ = some (.int .i64 va) ∧ W.cell? ⟨b1, o1 + n * 3, none⟩ = some (.string nm)) (by kernel_rfl) INIT.out (fun hHeld => ?_)
  refine wpAnyH_take (i := 0) (v := ?_) rfl (by kernel_rfl) (by kernel_rfl) (by kernel_rfl) (fun _ _ _ h => h) (Or.inl ⟨by rfl, ?_⟩) (by assumption) ?_
  rotate_left
  · (intro W hSw; (try dsimp only at hSw); go_simp <;> with_reducible rfl)
  (try simp only [Act.put, List.getElem_toArray, List.getElem_cons_zero, List.setIfInBounds_toArray, List.set_cons_succ, List.set_cons_zero])
  refine wpAnyH_take (i := 1) (v := ?_) rfl (by kernel_rfl) (by kernel_rfl) (by kernel_rfl) (fun _ _ _ h => h) (Or.inl ⟨by rfl, ?_⟩) (by assumption) ?_
  rotate_left
  · (intro W hSw; (try dsimp only at hSw); go_simp <;> with_reducible rfl)
  (try simp only [Act.put, List.getElem_toArray, List.getElem_cons_succ, List.getElem_cons_zero, List.setIfInBounds_toArray, List.set_cons_succ, List.set_cons_zero])
  refine wpAnyH_take (i := 3) (v := ?_) rfl (by kernel_rfl) (by kernel_rfl) (by kernel_rfl) (fun _ _ _ h => h) (Or.inl ⟨by rfl, ?_⟩) (by assumption) ?_
  rotate_left
  · (intro W hSw; (try dsimp only at hSw); go_simp <;> with_reducible rfl)
  (try simp only [Act.put, List.getElem_toArray, List.getElem_cons_succ, List.getElem_cons_zero, List.setIfInBounds_toArray, List.set_cons_succ, List.set_cons_zero])
  refine wpAnyH_take (i := 4) (v := ?_) rfl (by kernel_rfl) (by kernel_rfl) (by kernel_rfl) (fun _ _ _ h => h) (Or.inl ⟨by rfl, ?_⟩) (by assumption) ?_
  rotate_left
  · (intro W hSw; (try dsimp only at hSw); go_simp <;> with_reducible rfl)
  (try simp only [Act.put, List.getElem_toArray, List.getElem_cons_succ, List.getElem_cons_zero, List.setIfInBounds_toArray, List.set_cons_succ, List.set_cons_zero])
  refine wpAnyH_take (i := 5) (v := ?_) rfl (by kernel_rfl) (by kernel_rfl) (by kernel_rfl) (fun _ _ _ h => h) (Or.inl ⟨by rfl, ?_⟩) (by assumption) ?_
  rotate_left
  · (intro W hSw; (try dsimp only at hSw); go_simp <;> with_reducible rfl)
  (try simp only [Act.put, List.getElem_toArray, List.getElem_cons_succ, List.getElem_cons_zero, List.setIfInBounds_toArray, List.set_cons_succ, List.set_cons_zero])
  refine wpAnyH_take (i := 6) (v := ?_) rfl (by kernel_rfl) (by kernel_rfl) (by kernel_rfl) (fun _ _ _ h => h) (Or.inl ⟨by rfl, ?_⟩) (by assumption) ?_
  rotate_left
  · (intro W hSw; (try dsimp only at hSw); go_simp <;> with_reducible rfl)
  (try simp only [Act.put, List.getElem_toArray, List.getElem_cons_succ, List.getElem_cons_zero, List.setIfInBounds_toArray, List.set_cons_succ, List.set_cons_zero])
  refine wpAnyH_take (i := 7) (v := ?_) rfl (by kernel_rfl) (by kernel_rfl) (by kernel_rfl) (fun _ _ _ h => h) (Or.inl ⟨by rfl, ?_⟩) (by assumption) ?_
  rotate_left
  · (intro W hSw; (try dsimp only at hSw); go_simp <;> with_reducible rfl)
  (try simp only [Act.put, List.getElem_toArray, List.getElem_cons_succ, List.getElem_cons_zero, List.setIfInBounds_toArray, List.set_cons_succ, List.set_cons_zero])
  refine wpAnyH_take (i := 8) (v := ?_) rfl (by kernel_rfl) (by kernel_rfl) (by kernel_rfl) (fun _ _ _ h => h) (Or.inl ⟨by rfl, ?_⟩) (by assumption) ?_
  rotate_left
  · (intro W hSw; (try dsimp only at hSw); go_simp <;> with_reducible rfl)
  (try simp only [Act.put, List.getElem_toArray, List.getElem_cons_succ, List.getElem_cons_zero, List.setIfInBounds_toArray, List.set_cons_succ, List.set_cons_zero])
  refine wpAnyH_take (i := 9) (v := ?_) rfl (by kernel_rfl) (by kernel_rfl) (by kernel_rfl) (fun _ _ _ h => h) (Or.inl ⟨by rfl, ?_⟩) (by assumption) ?_
  rotate_left
  · (intro W hSw; (try dsimp only at hSw); go_simp <;> with_reducible rfl)
  (try simp only [Act.put, List.getElem_toArray, List.getElem_cons_succ, List.getElem_cons_zero, List.setIfInBounds_toArray, List.set_cons_succ, List.set_cons_zero])
  refine wpAnyH_take (i := 10) (v := ?_) rfl (by kernel_rfl) (by kernel_rfl) (by kernel_rfl) (fun _ _ _ h => h) (Or.inl ⟨by rfl, ?_⟩) (by assumption) ?_
  rotate_left
  · (intro W hSw; (try dsimp only at hSw); go_simp <;> with_reducible rfl)
  (try simp only [Act.put, List.getElem_toArray, List.getElem_cons_succ, List.getElem_cons_zero, List.setIfInBounds_toArray, List.set_cons_succ, List.set_cons_zero])
  refine wpAnyH_take (i := 11) (v := ?_) rfl (by kernel_rfl) (by kernel_rfl) (by kernel_rfl) (fun _ _ _ h => h) (Or.inl ⟨by rfl, ?_⟩) (by assumption) ?_
  rotate_left
  · (intro W hSw; (try dsimp only at hSw); go_simp <;> with_reducible rfl)
  (try simp only [Act.put, List.getElem_toArray, List.getElem_cons_succ, List.getElem_cons_zero, List.setIfInBounds_toArray, List.set_cons_succ, List.set_cons_zero])
  refine wpAnyH_ready (rs := [2]) (by kernel_rfl) (by simp) ?_
  refine AllReadyH.cons rfl (fun K hK => ?_) AllReadyH.nil
  go_simp
  go_at_call 45
  refine (implLiteralSign_any ki _).mono ?_
  rintro e w3 ⟨rfl, bb⟩
  have S3 := Lib.hid (S2.out.go bb)
  (first | done | go_wp2_with fail)
  refine hK.out _ _ (KW.out _ _ (Wr.of_below bb (Nat.le_refl _)) (by assumption)) (fun hHeld2 => ?_)
  clear hK K bb S2
  refine wpAnyH_ready (rs := [12]) (by kernel_rfl) (by simp) ?_
  refine AllReadyH.cons rfl (fun K hK => ?_) AllReadyH.nil
  go_simp
  go_at_call 46
  refine (implFmt_any va _ (by omega) (by omega) (HT.out.below S3.out.1 (Nat.le_refl _))).mono ?_
  rintro e w4 ⟨rfl, bb⟩
  have S4 := Lib.hid (S3.out.go bb)
  (first | done | go_wp2_with fail)
  refine hK.out _ _ (KW.out _ _ (Wr.of_below bb (Nat.le_refl _)) (by assumption)) (fun hHeld12 => ?_)
  clear hK K bb S3
  refine wpAnyH_ready (rs := [13]) (by kernel_rfl) (by simp) ?_
  refine AllReadyH.cons rfl (fun K hK => ?_) AllReadyH.nil
  go_simp
  have BA := (Below.refl _ w4).alloc (Nat.le_refl _) (.cells #[.string nm, .string (fmtB va)] 9)
  refine hK.out _ _ (KW.out _ _ (Wr.of_below BA (Nat.le_refl _)) (by assumption)) (fun hHeld13 => ?_)
  clear hK K
  have S5 := Lib.hid (S4.out.go BA)
  have R5 := Lib.hid (newRow_any w4 9 [nm, fmtB va] (by simp [maxLen]))
  clear BA S4
  refine wpAnyH_ready (rs := [14]) (by kernel_rfl) (by simp) ?_
  refine AllReadyH.cons rfl (fun K hK => ?_) AllReadyH.nil
  go_simp
  refine (joinAll_any [nm, fmtB va] (ltSg ki) _ _ (by first | exact R5.out | simpa using R5.out) (by simp [tot]; omega) (by simp) (by omega)).mono ?_
  rintro e w6 ⟨rfl, bb⟩
  have S6 := Lib.hid (S5.out.go bb)
  refine hK.out _ _ (KW.out _ _ (Wr.of_below bb (Nat.le_refl _)) (by assumption)) (fun hHeld14 => ?_)
  clear hK K bb S5 R5
  rw [join_two, ← H.out]
  refine wpAnyH_take (i := 15) (v := ?_) rfl (by kernel_rfl) (by kernel_rfl) (by kernel_rfl) (fun _ _ _ h => h) (Or.inl ⟨by rfl, ?_⟩) (by assumption) ?_
  rotate_left
  · (intro W hSw; (try dsimp only at hSw); go_simp <;> with_reducible rfl)
  (try simp only [Act.put, List.getElem_toArray, List.getElem_cons_succ, List.getElem_cons_zero, List.setIfInBounds_toArray, List.set_cons_succ, List.set_cons_zero])
  refine wpAnyH_done (by kernel_rfl) ?_ _
  go_wp2
  go_ret
  exact ⟨rfl, S6.out.1⟩
set_option maxRecDepth 100000 in
set_option maxHeartbeats 8000000 in
theorem specFormatLiteral_any (p : Pj) (l : Lt) (v : Value) (w : World) (hv : (trPj p).rd w v) (hk : (trPj p).ok) :
    Calls Tryz.prog 7 #[v, ltV l] w fun e w' => e = .returned (.string (fmtLt p l)) ∧ Below w.heap.size w w' := by
  have HK := Lib.hid hk
  have HV := Lib.hid hv
  obtain ⟨A1, c1, A2, c2, A3, c3, A4, c4, rfl, r1, _⟩ := rdProject_t hv
  obtain ⟨hl1, B1, d1, he, g1⟩ := rdActivityS_t r1
  injection he with he _ he2
  subst he he2
  have G1 := Lib.hid g1
  have HNO := Lib.hid (fun h => @fmtLt_no p l h)
  have HY := Lib.hid (fun h => @fmtLt_yes p l h)
  have HPT := Lib.hid (fun h => @lit_parts p l h)
  generalize fmtLt p l = res at HNO HY ⊢
  obtain ⟨ki, ac, va⟩ := l
  have S0 := Lib.hid (((Sn.start w).box 36 [.int .i64 p.dl, .slice A1 p.acts.length c1, .slice A2 p.lks.length c2, .slice A3 p.ress.length c3, .slice A4 p.stk.length c4]).box 38 [.int .i64 ki, .int .i64 ac, .int .i64 va])
  simp only [World.size_alloc] at S0
  clear hv hk r1 g1
  unfold ltV
  go_enter Tryz.func7, Tryz.ntmps7
  go_wp2_with fail
  refine (specLiteralOk_any p ⟨ki, ac, va⟩ _ _ (by exact S0.out.old HV.out) HK.out).mono ?_
  rintro e w1 ⟨rfl, b⟩
  have S1 := Lib.hid (S0.out.go b)
  clear S0 b
  rcases hx : litOkB p ⟨ki, ac, va⟩ with _ | _
  · have H := Lib.hid (HNO.out hx)
    clear hx
    go_wp2
    go_ret
    exact ⟨ret_sL H.out.symm, S1.out.1⟩
  obtain ⟨⟨n, hn, e⟩, hki, hvb, hnm, _⟩ := HPT.out hx
  have H := Lib.hid (HY.out hx)
  try simp only at e hki hvb hnm H
  subst e
  rw [Int.toNat_natCast, nmA_at hn] at H
  rw [Int.toNat_natCast, nmA_at hn] at hnm
  have hsz := nmB_small hnm
  obtain ⟨b1, o1, rfl, hb1, hc1⟩ := G1.out n hn
  obtain ⟨M, cm, x0, x1, x2, rm⟩ := hc1 n hn
  have y0 := (S1.out.1.cell (p := ⟨b1, o1 + n * 3, none⟩) hb1).trans x0
  have hbw := Nat.lt_of_lt_of_le hb1 S1.out.1.size
  generalize p.acts[n].nm = nm at y0 H hsz
  have g0 : (0 : Int) ≤ (n : Int) := by omega
  have g1 : (n : Int) < (p.acts.length : Int) := by omega
  have hsg := ltSg_size ki
  have hfs := fmtB_size va
  clear x0 x1 x2 rm hx HNO HY HPT hc1 hnm
  go_wp2_with fail
  obtain ⟨p0, p1, p2, p3, p4, pf⟩ := (S1.out.bk 1 rfl).c5
  obtain ⟨q0, q1, q2, qf⟩ := (S1.out.bk 0 rfl).c3
  have hlp := (S1.out.bk 1 rfl).lt
  have hll := (S1.out.bk 0 rfl).lt
  have S2 := Lib.hid S1.out.drew1
  have hcat1 : ¬ 9223372036854775807 < nm.size + (ltSg ki).size := by omega
  have hcat2 : ¬ 9223372036854775807 < nm.size + (ltSg ki).size + (fmtB va).size := by omega
  have CE := Lib.hid (fun (W : World) (h : Wr [] w1.drew W) => show Hid (Wr [] w1.drew W) ∧ W.cell? ⟨w.heap.size, 1, none⟩ = some (.slice (some ⟨b1, o1, none⟩) p.acts.length c1) ∧ W.cell? ⟨w.heap.size + 1, 0, none⟩ = some (.int .i64 ki) ∧ W.cell? ⟨w.heap.size + 1, 1, none⟩ = some (.int .i64 (n : Int)) ∧ W.cell? ⟨w.heap.size + 1, 2, none⟩ = some (.int .i64 va) ∧ W.cell? ⟨b1, o1 + n * 3, none⟩ = some (.string nm) from ⟨Lib.hid h, (wr_cell h (p := ⟨w.heap.size, 1, none⟩) hlp (by simp)).trans (by exact by simpa using p1), (wr_cell h (p := ⟨w.heap.size + 1, 0, none⟩) hll (by simp)).trans (by exact by simpa using q0), (wr_cell h (p := ⟨w.heap.size + 1, 1, none⟩) hll (by simp)).trans (by exact by simpa using q1), (wr_cell h (p := ⟨w.heap.size + 1, 2, none⟩) hll (by simp)).trans (by exact by simpa using q2), (wr_cell h (p := ⟨b1, o1 + n * 3, none⟩) (by show b1 < _; simpa using hbw) (by simp)).trans (by exact by simpa using y0)⟩)
  have INIT := Lib.hid (CE.out _ (Wr.refl _ _))
  have KW := Lib.hid (fun (W2 W : World) (hb : Wr [] W W2) (h : Hid (Wr [] w1.drew W) ∧ W.cell? ⟨w.heap.size, 1, none⟩ = some (.slice (some ⟨b1, o1, none⟩) p.acts.length c1) ∧ W.cell? ⟨w.heap.size + 1, 0, none⟩ = some (.int .i64 ki) ∧ W.cell? ⟨w.heap.size + 1, 1, none⟩ = some (.int .i64 (n : Int)) ∧ W.cell? ⟨w.heap.size + 1, 2, none⟩ = some (.int .i64 va) ∧ W.cell? ⟨b1, o1 + n * 3, none⟩ = some (.string nm)) => CE.out W2 (h.1.out.trans hb))
  clear p0 p1 p2 p3 p4 pf q0 q1 q2 qf y0 S1
  refine wp_region_held_drew (S := fun W => Hid (Wr [] w1.drew W) ∧ W.cell? ⟨w.heap.size, 1, none⟩ = some (.slice (some ⟨b1, o1, none⟩) p.acts.length c1) ∧ W.cell? ⟨w.heap.size + 1, 0, none⟩ = some (.int .i64 ki) ∧ W.cell? ⟨w.heap.size + 1, 1, none⟩ = some (.int .i64 (n : Int)) ∧ W.cell? ⟨w.heap.size + 1, 2, none⟩ = some (.int .i64 va) ∧ W.cell? ⟨b1, o1 + n * 3, none⟩ = some (.string nm)) (by kernel_rfl) INIT.out (fun hHeld => ?_)
  refine wpAnyH_take (i := 0) (v := ?_) rfl (by kernel_rfl) (by kernel_rfl) (by kernel_rfl) (fun _ _ _ h => h) (Or.inl ⟨by rfl, ?_⟩) (by assumption) ?_
  rotate_left
  · (intro W hSw; (try dsimp only at hSw); go_simp <;> with_reducible rfl)
  (try simp only [Act.put, List.getElem_toArray, List.getElem_cons_zero, List.setIfInBounds_toArray, List.set_cons_succ, List.set_cons_zero])
  refine wpAnyH_take (i := 1) (v := ?_) rfl (by kernel_rfl) (by kernel_rfl) (by kernel_rfl) (fun _ _ _ h => h) (Or.inl ⟨by rfl, ?_⟩) (by assumption) ?_
  rotate_left
  · (intro W hSw; (try dsimp only at hSw); go_simp <;> with_reducible rfl)
  (try simp only [Act.put, List.getElem_toArray, List.getElem_cons_succ, List.getElem_cons_zero, List.setIfInBounds_toArray, List.set_cons_succ, List.set_cons_zero])
  refine wpAnyH_take (i := 2) (v := ?_) rfl (by kernel_rfl) (by kernel_rfl) (by kernel_rfl) (fun _ _ _ h => h) (Or.inl ⟨by rfl, ?_⟩) (by assumption) ?_
  rotate_left
  · (intro W hSw; (try dsimp only at hSw); go_simp <;> with_reducible rfl)
  (try simp only [Act.put, List.getElem_toArray, List.getElem_cons_succ, List.getElem_cons_zero, List.setIfInBounds_toArray, List.set_cons_succ, List.set_cons_zero])
  refine wpAnyH_take (i := 3) (v := ?_) rfl (by kernel_rfl) (by kernel_rfl) (by kernel_rfl) (fun _ _ _ h => h) (Or.inl ⟨by rfl, ?_⟩) (by assumption) ?_
  rotate_left
  · (intro W hSw; (try dsimp only at hSw); go_simp <;> with_reducible rfl)
  (try simp only [Act.put, List.getElem_toArray, List.getElem_cons_succ, List.getElem_cons_zero, List.setIfInBounds_toArray, List.set_cons_succ, List.set_cons_zero])
  refine wpAnyH_take (i := 4) (v := ?_) rfl (by kernel_rfl) (by kernel_rfl) (by kernel_rfl) (fun _ _ _ h => h) (Or.inl ⟨by rfl, ?_⟩) (by assumption) ?_
  rotate_left
  · (intro W hSw; (try dsimp only at hSw); go_simp <;> with_reducible rfl)
  (try simp only [Act.put, List.getElem_toArray, List.getElem_cons_succ, List.getElem_cons_zero, List.setIfInBounds_toArray, List.set_cons_succ, List.set_cons_zero])
  refine wpAnyH_take (i := 5) (v := ?_) rfl (by kernel_rfl) (by kernel_rfl) (by kernel_rfl) (fun _ _ _ h => h) (Or.inl ⟨by rfl, ?_⟩) (by assumption) ?_
  rotate_left
  · (intro W hSw; (try dsimp only at hSw); go_simp <;> with_reducible rfl)
  (try simp only [Act.put, List.getElem_toArray, List.getElem_cons_succ, List.getElem_cons_zero, List.setIfInBounds_toArray, List.set_cons_succ, List.set_cons_zero])
  refine wpAnyH_take (i := 6) (v := ?_) rfl (by kernel_rfl) (by kernel_rfl) (by kernel_rfl) (fun _ _ _ h => h) (Or.inl ⟨by rfl, ?_⟩) (by assumption) ?_
  rotate_left
  · (intro W hSw; (try dsimp only at hSw); go_simp <;> with_reducible rfl)
  (try simp only [Act.put, List.getElem_toArray, List.getElem_cons_succ, List.getElem_cons_zero, List.setIfInBounds_toArray, List.set_cons_succ, List.set_cons_zero])
  refine wpAnyH_take (i := 7) (v := ?_) rfl (by kernel_rfl) (by kernel_rfl) (by kernel_rfl) (fun _ _ _ h => h) (Or.inl ⟨by rfl, ?_⟩) (by assumption) ?_
  rotate_left
  · (intro W hSw; (try dsimp only at hSw); go_simp <;> with_reducible rfl)
  (try simp only [Act.put, List.getElem_toArray, List.getElem_cons_succ, List.getElem_cons_zero, List.setIfInBounds_toArray, List.set_cons_succ, List.set_cons_zero])
  refine wpAnyH_take (i := 8) (v := ?_) rfl (by kernel_rfl) (by kernel_rfl) (by kernel_rfl) (fun _ _ _ h => h) (Or.inl ⟨by rfl, ?_⟩) (by assumption) ?_
  rotate_left
  · (intro W hSw; (try dsimp only at hSw); go_simp <;> with_reducible rfl)
  (try simp only [Act.put, List.getElem_toArray, List.getElem_cons_succ, List.getElem_cons_zero, List.setIfInBounds_toArray, List.set_cons_succ, List.set_cons_zero])
  refine wpAnyH_take (i := 11) (v := ?_) rfl (by kernel_rfl) (by kernel_rfl) (by kernel_rfl) (fun _ _ _ h => h) (Or.inl ⟨by rfl, ?_⟩) (by assumption) ?_
  rotate_left
  · (intro W hSw; (try dsimp only at hSw); go_simp <;> with_reducible rfl)
  (try simp only [Act.put, List.getElem_toArray, List.getElem_cons_succ, List.getElem_cons_zero, List.setIfInBounds_toArray, List.set_cons_succ, List.set_cons_zero])
  refine wpAnyH_take (i := 12) (v := ?_) rfl (by kernel_rfl) (by kernel_rfl) (by kernel_rfl) (fun _ _ _ h => h) (Or.inl ⟨by rfl, ?_⟩) (by assumption) ?_
  rotate_left
  · (intro W hSw; (try dsimp only at hSw); go_simp <;> with_reducible rfl)
  (try simp only [Act.put, List.getElem_toArray, List.getElem_cons_succ, List.getElem_cons_zero, List.setIfInBounds_toArray, List.set_cons_succ, List.set_cons_zero])
  refine wpAnyH_ready (rs := [9]) (by kernel_rfl) (by simp) ?_
  refine AllReadyH.cons rfl (fun K hK => ?_) AllReadyH.nil
  go_simp
  go_at_call 37
  refine (specLiteralSign_any ki _).mono ?_
  rintro e w3 ⟨rfl, bb⟩
  have S3 := Lib.hid (S2.out.go bb)
  (first | done | go_wp2_with fail)
  refine hK.out _ _ (KW.out _ _ (Wr.of_below bb (Nat.le_refl _)) (by assumption)) (fun hHeld9 => ?_)
  clear hK K bb S2
  refine wpAnyH_take (i := 10) (v := ?_) rfl (by kernel_rfl) (by kernel_rfl) (by kernel_rfl) (fun _ _ _ h => h) (Or.inl ⟨by rfl, ?_⟩) (by assumption) ?_
  rotate_left
  · (intro W hSw; (try dsimp only at hSw); go_simp <;> with_reducible rfl)
  (try simp only [Act.put, List.getElem_toArray, List.getElem_cons_succ, List.getElem_cons_zero, List.setIfInBounds_toArray, List.set_cons_succ, List.set_cons_zero])
  refine wpAnyH_ready (rs := [13]) (by kernel_rfl) (by simp) ?_
  refine AllReadyH.cons rfl (fun K hK => ?_) AllReadyH.nil
  go_simp
  go_at_call 38
  refine (specFmt_any va _ (by omega) (by omega)).mono ?_
  rintro e w4 ⟨rfl, bb⟩
  have S4 := Lib.hid (S3.out.go bb)
  (first | done | go_wp2_with fail)
  refine hK.out _ _ (KW.out _ _ (Wr.of_below bb (Nat.le_refl _)) (by assumption)) (fun hHeld13 => ?_)
  clear hK K bb S3
  refine wpAnyH_take (i := 14) (v := ?_) rfl (by kernel_rfl) (by kernel_rfl) (by kernel_rfl) (fun _ _ _ h => h) (Or.inl ⟨by rfl, ?_⟩) (by assumption) ?_
  rotate_left
  · (intro W hSw; (try dsimp only at hSw); go_simp <;> with_reducible rfl)
  (try simp only [Act.put, List.getElem_toArray, List.getElem_cons_succ, List.getElem_cons_zero, List.setIfInBounds_toArray, List.set_cons_succ, List.set_cons_zero])
  rw [← H.out]
  refine wpAnyH_take (i := 15) (v := ?_) rfl (by kernel_rfl) (by kernel_rfl) (by kernel_rfl) (fun _ _ _ h => h) (Or.inl ⟨by rfl, ?_⟩) (by assumption) ?_
  rotate_left
  · (intro W hSw; (try dsimp only at hSw); go_simp <;> with_reducible rfl)
  (try simp only [Act.put, List.getElem_toArray, List.getElem_cons_succ, List.getElem_cons_zero, List.setIfInBounds_toArray, List.set_cons_succ, List.set_cons_zero])
  refine wpAnyH_done (by kernel_rfl) ?_ _
  go_wp2
  go_ret
  exact ⟨rfl, S4.out.1⟩
end Go.Proofs.YtilcfbffjjdgnabGreatDoor
