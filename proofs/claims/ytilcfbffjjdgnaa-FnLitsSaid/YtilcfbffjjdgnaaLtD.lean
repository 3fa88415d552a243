/- DERIVED. CONTRACTS: spec.l11Draw and spec.MakeLit: a literal drawn. -/
import Derived.Test.YtilcfbffjjdgnaaLtM
import Derived.Test.YtilcfbffjjdgnaaRuDr
import Derived.Test.YtilcfbffjjdgnaaMkP
namespace Go.Proofs.Ytilcfbffjjdgnaa
open Go.RowKit Go.Shelf
set_option linter.unusedVariables false

/-- A drawn literal: of an activity that there is; about a time below 10, or about one of its modes. -/
structure DrLt (p : Pj) (l : Lt) : Prop where
  ki : 1 ≤ l.ki ∧ l.ki ≤ 4
  ac : ∃ n : Nat, ∃ hn : n < p.acts.length, l.ac = (n : Int) ∧ ((l.ki ≤ 2 ∧ 0 ≤ l.va ∧ l.va < 10) ∨ (3 ≤ l.ki ∧ 0 ≤ l.va ∧ l.va < (p.acts[n].ms.length : Int)))
theorem drLt_ok {p : Pj} {l : Lt} (hp : pokB p = true) (h : DrLt p l) : litOkB p l = true := by
  obtain ⟨n, hn, e, hv⟩ := h.ac
  have hk := h.ki
  rw [lit_at hp hn e]
  unfold ltVal
  rcases hv with ⟨h2, h3, h4⟩ | ⟨h2, h3, h4⟩
  · rw [inB_yes (n := l.va) (lo := -1) (hi := 61) (by omega)]
    by_cases h1 : l.ki = 1
    · rw [if_pos h1]
    · rw [if_neg h1, if_pos (by omega)]
  · rw [if_neg (by omega), if_neg (by omega), inB_yes (n := l.va) (lo := 0) (by omega)]
    by_cases h1 : l.ki = 3
    · rw [if_pos h1]
    · rw [if_neg h1, if_pos (by omega)]
set_option maxRecDepth 100000 in
set_option maxHeartbeats 8000000 in
theorem draw11_any (p : Pj) (h6 : 1 ≤ p.acts.length ∧ p.acts.length ≤ 6) (hms : ∀ i, (h : i < p.acts.length) → 1 ≤ p.acts[i].ms.length ∧ p.acts[i].ms.length ≤ 2) (g : Nat) (A : Option Addr) (c : Nat) (bs : List Int) (W0 w : World) (h : Drw W0 w g A c bs) (v : Value) (hv : (trPj p).rd W0 v) :
    Calls Try.prog 31 #[.pointer (some ⟨g, 0, none⟩), v] w fun e w' => ∃ l, e = .returned (ltV l) ∧ DrLt p l ∧ Drw W0 w' g A c bs ∧ w.grownBy w' (some g) := by
  obtain ⟨A1, c1, A2, c2, A3, c3, A4, c4, rfl, r1, _⟩ := rdProject_t hv
  obtain ⟨hl1, B1, d1, he, g1⟩ := rdActivityS_t r1
  injection he with he _ he2
  subst he he2
  have G1 := Lib.hid g1
  have HMS := Lib.hid hms
  have hgl := h.cur.lt
  have hle := h.le
  have S0 := Lib.hid (((Sd.start h).box 28 [.int .i64 p.dl, .slice A1 p.acts.length c1, .slice A2 p.lks.length c2, .slice A3 p.ress.length c3, .slice A4 p.stk.length c4]).box 34 [.int .i64 0, .int .i64 0, .int .i64 0])
  simp only [World.size_alloc] at S0
  clear h hv r1 g1 hms
  go_enter Try.func31, Try.ntmps31
  go_wp2_with fail
  refine (below_small (p.acts.length : Int) (by omega) (by omega) g A c bs W0 _ S0.out.drw).mono ?_
  rintro e w1 ⟨r, rfl, h00, h01, hd, hg⟩
  have S1 := Lib.hid (S0.out.call hd hg)
  clear S0 hd hg
  obtain ⟨n, rfl⟩ : ∃ n : Nat, r = (n : Int) := ⟨r.toNat, by omega⟩
  have hn : n < p.acts.length := by omega
  go_wp2_with fail
  refine (once_any 4 (by omega) (by omega) g A c bs W0 _ S1.out.drw).mono ?_
  rintro e w2 ⟨x, rfl, hd, hg⟩
  have S2 := Lib.hid (S1.out.call hd hg)
  clear S1 hd hg
  rcases x with _ | _
  · go_wp2_with fail
    refine (below_small 2 (by omega) (by omega) g A c bs W0 _ S2.out.drw).mono ?_
    rintro e w3 ⟨r3, rfl, h30, h31, hd, hg⟩
    have S3 := Lib.hid (S2.out.call hd hg)
    clear S2 hd hg
    have hw1 : IntKind.i64.wrap (1 + r3) = 1 + r3 := by rw [IntKind.wrap_i64]; omega
    go_wp2_with fail
    refine (below_small 10 (by omega) (by omega) g A c bs W0 _ S3.out.drw).mono ?_
    rintro e w4 ⟨r4, rfl, h40, h41, hd, hg⟩
    have S4 := Lib.hid (S3.out.call hd hg)
    clear S3 hd hg
    have DL := Lib.hid (show DrLt p ⟨1 + r3, (n : Int), r4⟩ from ⟨by show 1 ≤ 1 + r3 ∧ 1 + r3 ≤ 4; omega, n, hn, rfl, .inl ⟨by show 1 + r3 ≤ 2; omega, h40, h41⟩⟩)
    obtain ⟨q0, q1, q2, qf⟩ := (S4.out.bk 0 rfl).c3
    go_wp2
    have SZ := ((S4.out.boxSet 0 rfl 0 (.int .i64 (1 + r3))).boxSet 0 rfl 1 (.int .i64 (n : Int))).boxSet 0 rfl 2 (.int .i64 r4)
    refine bodyPost_ret (v := .agg #[.int .i64 (1 + r3), .int .i64 (n : Int), .int .i64 r4]) (by simp [results, Try.results31, go_sem, q0, q1, q2]) rfl (by first | exact ⟨⟨1 + r3, (n : Int), r4⟩, rfl, DL.out, SZ.drw, wr_grown SZ.wr⟩ | exact ⟨_, rfl, DL.out, SZ.drw, wr_grown SZ.wr⟩)
  · have hmn := HMS.out n hn
    obtain ⟨b1, o1, rfl, hb1, hc1⟩ := G1.out n hn
    obtain ⟨M, cm, x0, x1, x2, rm⟩ := hc1 n hn
    have DL := Lib.hid (fun (r3 r4 : Int) (h30 : 0 ≤ r3) (h31 : r3 < 2) (h40 : 0 ≤ r4) (h41 : r4 < (p.acts[n].ms.length : Int)) => show DrLt p ⟨3 + r3, (n : Int), r4⟩ from ⟨by show 1 ≤ 3 + r3 ∧ 3 + r3 ≤ 4; omega, n, hn, rfl, .inr ⟨by show 3 ≤ 3 + r3; omega, h40, h41⟩⟩)
    generalize p.acts[n].ms.length = nm at hmn x2 DL
    have y2 := (S2.out.drw.bel.cell (p := ⟨b1, o1 + n * 3 + 2, none⟩) hb1).trans x2
    have hb2 : b1 < w2.heap.size := Nat.lt_of_lt_of_le hb1 S2.out.drw.bel.size
    have g0 : (0 : Int) ≤ (n : Int) := by omega
    have g1 : (n : Int) < (p.acts.length : Int) := by omega
    have hnz := hle
    clear x0 x1 x2 rm hc1 HMS G1
    go_wp2_with fail
    obtain ⟨p0, p1, p2, p3, p4, pf⟩ := (S2.out.bk 1 rfl).c5
    have hlp := (S2.out.bk 1 rfl).lt
    have S3 := Lib.hid S2.out.drew
    have CE := Lib.hid (fun (W : World) (h : Wr [g, w.heap.size + 1] w2.drew W) => show Hid (Wr [g, w.heap.size + 1] w2.drew W) ∧ W.cell? ⟨w.heap.size, 1, none⟩ = some (.slice (some ⟨b1, o1, none⟩) p.acts.length c1) ∧ W.cell? ⟨b1, o1 + n * 3 + 2, none⟩ = some (.slice M nm cm) from ⟨Lib.hid h, (wr_cell h (p := ⟨w.heap.size, 1, none⟩) hlp (by simp; omega)).trans (by exact by simpa using p1), (wr_cell h (p := ⟨b1, o1 + n * 3 + 2, none⟩) (by show b1 < _; simpa using hb2) (by simp; omega)).trans (by exact by simpa using y2)⟩)
    have INIT := Lib.hid (CE.out _ (Wr.refl _ _))
    have KW := Lib.hid (fun (W2 W : World) (hb : Wr [g, w.heap.size + 1] W W2) (h : Hid (Wr [g, w.heap.size + 1] w2.drew W) ∧ W.cell? ⟨w.heap.size, 1, none⟩ = some (.slice (some ⟨b1, o1, none⟩) p.acts.length c1) ∧ W.cell? ⟨b1, o1 + n * 3 + 2, none⟩ = some (.slice M nm cm)) => CE.out W2 (h.1.out.trans hb))
    clear p0 p1 p2 p3 p4 pf y2 S2
    refine wp_region_held_drew (S := fun W => Hid (Wr [g, w.heap.size + 1] w2.drew W) ∧ W.cell? ⟨w.heap.size, 1, none⟩ = some (.slice (some ⟨b1, o1, none⟩) p.acts.length c1) ∧ W.cell? ⟨b1, o1 + n * 3 + 2, none⟩ = some (.slice M nm cm)) (by kernel_rfl) INIT.out (fun hHeld => ?_)
    refine wpAnyH_take (i := 0) (v := ?_) rfl (by kernel_rfl) (by kernel_rfl) (by kernel_rfl) (fun _ _ _ h => h) (Or.inl ⟨by rfl, ?_⟩) (by assumption) ?_
    rotate_left
    · (intro W hSw; (try dsimp only at hSw); go_simp <;> with_reducible rfl)
    (try simp only [Act.put, List.getElem_toArray, List.getElem_cons_zero, List.setIfInBounds_toArray, List.set_cons_succ, List.set_cons_zero])
    refine wpAnyH_take (i := 3) (v := ?_) rfl (by kernel_rfl) (by kernel_rfl) (by kernel_rfl) (fun _ _ _ h => h) (Or.inl ⟨by rfl, ?_⟩) (by assumption) ?_
    rotate_left
    · (intro W hSw; (try dsimp only at hSw); go_simp <;> with_reducible rfl)
    (try simp only [Act.put, List.getElem_toArray, List.getElem_cons_succ, List.getElem_cons_zero, List.setIfInBounds_toArray, List.set_cons_succ, List.set_cons_zero])
    refine wpAnyH_take (i := 4) (v := ?_) rfl (by kernel_rfl) (by kernel_rfl) (by kernel_rfl) (fun _ _ _ h => h) (Or.inl ⟨by rfl, ?_⟩) (by assumption) ?_
    rotate_left
    · (intro W hSw; (try dsimp only at hSw); go_simp <;> with_reducible rfl)
    (try simp only [Act.put, List.getElem_toArray, List.getElem_cons_succ, List.getElem_cons_zero, List.setIfInBounds_toArray, List.set_cons_succ, List.set_cons_zero])
    refine wpAnyH_take (i := 5) (v := ?_) rfl (by kernel_rfl) (by kernel_rfl) (by kernel_rfl) (fun _ _ _ h => h) (Or.inl ⟨by rfl, ?_⟩) (by assumption) ?_
    rotate_left
    · (intro W hSw; (try dsimp only at hSw); go_simp <;> with_reducible rfl)
    (try simp only [Act.put, List.getElem_toArray, List.getElem_cons_succ, List.getElem_cons_zero, List.setIfInBounds_toArray, List.set_cons_succ, List.set_cons_zero])
    refine wpAnyH_take (i := 6) (v := ?_) rfl (by kernel_rfl) (by kernel_rfl) (by kernel_rfl) (fun _ _ _ h => h) (Or.inl ⟨by rfl, ?_⟩) (by assumption) ?_
    rotate_left
    · (intro W hSw; (try dsimp only at hSw); go_simp <;> with_reducible rfl)
    (try simp only [Act.put, List.getElem_toArray, List.getElem_cons_succ, List.getElem_cons_zero, List.setIfInBounds_toArray, List.set_cons_succ, List.set_cons_zero])
    refine wpAnyH_take (i := 7) (v := ?_) rfl (by kernel_rfl) (by kernel_rfl) (by kernel_rfl) (fun _ _ _ h => h) (Or.inl ⟨by rfl, ?_⟩) (by assumption) ?_
    rotate_left
    · (intro W hSw; (try dsimp only at hSw); go_simp <;> with_reducible rfl)
    (try simp only [Act.put, List.getElem_toArray, List.getElem_cons_succ, List.getElem_cons_zero, List.setIfInBounds_toArray, List.set_cons_succ, List.set_cons_zero])
    refine wpAnyH_take (i := 8) (v := ?_) rfl (by kernel_rfl) (by kernel_rfl) (by kernel_rfl) (fun _ _ _ h => h) (Or.inl ⟨by rfl, ?_⟩) (by assumption) ?_
    rotate_left
    · (intro W hSw; (try dsimp only at hSw); go_simp <;> with_reducible rfl)
    (try simp only [Act.put, List.getElem_toArray, List.getElem_cons_succ, List.getElem_cons_zero, List.setIfInBounds_toArray, List.set_cons_succ, List.set_cons_zero])
    refine wpAnyH_take (i := 9) (v := ?_) rfl (by kernel_rfl) (by kernel_rfl) (by kernel_rfl) (fun _ _ _ h => h) (Or.inl ⟨by rfl, ?_⟩) (by assumption) ?_
    rotate_left
    · (intro W hSw; (try dsimp only at hSw); go_simp <;> with_reducible rfl)
    (try simp only [Act.put, List.getElem_toArray, List.getElem_cons_succ, List.getElem_cons_zero, List.setIfInBounds_toArray, List.set_cons_succ, List.set_cons_zero])
    refine wpAnyH_take (i := 10) (v := ?_) rfl (by kernel_rfl) (by kernel_rfl) (by kernel_rfl) (fun _ _ _ h => h) (Or.inl ⟨by rfl, ?_⟩) (by assumption) ?_
    rotate_left
    · (intro W hSw; (try dsimp only at hSw); go_simp <;> with_reducible rfl)
    (try simp only [Act.put, List.getElem_toArray, List.getElem_cons_succ, List.getElem_cons_zero, List.setIfInBounds_toArray, List.set_cons_succ, List.set_cons_zero])
    refine wpAnyH_take (i := 11) (v := ?_) rfl (by kernel_rfl) (by kernel_rfl) (by kernel_rfl) (fun _ _ _ h => h) (Or.inl ⟨by rfl, ?_⟩) (by assumption) ?_
    rotate_left
    · (intro W hSw; (try dsimp only at hSw); go_simp <;> with_reducible rfl)
    (try simp only [Act.put, List.getElem_toArray, List.getElem_cons_succ, List.getElem_cons_zero, List.setIfInBounds_toArray, List.set_cons_succ, List.set_cons_zero])
    refine wpAnyH_ready (rs := [1]) (by kernel_rfl) (by simp) ?_
    refine AllReadyH.cons rfl (fun K hK => ?_) AllReadyH.nil
    go_simp
    refine (below_small 2 (by omega) (by omega) g A c bs W0 _ S3.out.drw).mono ?_
    rintro e w3 ⟨r3, rfl, h30, h31, hd, hg⟩
    have S4 := Lib.hid (S3.out.call hd hg)
    have WG := Lib.hid ((Wr.of_grown hg).sub (G := [g, w.heap.size + 1]) (by simp))
    have hw1 : IntKind.i64.wrap (3 + r3) = 3 + r3 := by rw [IntKind.wrap_i64]; omega
    (first | done | go_wp2_with fail | skip)
    refine hK.out _ _ (KW.out _ _ WG.out (by assumption)) (fun hHeld1 => ?_)
    clear hK K hd hg S3 WG
    refine wpAnyH_take (i := 2) (v := ?_) rfl (by kernel_rfl) (by kernel_rfl) (by kernel_rfl) (fun _ _ _ h => h) (Or.inl ⟨by rfl, ?_⟩) (by assumption) ?_
    rotate_left
    · (intro W hSw; (try dsimp only at hSw); go_simp <;> with_reducible rfl)
    (try simp only [Act.put, List.getElem_toArray, List.getElem_cons_succ, List.getElem_cons_zero, List.setIfInBounds_toArray, List.set_cons_succ, List.set_cons_zero])
    refine wpAnyH_ready (rs := [12]) (by kernel_rfl) (by simp) ?_
    refine AllReadyH.cons rfl (fun K hK => ?_) AllReadyH.nil
    go_simp
    refine (below_small (nm : Int) (by omega) (by omega) g A c bs W0 _ S4.out.drw).mono ?_
    rintro e w4 ⟨r4, rfl, h40, h41, hd, hg⟩
    have S5 := Lib.hid (S4.out.call hd hg)
    have WG := Lib.hid ((Wr.of_grown hg).sub (G := [g, w.heap.size + 1]) (by simp))
    (first | done | go_wp2_with fail | skip)
    refine hK.out _ _ (KW.out _ _ WG.out (by assumption)) (fun hHeld2 => ?_)
    clear hK K hd hg S4 WG
    refine wpAnyH_take (i := 13) (v := ?_) rfl (by kernel_rfl) (by kernel_rfl) (by kernel_rfl) (fun _ _ _ h => h) (Or.inl ⟨by rfl, ?_⟩) (by assumption) ?_
    rotate_left
    · (intro W hSw; (try dsimp only at hSw); go_simp <;> with_reducible rfl)
    (try simp only [Act.put, List.getElem_toArray, List.getElem_cons_succ, List.getElem_cons_zero, List.setIfInBounds_toArray, List.set_cons_succ, List.set_cons_zero])
    obtain ⟨q0, q1, q2, qf⟩ := (S5.out.bk 0 rfl).c3
    refine wpAnyH_ready (rs := [14]) (by kernel_rfl) (by simp) ?_
    refine AllReadyH.cons rfl (fun K hK => ?_) AllReadyH.nil
    go_simp
    refine hK.out _ _ (KW.out _ _ (((Wr.setCell _ _ (by simp) _).trans (Wr.setCell _ _ (by simp) _)).trans (Wr.setCell _ _ (by simp) _)) (by assumption)) (fun hHeld3 => ?_)
    clear hK K
    refine wpAnyH_done (by kernel_rfl) ?_ _
    clear hHeld hHeld1 hHeld2 hHeld3 CE INIT KW
    have DL2 := Lib.hid (DL.out r3 r4 h30 h31 h40 h41)
    go_wp2
    have SZ := ((S5.out.boxSet 0 rfl 0 (.int .i64 (3 + r3))).boxSet 0 rfl 1 (.int .i64 (n : Int))).boxSet 0 rfl 2 (.int .i64 r4)
    refine bodyPost_ret (v := .agg #[.int .i64 (3 + r3), .int .i64 (n : Int), .int .i64 r4]) (by simp [results, Try.results31, go_sem, q0, q1, q2]) rfl (by first | exact ⟨⟨3 + r3, (n : Int), r4⟩, rfl, DL2.out, SZ.drw, wr_grown SZ.wr⟩ | exact ⟨_, rfl, DL2.out, SZ.drw, wr_grown SZ.wr⟩)
set_option maxRecDepth 100000 in
set_option maxHeartbeats 8000000 in
theorem makeLit_any (p : Pj) (h6 : 1 ≤ p.acts.length ∧ p.acts.length ≤ 6) (hms : ∀ i, (h : i < p.acts.length) → 1 ≤ p.acts[i].ms.length ∧ p.acts[i].ms.length ≤ 2) (A : Option Addr) (c : Nat) (bs : List Int) (v : Value) (turn : Int) (w : World) (hr : Rd w (.slice A bs.length c) (bs.map (.int .u8))) (hu : ∀ b ∈ bs, 0 ≤ b ∧ b ≤ 255) (hl : bs.length ≤ 1048576) (hv : (trPj p).rd w v) :
    Calls Try.prog 10 #[.slice A bs.length c, v, .int .i64 turn] w fun e w' => ∃ l, e = .returned (ltV l) ∧ DrLt p l ∧ Below w.heap.size w w' := by
  have HV := Lib.hid hv
  have HRU := Lib.hid (And.intro hr hu)
  have HMS := Lib.hid hms
  obtain ⟨A1, c1, A2, c2, A3, c3, A4, c4, rfl, _⟩ := rdProject_t hv
  have S0 := Lib.hid (((Sn.start w).box 28 [.int .i64 p.dl, .slice A1 p.acts.length c1, .slice A2 p.lks.length c2, .slice A3 p.ress.length c3, .slice A4 p.stk.length c4]).box 34 [.int .i64 0, .int .i64 0, .int .i64 0])
  simp only [World.size_alloc] at S0
  clear hr hu hv hms
  go_enter Try.func10, Try.ntmps10
  go_wp2_with fail
  generalize World.alloc (World.alloc w _) _ = W at S0 ⊢
  refine (new_any A c bs W (HRU.out.1.below S0.out.1 (Nat.le_refl _)) HRU.out.2 hl).mono ?_
  rintro e w1 ⟨rfl, hd, hb⟩
  have D1 := Lib.hid hd
  have S1 := Lib.hid (S0.out.go hb)
  obtain ⟨hh, hseed⟩ := hd.cur.seed
  have hf2 := hd.cur.fr.2
  have hlt := hd.cur.lt
  have K := Lib.hid (fun x => D1.out.step (D1.out.cur.setSeed x) (grown_set (World.grownBy.refl w1 (some W.heap.size)) ⟨W.heap.size, 2, none⟩ rfl (.int .i64 x)))
  obtain ⟨q0, q1, q2, q3, q4, qf⟩ := (S1.out.bk 1 rfl).c5
  have hl1 := (S0.out.bk 1 rfl).lt
  generalize W.heap.size = g at D1 K hseed hf2 hlt hl1 ⊢
  clear hd hb S1
  have hne : w.heap.size ≠ g := by omega
  go_wp2_with fail
  generalize hx : wrap64 (hh + turn) = x
  have K1 := Lib.hid (K.out x)
  clear hx K q0 q1 q2 q3 q4 qf hseed hf2 hlt hl1
  generalize World.setCell w1 _ _ = w2 at K1 ⊢
  refine (draw11_any p h6 HMS.out g A c bs W w2 K1.out _ (by exact S0.out.old HV.out)).mono ?_
  rintro e w3 ⟨l, rfl, hds, hd3, hg3⟩
  have S3 := Lib.hid (S0.out.go hd3.bel)
  have HDS := Lib.hid hds
  clear hd3 hg3 hds K1 S0 D1
  unfold ltV
  obtain ⟨e0, e1, e2, ef⟩ := (S3.out.bk 0 rfl).c3
  go_wp2
  have SZ := ((S3.out.boxSet 0 rfl 0 (.int .i64 l.ki)).boxSet 0 rfl 1 (.int .i64 l.ac)).boxSet 0 rfl 2 (.int .i64 l.va)
  refine bodyPost_ret (v := .agg #[.int .i64 l.ki, .int .i64 l.ac, .int .i64 l.va]) (by simp [results, Try.results10, go_sem, e0, e1, e2]) rfl (by first | exact ⟨l, rfl, HDS.out, SZ.1⟩ | exact ⟨_, rfl, HDS.out, SZ.1⟩)
end Go.Proofs.Ytilcfbffjjdgnaa
