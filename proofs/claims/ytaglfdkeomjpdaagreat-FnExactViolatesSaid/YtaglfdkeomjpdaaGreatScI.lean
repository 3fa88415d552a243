/- DERIVED. CONTRACTS of chapter 10: the mode and the end of an activity of a schedule, of the program and of the model. -/
import Derived.Test.YtaglfdkeomjpdaaGreatScM
import Derived.Test.YtaglfdkeomjpdaaGreatTSchedule
import Derived.Test.YtaglfdkeomjpdaaGreatTProject
import Derived.Test.YtaglfdkeomjpdaaGreatDats
import Derived.Test.YtaglfdkeomjpdaaGreatRegZ
namespace Go.Proofs.YtaglfdkeomjpdaaGreat
open Go.RowKit Go.Shelf
set_option linter.unusedVariables false

theorem field_mode0 (x y z : Value) (w : World) : (Instr.field 139 (.agg #[x, y, z]) 0).run Tryz.prog w = .ok x w := by kernel_rfl
theorem field_mode1 (x y z : Value) (w : World) : (Instr.field 139 (.agg #[x, y, z]) 1).run Tryz.prog w = .ok y w := by kernel_rfl
theorem field_mode2 (x y z : Value) (w : World) : (Instr.field 139 (.agg #[x, y, z]) 2).run Tryz.prog w = .ok z w := by kernel_rfl
set_option maxRecDepth 100000 in
set_option maxHeartbeats 8000000 in
theorem implMode_w (dl : Int) (n1 c1 n2 c2 n3 c3 n4 c4 : Nat) (A2 A3 A4 E1 : Option Addr) (ns f1 nt f2 nm cm b1 o1 b2 o2 b3 o3 a j : Nat) (du : Int) (M1 M2 : Option Addr) (k1 m1 k2 m2 : Nat) (w : World) (hb1 : b1 < w.heap.size) (hb2 : b2 < w.heap.size) (hb3 : b3 < w.heap.size)
    (z2 : w.cell? ⟨b1, o1 + a * 3 + 2, none⟩ = some (.slice (some ⟨b2, o2, none⟩) nm cm)) (z3 : w.cell? ⟨b3, o3 + a, none⟩ = some (.int .i64 (j : Int))) (y0 : w.cell? ⟨b2, o2 + j * 3, none⟩ = some (.int .i64 du)) (y1 : w.cell? ⟨b2, o2 + j * 3 + 1, none⟩ = some (.slice M1 k1 m1)) (y2 : w.cell? ⟨b2, o2 + j * 3 + 2, none⟩ = some (.slice M2 k2 m2)) (ha : (a : Int) < (n1 : Int)) (ha2 : (a : Int) < (nt : Int)) (hj : (j : Int) < (nm : Int)) :
    Calls Tryz.prog 150 #[.agg #[.int .i64 dl, .slice (some ⟨b1, o1, none⟩) n1 c1, .slice A2 n2 c2, .slice A3 n3 c3, .slice A4 n4 c4], .agg #[.slice E1 ns f1, .slice (some ⟨b3, o3, none⟩) nt f2], .int .i64 (a : Int)] w fun e w' => e = .returned (.agg #[.int .i64 du, .slice M1 k1 m1, .slice M2 k2 m2]) ∧ Below w.heap.size w w' := by
  have S0 := Lib.hid ((((Sn.start w).box 36 [.int .i64 dl, .slice (some ⟨b1, o1, none⟩) n1 c1, .slice A2 n2 c2, .slice A3 n3 c3, .slice A4 n4 c4]).box 46 [.slice E1 ns f1, .slice (some ⟨b3, o3, none⟩) nt f2]).box 139 [.int .i64 0, .slice none 0 0, .slice none 0 0])
  simp only [World.size_alloc] at S0
  have h0 : (0 : Int) ≤ (a : Int) := by omega
  have h1 : (0 : Int) ≤ (j : Int) := by omega
  go_enter Tryz.func150, Tryz.ntmps150
  go_wp2_with fail
  have X0 := (S0.out.1.cell (p := ⟨b1, o1 + a * 3 + 2, none⟩) hb1).trans z2
  have X1 := (S0.out.1.cell (p := ⟨b3, o3 + a, none⟩) hb3).trans z3
  have X2 := (S0.out.1.cell (p := ⟨b2, o2 + j * 3, none⟩) hb2).trans y0
  have X3 := (S0.out.1.cell (p := ⟨b2, o2 + j * 3 + 1, none⟩) hb2).trans y1
  have X4 := (S0.out.1.cell (p := ⟨b2, o2 + j * 3 + 2, none⟩) hb2).trans y2
  generalize World.alloc (World.alloc (World.alloc w _) _) _ = wv at S0 X0 X1 X2 X3 X4 ⊢
  have hsz := S0.out.1.size
  have hl0 := (S0.out.bk 0 rfl).lt
  have hl1 := (S0.out.bk 1 rfl).lt
  have hl2 := (S0.out.bk 2 rfl).lt
  obtain ⟨p0, p1, p2, p3, p4, pf⟩ := (S0.out.bk 2 rfl).c5
  obtain ⟨q0, q1, qf⟩ := (S0.out.bk 1 rfl).c2
  have fz := (S0.out.bk 0 rfl).c3.2.2.2
  clear z2 z3 y0 y1 y2
  have S1 := Lib.hid S0.out.drew1
  have B2 := Lib.hid (S1.out.bk 0 rfl)
  obtain ⟨e0, e1, e2, ef⟩ := B2.out.c3
  have CE := Lib.hid (fun (W : World) (h : Wr [w.heap.size + 1 + 1] wv.drew W) => show Hid (Wr [w.heap.size + 1 + 1] wv.drew W) ∧ W.cell? ⟨w.heap.size, 1, none⟩ = some (.slice (some ⟨b1, o1, none⟩) n1 c1) ∧ W.cell? ⟨b1, o1 + a * 3 + 2, none⟩ = some (.slice (some ⟨b2, o2, none⟩) nm cm) ∧ W.cell? ⟨w.heap.size + 1, 1, none⟩ = some (.slice (some ⟨b3, o3, none⟩) nt f2) ∧ W.cell? ⟨b3, o3 + a, none⟩ = some (.int .i64 (j : Int)) ∧ W.cell? ⟨b2, o2 + j * 3, none⟩ = some (.int .i64 du) ∧ W.cell? ⟨b2, o2 + j * 3 + 1, none⟩ = some (.slice M1 k1 m1) ∧ W.cell? ⟨b2, o2 + j * 3 + 2, none⟩ = some (.slice M2 k2 m2) from ⟨Lib.hid h, (wr_cell h (p := ⟨w.heap.size, 1, none⟩) hl2 (by simp only [List.mem_singleton]; omega)).trans (by exact by simpa using p1), (wr_cell h (p := ⟨b1, o1 + a * 3 + 2, none⟩) (by show b1 < _; simp; omega) (by simp only [List.mem_singleton]; omega)).trans (by exact by simpa using X0), (wr_cell h (p := ⟨w.heap.size + 1, 1, none⟩) hl1 (by simp only [List.mem_singleton]; omega)).trans (by exact by simpa using q1), (wr_cell h (p := ⟨b3, o3 + a, none⟩) (by show b3 < _; simp; omega) (by simp only [List.mem_singleton]; omega)).trans (by exact by simpa using X1), (wr_cell h (p := ⟨b2, o2 + j * 3, none⟩) (by show b2 < _; simp; omega) (by simp only [List.mem_singleton]; omega)).trans (by exact by simpa using X2), (wr_cell h (p := ⟨b2, o2 + j * 3 + 1, none⟩) (by show b2 < _; simp; omega) (by simp only [List.mem_singleton]; omega)).trans (by exact by simpa using X3), (wr_cell h (p := ⟨b2, o2 + j * 3 + 2, none⟩) (by show b2 < _; simp; omega) (by simp only [List.mem_singleton]; omega)).trans (by exact by simpa using X4)⟩)
  have INIT := Lib.hid (CE.out _ (Wr.refl _ _))
  have KW := Lib.hid (fun (W2 W : World) (hb : Wr [w.heap.size + 1 + 1] W W2) (h : Hid (Wr [w.heap.size + 1 + 1] wv.drew W) ∧ W.cell? ⟨w.heap.size, 1, none⟩ = some (.slice (some ⟨b1, o1, none⟩) n1 c1) ∧ W.cell? ⟨b1, o1 + a * 3 + 2, none⟩ = some (.slice (some ⟨b2, o2, none⟩) nm cm) ∧ W.cell? ⟨w.heap.size + 1, 1, none⟩ = some (.slice (some ⟨b3, o3, none⟩) nt f2) ∧ W.cell? ⟨b3, o3 + a, none⟩ = some (.int .i64 (j : Int)) ∧ W.cell? ⟨b2, o2 + j * 3, none⟩ = some (.int .i64 du) ∧ W.cell? ⟨b2, o2 + j * 3 + 1, none⟩ = some (.slice M1 k1 m1) ∧ W.cell? ⟨b2, o2 + j * 3 + 2, none⟩ = some (.slice M2 k2 m2)) => CE.out W2 (h.1.out.trans hb))
  clear X0 X1 X2 X3 X4 p0 p1 p2 p3 p4 pf q0 q1 qf
  refine wpAnyZ_start 13 (fun W => Hid (Wr [w.heap.size + 1 + 1] wv.drew W) ∧ W.cell? ⟨w.heap.size, 1, none⟩ = some (.slice (some ⟨b1, o1, none⟩) n1 c1) ∧ W.cell? ⟨b1, o1 + a * 3 + 2, none⟩ = some (.slice (some ⟨b2, o2, none⟩) nm cm) ∧ W.cell? ⟨w.heap.size + 1, 1, none⟩ = some (.slice (some ⟨b3, o3, none⟩) nt f2) ∧ W.cell? ⟨b3, o3 + a, none⟩ = some (.int .i64 (j : Int)) ∧ W.cell? ⟨b2, o2 + j * 3, none⟩ = some (.int .i64 du) ∧ W.cell? ⟨b2, o2 + j * 3 + 1, none⟩ = some (.slice M1 k1 m1) ∧ W.cell? ⟨b2, o2 + j * 3 + 2, none⟩ = some (.slice M2 k2 m2)) (by kernel_rfl) INIT.out (fun hHeld => ?_)
  clear CE KW INIT B2
  generalize wv.drew = wd at S1 hHeld e0 e1 e2 ef ⊢
  refine wpAnyZ_take (i := 0) (v := ?_) rfl (by kernel_rfl) (by kernel_rfl) (by kernel_rfl) (fun _ _ _ h => h) (Or.inl ⟨by rfl, ?_⟩) (by assumption) ?_
  rotate_left
  · (intro W hSw; (try dsimp only at hSw); go_simp <;> with_reducible rfl)
  (try simp only [Act.put])
  refine wpAnyZ_take (i := 1) (v := ?_) rfl (by kernel_rfl) (by kernel_rfl) (by kernel_rfl) (fun _ _ _ h => h) (Or.inl ⟨by rfl, ?_⟩) (by assumption) ?_
  rotate_left
  · (intro W hSw; (try dsimp only at hSw); go_simp <;> with_reducible rfl)
  (try simp only [Act.put])
  refine wpAnyZ_take (i := 2) (v := ?_) rfl (by kernel_rfl) (by kernel_rfl) (by kernel_rfl) (fun _ _ _ h => h) (Or.inl ⟨by rfl, ?_⟩) (by assumption) ?_
  rotate_left
  · (intro W hSw; (try dsimp only at hSw); go_simp <;> with_reducible rfl)
  (try simp only [Act.put])
  refine wpAnyZ_take (i := 3) (v := ?_) rfl (by kernel_rfl) (by kernel_rfl) (by kernel_rfl) (fun _ _ _ h => h) (Or.inl ⟨by rfl, ?_⟩) (by assumption) ?_
  rotate_left
  · (intro W hSw; (try dsimp only at hSw); go_simp <;> with_reducible rfl)
  (try simp only [Act.put])
  refine wpAnyZ_take (i := 4) (v := ?_) rfl (by kernel_rfl) (by kernel_rfl) (by kernel_rfl) (fun _ _ _ h => h) (Or.inl ⟨by rfl, ?_⟩) (by assumption) ?_
  rotate_left
  · (intro W hSw; (try dsimp only at hSw); go_simp <;> with_reducible rfl)
  (try simp only [Act.put])
  refine wpAnyZ_take (i := 5) (v := ?_) rfl (by kernel_rfl) (by kernel_rfl) (by kernel_rfl) (fun _ _ _ h => h) (Or.inl ⟨by rfl, ?_⟩) (by assumption) ?_
  rotate_left
  · (intro W hSw; (try dsimp only at hSw); go_simp <;> with_reducible rfl)
  (try simp only [Act.put])
  refine wpAnyZ_take (i := 6) (v := ?_) rfl (by kernel_rfl) (by kernel_rfl) (by kernel_rfl) (fun _ _ _ h => h) (Or.inl ⟨by rfl, ?_⟩) (by assumption) ?_
  rotate_left
  · (intro W hSw; (try dsimp only at hSw); go_simp <;> with_reducible rfl)
  (try simp only [Act.put])
  refine wpAnyZ_take (i := 7) (v := ?_) rfl (by kernel_rfl) (by kernel_rfl) (by kernel_rfl) (fun _ _ _ h => h) (Or.inl ⟨by rfl, ?_⟩) (by assumption) ?_
  rotate_left
  · (intro W hSw; (try dsimp only at hSw); go_simp <;> with_reducible rfl)
  (try simp only [Act.put])
  refine wpAnyZ_take (i := 8) (v := ?_) rfl (by kernel_rfl) (by kernel_rfl) (by kernel_rfl) (fun _ _ _ h => h) (Or.inl ⟨by rfl, ?_⟩) (by assumption) ?_
  rotate_left
  · (intro W hSw; (try dsimp only at hSw); go_simp <;> with_reducible rfl)
  (try simp only [Act.put])
  refine wpAnyZ_take (i := 9) (v := ?_) rfl (by kernel_rfl) (by kernel_rfl) (by kernel_rfl) (fun _ _ _ h => h) (Or.inl ⟨by rfl, ?_⟩) (by assumption) ?_
  rotate_left
  · (intro W hSw; (try dsimp only at hSw); go_simp <;> with_reducible rfl)
  (try simp only [Act.put])
  refine wpAnyZ_take (i := 10) (v := ?_) rfl (by kernel_rfl) (by kernel_rfl) (by kernel_rfl) (fun _ _ _ h => h) (Or.inl ⟨by rfl, ?_⟩) (by assumption) ?_
  rotate_left
  · (intro W hSw; (try dsimp only at hSw); go_simp <;> with_reducible rfl)
  (try simp only [Act.put])
  refine wpAnyZ_take (i := 11) (v := ?_) rfl (by kernel_rfl) (by kernel_rfl) (by kernel_rfl) (fun _ _ _ h => h) (Or.inl ⟨by rfl, ?_⟩) (by assumption) ?_
  rotate_left
  · (intro W hSw; (try dsimp only at hSw); go_simp <;> with_reducible rfl)
  (try simp only [Act.put])
  refine wpAnyZ_take (i := 12) (v := ?_) rfl (by kernel_rfl) (by kernel_rfl) (by kernel_rfl) (fun _ _ _ h => h) (Or.inl ⟨by rfl, ?_⟩) (by assumption) ?_
  rotate_left
  · (intro W hSw; (try dsimp only at hSw); go_simp <;> with_reducible rfl)
  (try simp only [Act.put])
  refine wpAnyZ_last (by kernel_rfl) (by kernel_rfl) rfl (fun K hK => ?_)
  go_simp
  refine hK.out _ _ ?_
  clear hK K
  have SZ := ((S1.out.boxSet 0 rfl 0 (.int .i64 du)).boxSet 0 rfl 1 (.slice M1 k1 m1)).boxSet 0 rfl 2 (.slice M2 k2 m2)
  (try simp only [Exit.then])
  (try go_wp2)
  (try simp only [Exit.then])
  refine bodyPost_ret (v := .agg #[.int .i64 du, .slice M1 k1 m1, .slice M2 k2 m2]) (by simp [results, Tryz.results150, go_sem, e0, e1, e2]) rfl ⟨rfl, SZ.1⟩
theorem implMode_at (p : Pj) (s : Sc) (a : Nat) (v u : Value) (w0 w : World) (hb0 : Below w0.heap.size w0 w) (hv : (trPj p).rd w0 v) (hs : (trSc s).rd w0 u) (hf : Form p s) (ha : a < p.acts.length) :
    Calls Tryz.prog 150 #[v, u, .int .i64 (a : Int)] w fun e w' => ∃ M1 m1 M2 m2, e = .returned (.agg #[.int .i64 (mdA p s a).du, .slice M1 (mdA p s a).us.length m1, .slice M2 (mdA p s a).co.length m2]) ∧ (trM (mdA p s a)).rd w0 (.agg #[.int .i64 (mdA p s a).du, .slice M1 (mdA p s a).us.length m1, .slice M2 (mdA p s a).co.length m2]) ∧ Below w.heap.size w w' := by
  obtain ⟨A1, c1, A2, c2, A3, c3, A4, c4, rfl, r1, r2, r3, r4⟩ := rdProject_t hv
  obtain ⟨hl1, B1, d1, he, g1⟩ := rdActivityS_t r1
  injection he with he _ he2
  subst he he2
  have HQ := Lib.hid hs
  obtain ⟨E1, f1, E2, f2, rfl, q1, q2⟩ := rdSchedule_t hs
  obtain ⟨ht1, B8, d8, he, x1⟩ := rdI (rd_flat q1)
  injection he with he _ he2
  subst he he2
  have X1 := Lib.hid x1
  obtain ⟨ht2, B9, d9, he, x2⟩ := rdI (rd_flat q2)
  injection he with he _ he2
  subst he he2
  have X2 := Lib.hid x2
  clear hs q1 q2 x1 x2
  have ha2 : a < s.mo.length := by rw [hf.h2]; exact ha
  obtain ⟨j, hj, hm, he⟩ := hf.mo a ha
  rw [he]
  obtain ⟨b1, o1, rfl, hb1, hc1⟩ := g1 a ha
  obtain ⟨M, cm, x0, x1, x2, rm⟩ := hc1 a ha
  obtain ⟨hlm, M', cm', he, g⟩ := rdModeS_t rm
  injection he with he _ he2
  subst he he2
  obtain ⟨b2, o2, rfl, hb2, hc2⟩ := g j hj
  obtain ⟨M1, m1, M2, m2, y0, y1, y2, r1, r2⟩ := hc2 j hj
  obtain ⟨b3, o3, rfl, hb3, hc3⟩ := X2.out a ha2
  have z3 := hc3 a ha2
  rw [← moA_at ha2, hm] at z3
  exact (implMode_w p.dl p.acts.length c1 p.lks.length c2 p.ress.length c3 p.stk.length c4 A2 A3 A4 E1 s.st.length f1 s.mo.length f2 p.acts[a].ms.length cm b1 o1 b2 o2 b3 o3 a j p.acts[a].ms[j].du M1 M2 p.acts[a].ms[j].us.length m1 p.acts[a].ms[j].co.length m2 w (Nat.lt_of_lt_of_le hb1 hb0.size) (Nat.lt_of_lt_of_le hb2 hb0.size) (Nat.lt_of_lt_of_le hb3 hb0.size) ((hb0.cell (p := ⟨b1, o1 + a * 3 + 2, none⟩) hb1).trans x2) ((hb0.cell (p := ⟨b3, o3 + a, none⟩) hb3).trans z3) ((hb0.cell (p := ⟨b2, o2 + j * 3, none⟩) hb2).trans y0) ((hb0.cell (p := ⟨b2, o2 + j * 3 + 1, none⟩) hb2).trans y1) ((hb0.cell (p := ⟨b2, o2 + j * 3 + 2, none⟩) hb2).trans y2) (by omega) (by omega) (by omega)).mono fun e w' h => ⟨M1, m1, M2, m2, h.1, mk_rdMode_t r1 r2, h.2⟩
theorem implMode_any (p : Pj) (s : Sc) (a : Nat) (v u : Value) (w : World) (hv : (trPj p).rd w v) (hs : (trSc s).rd w u) (hf : Form p s) (ha : a < p.acts.length) :
    Calls Tryz.prog 150 #[v, u, .int .i64 (a : Int)] w fun e w' => ∃ M1 m1 M2 m2, e = .returned (.agg #[.int .i64 (mdA p s a).du, .slice M1 (mdA p s a).us.length m1, .slice M2 (mdA p s a).co.length m2]) ∧ (trM (mdA p s a)).rd w (.agg #[.int .i64 (mdA p s a).du, .slice M1 (mdA p s a).us.length m1, .slice M2 (mdA p s a).co.length m2]) ∧ Below w.heap.size w w' := implMode_at p s a v u w w (Below.refl _ _) hv hs hf ha
set_option maxRecDepth 100000 in
set_option maxHeartbeats 8000000 in
theorem specMode_w (dl : Int) (n1 c1 n2 c2 n3 c3 n4 c4 : Nat) (A2 A3 A4 E1 : Option Addr) (ns f1 nt f2 nm cm b1 o1 b2 o2 b3 o3 a j : Nat) (du : Int) (M1 M2 : Option Addr) (k1 m1 k2 m2 : Nat) (w : World) (hb1 : b1 < w.heap.size) (hb2 : b2 < w.heap.size) (hb3 : b3 < w.heap.size)
    (z2 : w.cell? ⟨b1, o1 + a * 3 + 2, none⟩ = some (.slice (some ⟨b2, o2, none⟩) nm cm)) (z3 : w.cell? ⟨b3, o3 + a, none⟩ = some (.int .i64 (j : Int))) (y0 : w.cell? ⟨b2, o2 + j * 3, none⟩ = some (.int .i64 du)) (y1 : w.cell? ⟨b2, o2 + j * 3 + 1, none⟩ = some (.slice M1 k1 m1)) (y2 : w.cell? ⟨b2, o2 + j * 3 + 2, none⟩ = some (.slice M2 k2 m2)) (ha : (a : Int) < (n1 : Int)) (ha2 : (a : Int) < (nt : Int)) (hj : (j : Int) < (nm : Int)) :
    Calls Tryz.prog 104 #[.agg #[.int .i64 dl, .slice (some ⟨b1, o1, none⟩) n1 c1, .slice A2 n2 c2, .slice A3 n3 c3, .slice A4 n4 c4], .agg #[.slice E1 ns f1, .slice (some ⟨b3, o3, none⟩) nt f2], .int .i64 (a : Int)] w fun e w' => e = .returned (.agg #[.int .i64 du, .slice M1 k1 m1, .slice M2 k2 m2]) ∧ Below w.heap.size w w' := by
  have S0 := Lib.hid ((((Sn.start w).box 36 [.int .i64 dl, .slice (some ⟨b1, o1, none⟩) n1 c1, .slice A2 n2 c2, .slice A3 n3 c3, .slice A4 n4 c4]).box 46 [.slice E1 ns f1, .slice (some ⟨b3, o3, none⟩) nt f2]).box 139 [.int .i64 0, .slice none 0 0, .slice none 0 0])
  simp only [World.size_alloc] at S0
  have h0 : (0 : Int) ≤ (a : Int) := by omega
  have h1 : (0 : Int) ≤ (j : Int) := by omega
  go_enter Tryz.func104, Tryz.ntmps104
  go_wp2_with fail
  have X0 := (S0.out.1.cell (p := ⟨b1, o1 + a * 3 + 2, none⟩) hb1).trans z2
  have X1 := (S0.out.1.cell (p := ⟨b3, o3 + a, none⟩) hb3).trans z3
  have X2 := (S0.out.1.cell (p := ⟨b2, o2 + j * 3, none⟩) hb2).trans y0
  have X3 := (S0.out.1.cell (p := ⟨b2, o2 + j * 3 + 1, none⟩) hb2).trans y1
  have X4 := (S0.out.1.cell (p := ⟨b2, o2 + j * 3 + 2, none⟩) hb2).trans y2
  generalize World.alloc (World.alloc (World.alloc w _) _) _ = wv at S0 X0 X1 X2 X3 X4 ⊢
  have hsz := S0.out.1.size
  have hl0 := (S0.out.bk 0 rfl).lt
  have hl1 := (S0.out.bk 1 rfl).lt
  have hl2 := (S0.out.bk 2 rfl).lt
  obtain ⟨p0, p1, p2, p3, p4, pf⟩ := (S0.out.bk 2 rfl).c5
  obtain ⟨q0, q1, qf⟩ := (S0.out.bk 1 rfl).c2
  have fz := (S0.out.bk 0 rfl).c3.2.2.2
  clear z2 z3 y0 y1 y2
  have S1 := Lib.hid S0.out.drew1
  have B2 := Lib.hid (S1.out.bk 0 rfl)
  obtain ⟨e0, e1, e2, ef⟩ := B2.out.c3
  have CE := Lib.hid (fun (W : World) (h : Wr [w.heap.size + 1 + 1] wv.drew W) => show Hid (Wr [w.heap.size + 1 + 1] wv.drew W) ∧ W.cell? ⟨w.heap.size, 1, none⟩ = some (.slice (some ⟨b1, o1, none⟩) n1 c1) ∧ W.cell? ⟨b1, o1 + a * 3 + 2, none⟩ = some (.slice (some ⟨b2, o2, none⟩) nm cm) ∧ W.cell? ⟨w.heap.size + 1, 1, none⟩ = some (.slice (some ⟨b3, o3, none⟩) nt f2) ∧ W.cell? ⟨b3, o3 + a, none⟩ = some (.int .i64 (j : Int)) ∧ W.cell? ⟨b2, o2 + j * 3, none⟩ = some (.int .i64 du) ∧ W.cell? ⟨b2, o2 + j * 3 + 1, none⟩ = some (.slice M1 k1 m1) ∧ W.cell? ⟨b2, o2 + j * 3 + 2, none⟩ = some (.slice M2 k2 m2) from ⟨Lib.hid h, (wr_cell h (p := ⟨w.heap.size, 1, none⟩) hl2 (by simp only [List.mem_singleton]; omega)).trans (by exact by simpa using p1), (wr_cell h (p := ⟨b1, o1 + a * 3 + 2, none⟩) (by show b1 < _; simp; omega) (by simp only [List.mem_singleton]; omega)).trans (by exact by simpa using X0), (wr_cell h (p := ⟨w.heap.size + 1, 1, none⟩) hl1 (by simp only [List.mem_singleton]; omega)).trans (by exact by simpa using q1), (wr_cell h (p := ⟨b3, o3 + a, none⟩) (by show b3 < _; simp; omega) (by simp only [List.mem_singleton]; omega)).trans (by exact by simpa using X1), (wr_cell h (p := ⟨b2, o2 + j * 3, none⟩) (by show b2 < _; simp; omega) (by simp only [List.mem_singleton]; omega)).trans (by exact by simpa using X2), (wr_cell h (p := ⟨b2, o2 + j * 3 + 1, none⟩) (by show b2 < _; simp; omega) (by simp only [List.mem_singleton]; omega)).trans (by exact by simpa using X3), (wr_cell h (p := ⟨b2, o2 + j * 3 + 2, none⟩) (by show b2 < _; simp; omega) (by simp only [List.mem_singleton]; omega)).trans (by exact by simpa using X4)⟩)
  have INIT := Lib.hid (CE.out _ (Wr.refl _ _))
  have KW := Lib.hid (fun (W2 W : World) (hb : Wr [w.heap.size + 1 + 1] W W2) (h : Hid (Wr [w.heap.size + 1 + 1] wv.drew W) ∧ W.cell? ⟨w.heap.size, 1, none⟩ = some (.slice (some ⟨b1, o1, none⟩) n1 c1) ∧ W.cell? ⟨b1, o1 + a * 3 + 2, none⟩ = some (.slice (some ⟨b2, o2, none⟩) nm cm) ∧ W.cell? ⟨w.heap.size + 1, 1, none⟩ = some (.slice (some ⟨b3, o3, none⟩) nt f2) ∧ W.cell? ⟨b3, o3 + a, none⟩ = some (.int .i64 (j : Int)) ∧ W.cell? ⟨b2, o2 + j * 3, none⟩ = some (.int .i64 du) ∧ W.cell? ⟨b2, o2 + j * 3 + 1, none⟩ = some (.slice M1 k1 m1) ∧ W.cell? ⟨b2, o2 + j * 3 + 2, none⟩ = some (.slice M2 k2 m2)) => CE.out W2 (h.1.out.trans hb))
  clear X0 X1 X2 X3 X4 p0 p1 p2 p3 p4 pf q0 q1 qf
  refine wpAnyZ_start 13 (fun W => Hid (Wr [w.heap.size + 1 + 1] wv.drew W) ∧ W.cell? ⟨w.heap.size, 1, none⟩ = some (.slice (some ⟨b1, o1, none⟩) n1 c1) ∧ W.cell? ⟨b1, o1 + a * 3 + 2, none⟩ = some (.slice (some ⟨b2, o2, none⟩) nm cm) ∧ W.cell? ⟨w.heap.size + 1, 1, none⟩ = some (.slice (some ⟨b3, o3, none⟩) nt f2) ∧ W.cell? ⟨b3, o3 + a, none⟩ = some (.int .i64 (j : Int)) ∧ W.cell? ⟨b2, o2 + j * 3, none⟩ = some (.int .i64 du) ∧ W.cell? ⟨b2, o2 + j * 3 + 1, none⟩ = some (.slice M1 k1 m1) ∧ W.cell? ⟨b2, o2 + j * 3 + 2, none⟩ = some (.slice M2 k2 m2)) (by kernel_rfl) INIT.out (fun hHeld => ?_)
  clear CE KW INIT B2
  generalize wv.drew = wd at S1 hHeld e0 e1 e2 ef ⊢
  refine wpAnyZ_take (i := 0) (v := ?_) rfl (by kernel_rfl) (by kernel_rfl) (by kernel_rfl) (fun _ _ _ h => h) (Or.inl ⟨by rfl, ?_⟩) (by assumption) ?_
  rotate_left
  · (intro W hSw; (try dsimp only at hSw); go_simp <;> with_reducible rfl)
  (try simp only [Act.put])
  refine wpAnyZ_take (i := 1) (v := ?_) rfl (by kernel_rfl) (by kernel_rfl) (by kernel_rfl) (fun _ _ _ h => h) (Or.inl ⟨by rfl, ?_⟩) (by assumption) ?_
  rotate_left
  · (intro W hSw; (try dsimp only at hSw); go_simp <;> with_reducible rfl)
  (try simp only [Act.put])
  refine wpAnyZ_take (i := 2) (v := ?_) rfl (by kernel_rfl) (by kernel_rfl) (by kernel_rfl) (fun _ _ _ h => h) (Or.inl ⟨by rfl, ?_⟩) (by assumption) ?_
  rotate_left
  · (intro W hSw; (try dsimp only at hSw); go_simp <;> with_reducible rfl)
  (try simp only [Act.put])
  refine wpAnyZ_take (i := 3) (v := ?_) rfl (by kernel_rfl) (by kernel_rfl) (by kernel_rfl) (fun _ _ _ h => h) (Or.inl ⟨by rfl, ?_⟩) (by assumption) ?_
  rotate_left
  · (intro W hSw; (try dsimp only at hSw); go_simp <;> with_reducible rfl)
  (try simp only [Act.put])
  refine wpAnyZ_take (i := 4) (v := ?_) rfl (by kernel_rfl) (by kernel_rfl) (by kernel_rfl) (fun _ _ _ h => h) (Or.inl ⟨by rfl, ?_⟩) (by assumption) ?_
  rotate_left
  · (intro W hSw; (try dsimp only at hSw); go_simp <;> with_reducible rfl)
  (try simp only [Act.put])
  refine wpAnyZ_take (i := 5) (v := ?_) rfl (by kernel_rfl) (by kernel_rfl) (by kernel_rfl) (fun _ _ _ h => h) (Or.inl ⟨by rfl, ?_⟩) (by assumption) ?_
  rotate_left
  · (intro W hSw; (try dsimp only at hSw); go_simp <;> with_reducible rfl)
  (try simp only [Act.put])
  refine wpAnyZ_take (i := 6) (v := ?_) rfl (by kernel_rfl) (by kernel_rfl) (by kernel_rfl) (fun _ _ _ h => h) (Or.inl ⟨by rfl, ?_⟩) (by assumption) ?_
  rotate_left
  · (intro W hSw; (try dsimp only at hSw); go_simp <;> with_reducible rfl)
  (try simp only [Act.put])
  refine wpAnyZ_take (i := 7) (v := ?_) rfl (by kernel_rfl) (by kernel_rfl) (by kernel_rfl) (fun _ _ _ h => h) (Or.inl ⟨by rfl, ?_⟩) (by assumption) ?_
  rotate_left
  · (intro W hSw; (try dsimp only at hSw); go_simp <;> with_reducible rfl)
  (try simp only [Act.put])
  refine wpAnyZ_take (i := 8) (v := ?_) rfl (by kernel_rfl) (by kernel_rfl) (by kernel_rfl) (fun _ _ _ h => h) (Or.inl ⟨by rfl, ?_⟩) (by assumption) ?_
  rotate_left
  · (intro W hSw; (try dsimp only at hSw); go_simp <;> with_reducible rfl)
  (try simp only [Act.put])
  refine wpAnyZ_take (i := 9) (v := ?_) rfl (by kernel_rfl) (by kernel_rfl) (by kernel_rfl) (fun _ _ _ h => h) (Or.inl ⟨by rfl, ?_⟩) (by assumption) ?_
  rotate_left
  · (intro W hSw; (try dsimp only at hSw); go_simp <;> with_reducible rfl)
  (try simp only [Act.put])
  refine wpAnyZ_take (i := 10) (v := ?_) rfl (by kernel_rfl) (by kernel_rfl) (by kernel_rfl) (fun _ _ _ h => h) (Or.inl ⟨by rfl, ?_⟩) (by assumption) ?_
  rotate_left
  · (intro W hSw; (try dsimp only at hSw); go_simp <;> with_reducible rfl)
  (try simp only [Act.put])
  refine wpAnyZ_take (i := 11) (v := ?_) rfl (by kernel_rfl) (by kernel_rfl) (by kernel_rfl) (fun _ _ _ h => h) (Or.inl ⟨by rfl, ?_⟩) (by assumption) ?_
  rotate_left
  · (intro W hSw; (try dsimp only at hSw); go_simp <;> with_reducible rfl)
  (try simp only [Act.put])
  refine wpAnyZ_take (i := 12) (v := ?_) rfl (by kernel_rfl) (by kernel_rfl) (by kernel_rfl) (fun _ _ _ h => h) (Or.inl ⟨by rfl, ?_⟩) (by assumption) ?_
  rotate_left
  · (intro W hSw; (try dsimp only at hSw); go_simp <;> with_reducible rfl)
  (try simp only [Act.put])
  refine wpAnyZ_last (by kernel_rfl) (by kernel_rfl) rfl (fun K hK => ?_)
  go_simp
  refine hK.out _ _ ?_
  clear hK K
  have SZ := ((S1.out.boxSet 0 rfl 0 (.int .i64 du)).boxSet 0 rfl 1 (.slice M1 k1 m1)).boxSet 0 rfl 2 (.slice M2 k2 m2)
  (try simp only [Exit.then])
  (try go_wp2)
  (try simp only [Exit.then])
  refine bodyPost_ret (v := .agg #[.int .i64 du, .slice M1 k1 m1, .slice M2 k2 m2]) (by simp [results, Tryz.results104, go_sem, e0, e1, e2]) rfl ⟨rfl, SZ.1⟩
theorem specMode_at (p : Pj) (s : Sc) (a : Nat) (v u : Value) (w0 w : World) (hb0 : Below w0.heap.size w0 w) (hv : (trPj p).rd w0 v) (hs : (trSc s).rd w0 u) (hf : Form p s) (ha : a < p.acts.length) :
    Calls Tryz.prog 104 #[v, u, .int .i64 (a : Int)] w fun e w' => ∃ M1 m1 M2 m2, e = .returned (.agg #[.int .i64 (mdA p s a).du, .slice M1 (mdA p s a).us.length m1, .slice M2 (mdA p s a).co.length m2]) ∧ (trM (mdA p s a)).rd w0 (.agg #[.int .i64 (mdA p s a).du, .slice M1 (mdA p s a).us.length m1, .slice M2 (mdA p s a).co.length m2]) ∧ Below w.heap.size w w' := by
  obtain ⟨A1, c1, A2, c2, A3, c3, A4, c4, rfl, r1, r2, r3, r4⟩ := rdProject_t hv
  obtain ⟨hl1, B1, d1, he, g1⟩ := rdActivityS_t r1
  injection he with he _ he2
  subst he he2
  have HQ := Lib.hid hs
  obtain ⟨E1, f1, E2, f2, rfl, q1, q2⟩ := rdSchedule_t hs
  obtain ⟨ht1, B8, d8, he, x1⟩ := rdI (rd_flat q1)
  injection he with he _ he2
  subst he he2
  have X1 := Lib.hid x1
  obtain ⟨ht2, B9, d9, he, x2⟩ := rdI (rd_flat q2)
  injection he with he _ he2
  subst he he2
  have X2 := Lib.hid x2
  clear hs q1 q2 x1 x2
  have ha2 : a < s.mo.length := by rw [hf.h2]; exact ha
  obtain ⟨j, hj, hm, he⟩ := hf.mo a ha
  rw [he]
  obtain ⟨b1, o1, rfl, hb1, hc1⟩ := g1 a ha
  obtain ⟨M, cm, x0, x1, x2, rm⟩ := hc1 a ha
  obtain ⟨hlm, M', cm', he, g⟩ := rdModeS_t rm
  injection he with he _ he2
  subst he he2
  obtain ⟨b2, o2, rfl, hb2, hc2⟩ := g j hj
  obtain ⟨M1, m1, M2, m2, y0, y1, y2, r1, r2⟩ := hc2 j hj
  obtain ⟨b3, o3, rfl, hb3, hc3⟩ := X2.out a ha2
  have z3 := hc3 a ha2
  rw [← moA_at ha2, hm] at z3
  exact (specMode_w p.dl p.acts.length c1 p.lks.length c2 p.ress.length c3 p.stk.length c4 A2 A3 A4 E1 s.st.length f1 s.mo.length f2 p.acts[a].ms.length cm b1 o1 b2 o2 b3 o3 a j p.acts[a].ms[j].du M1 M2 p.acts[a].ms[j].us.length m1 p.acts[a].ms[j].co.length m2 w (Nat.lt_of_lt_of_le hb1 hb0.size) (Nat.lt_of_lt_of_le hb2 hb0.size) (Nat.lt_of_lt_of_le hb3 hb0.size) ((hb0.cell (p := ⟨b1, o1 + a * 3 + 2, none⟩) hb1).trans x2) ((hb0.cell (p := ⟨b3, o3 + a, none⟩) hb3).trans z3) ((hb0.cell (p := ⟨b2, o2 + j * 3, none⟩) hb2).trans y0) ((hb0.cell (p := ⟨b2, o2 + j * 3 + 1, none⟩) hb2).trans y1) ((hb0.cell (p := ⟨b2, o2 + j * 3 + 2, none⟩) hb2).trans y2) (by omega) (by omega) (by omega)).mono fun e w' h => ⟨M1, m1, M2, m2, h.1, mk_rdMode_t r1 r2, h.2⟩
theorem specMode_any (p : Pj) (s : Sc) (a : Nat) (v u : Value) (w : World) (hv : (trPj p).rd w v) (hs : (trSc s).rd w u) (hf : Form p s) (ha : a < p.acts.length) :
    Calls Tryz.prog 104 #[v, u, .int .i64 (a : Int)] w fun e w' => ∃ M1 m1 M2 m2, e = .returned (.agg #[.int .i64 (mdA p s a).du, .slice M1 (mdA p s a).us.length m1, .slice M2 (mdA p s a).co.length m2]) ∧ (trM (mdA p s a)).rd w (.agg #[.int .i64 (mdA p s a).du, .slice M1 (mdA p s a).us.length m1, .slice M2 (mdA p s a).co.length m2]) ∧ Below w.heap.size w w' := specMode_at p s a v u w w (Below.refl _ _) hv hs hf ha

set_option maxRecDepth 100000 in
set_option maxHeartbeats 8000000 in
theorem implEnd_any (p : Pj) (s : Sc) (a : Nat) (v u : Value) (w : World) (hv : (trPj p).rd w v) (hs : (trSc s).rd w u) (hf : Form p s) (ha : a < p.acts.length) :
    Calls Tryz.prog 149 #[v, u, .int .i64 (a : Int)] w fun e w' => e = .returned (.int .i64 (endA p s a)) ∧ Below w.heap.size w w' := by
  have HV := Lib.hid hv
  obtain ⟨A1, c1, A2, c2, A3, c3, A4, c4, rfl, _⟩ := rdProject_t hv
  have HQ := Lib.hid hs
  obtain ⟨E1, f1, E2, f2, rfl, q1, q2⟩ := rdSchedule_t hs
  obtain ⟨ht1, B8, d8, he, x1⟩ := rdI (rd_flat q1)
  injection he with he _ he2
  subst he he2
  have X1 := Lib.hid x1
  obtain ⟨ht2, B9, d9, he, x2⟩ := rdI (rd_flat q2)
  injection he with he _ he2
  subst he he2
  have X2 := Lib.hid x2
  clear hs q1 q2 x1 x2
  have ha2 : a < s.st.length := by rw [hf.h1]; exact ha
  obtain ⟨b3, o3, rfl, hb3, hc3⟩ := X1.out a ha2
  have z3 := hc3 a ha2
  rw [← stA_at ha2] at z3
  have HF := Lib.hid hf
  have HE := Lib.hid (show endA p s a = stA s a + (mdA p s a).du from rfl)
  have hdu := hf.du ha
  have hst := hf.st a ha
  generalize endA p s a = en at HE ⊢
  generalize stA s a = st at z3 hst HE
  have S0 := Lib.hid (((Sn.start w).box 36 [.int .i64 p.dl, .slice A1 p.acts.length c1, .slice A2 p.lks.length c2, .slice A3 p.ress.length c3, .slice A4 p.stk.length c4]).box 46 [.slice (some ⟨b3, o3, none⟩) s.st.length f1, .slice E2 s.mo.length f2])
  simp only [World.size_alloc] at S0
  have h0 : (0 : Int) ≤ (a : Int) := by omega
  have h1 : (a : Int) < (s.st.length : Int) := by omega
  clear hv hc3 hf
  go_enter Tryz.func149, Tryz.ntmps149
  go_wp2_with fail
  have X0 := (S0.out.1.cell (p := ⟨b3, o3 + a, none⟩) hb3).trans z3
  generalize World.alloc (World.alloc w _) _ = wv at S0 X0 ⊢
  have hsz := S0.out.1.size
  have hl0 := (S0.out.bk 0 rfl).lt
  have hl1 := (S0.out.bk 1 rfl).lt
  obtain ⟨p0, p1, p2, p3, p4, pf⟩ := (S0.out.bk 1 rfl).c5
  obtain ⟨q0, q1, qf⟩ := (S0.out.bk 0 rfl).c2
  clear z3 X1 X2
  have S1 := Lib.hid S0.out.drew1
  have hfd := field_mode0
  have CE := Lib.hid (fun (W : World) (h : Wr [] wv.drew W) => show Hid (Wr [] wv.drew W) ∧ W.cell? ⟨w.heap.size, 0, none⟩ = some (.int .i64 p.dl) ∧ W.cell? ⟨w.heap.size, 1, none⟩ = some (.slice A1 p.acts.length c1) ∧ W.cell? ⟨w.heap.size, 2, none⟩ = some (.slice A2 p.lks.length c2) ∧ W.cell? ⟨w.heap.size, 3, none⟩ = some (.slice A3 p.ress.length c3) ∧ W.cell? ⟨w.heap.size, 4, none⟩ = some (.slice A4 p.stk.length c4) ∧ W.cell? ⟨w.heap.size + 1, 0, none⟩ = some (.slice (some ⟨b3, o3, none⟩) s.st.length f1) ∧ W.cell? ⟨w.heap.size + 1, 1, none⟩ = some (.slice E2 s.mo.length f2) ∧ W.cell? ⟨b3, o3 + a, none⟩ = some (.int .i64 st) from ⟨Lib.hid h, (wr_cell h (p := ⟨w.heap.size, 0, none⟩) hl1 (by simp)).trans (by exact by simpa using p0), (wr_cell h (p := ⟨w.heap.size, 1, none⟩) hl1 (by simp)).trans (by exact by simpa using p1), (wr_cell h (p := ⟨w.heap.size, 2, none⟩) hl1 (by simp)).trans (by exact by simpa using p2), (wr_cell h (p := ⟨w.heap.size, 3, none⟩) hl1 (by simp)).trans (by exact by simpa using p3), (wr_cell h (p := ⟨w.heap.size, 4, none⟩) hl1 (by simp)).trans (by exact by simpa using p4), (wr_cell h (p := ⟨w.heap.size + 1, 0, none⟩) hl0 (by simp)).trans (by exact by simpa using q0), (wr_cell h (p := ⟨w.heap.size + 1, 1, none⟩) hl0 (by simp)).trans (by exact by simpa using q1), (wr_cell h (p := ⟨b3, o3 + a, none⟩) (by show b3 < _; simp; omega) (by simp)).trans (by exact by simpa using X0)⟩)
  have INIT := Lib.hid (CE.out _ (Wr.refl _ _))
  have KW := Lib.hid (fun (W2 W : World) (hb : Wr [] W W2) (h : Hid (Wr [] wv.drew W) ∧ W.cell? ⟨w.heap.size, 0, none⟩ = some (.int .i64 p.dl) ∧ W.cell? ⟨w.heap.size, 1, none⟩ = some (.slice A1 p.acts.length c1) ∧ W.cell? ⟨w.heap.size, 2, none⟩ = some (.slice A2 p.lks.length c2) ∧ W.cell? ⟨w.heap.size, 3, none⟩ = some (.slice A3 p.ress.length c3) ∧ W.cell? ⟨w.heap.size, 4, none⟩ = some (.slice A4 p.stk.length c4) ∧ W.cell? ⟨w.heap.size + 1, 0, none⟩ = some (.slice (some ⟨b3, o3, none⟩) s.st.length f1) ∧ W.cell? ⟨w.heap.size + 1, 1, none⟩ = some (.slice E2 s.mo.length f2) ∧ W.cell? ⟨b3, o3 + a, none⟩ = some (.int .i64 st)) => CE.out W2 (h.1.out.trans hb))
  clear X0 p0 p1 p2 p3 p4 pf q0 q1 qf
  go_region_held3 (fun W => Hid (Wr [] wv.drew W) ∧ W.cell? ⟨w.heap.size, 0, none⟩ = some (.int .i64 p.dl) ∧ W.cell? ⟨w.heap.size, 1, none⟩ = some (.slice A1 p.acts.length c1) ∧ W.cell? ⟨w.heap.size, 2, none⟩ = some (.slice A2 p.lks.length c2) ∧ W.cell? ⟨w.heap.size, 3, none⟩ = some (.slice A3 p.ress.length c3) ∧ W.cell? ⟨w.heap.size, 4, none⟩ = some (.slice A4 p.stk.length c4) ∧ W.cell? ⟨w.heap.size + 1, 0, none⟩ = some (.slice (some ⟨b3, o3, none⟩) s.st.length f1) ∧ W.cell? ⟨w.heap.size + 1, 1, none⟩ = some (.slice E2 s.mo.length f2) ∧ W.cell? ⟨b3, o3 + a, none⟩ = some (.int .i64 st)) (first | exact INIT.out | exact KW.out _ _ (by assumption) (by assumption) | exact KW.out _ _ (Wr.of_below (by assumption) (Nat.le_refl _)) (by assumption))
    ((go_at_call 150; refine (implMode_any p s a _ _ _ (by exact S1.out.old HV.out) (by exact S1.out.old HQ.out) HF.out ha).mono ?_; rintro e w5 ⟨M1, m1, M2, m2, rfl, _, b⟩; have S2 := Lib.hid (S1.out.go b)))
  rename_i hHeld
  clear hHeld CE INIT KW S1 b
  have hw : IntKind.i64.wrap (st + (mdA p s a).du) = en := by rw [HE.out, IntKind.wrap_i64]; omega
  go_wp2
  go_ret
  exact ⟨ret_numZ (by first | exact hw | rfl), S2.out.1⟩
set_option maxRecDepth 100000 in
set_option maxHeartbeats 8000000 in
theorem specEnd_any (p : Pj) (s : Sc) (a : Nat) (v u : Value) (w : World) (hv : (trPj p).rd w v) (hs : (trSc s).rd w u) (hf : Form p s) (ha : a < p.acts.length) :
    Calls Tryz.prog 68 #[v, u, .int .i64 (a : Int)] w fun e w' => e = .returned (.int .i64 (endA p s a)) ∧ Below w.heap.size w w' := by
  have HV := Lib.hid hv
  obtain ⟨A1, c1, A2, c2, A3, c3, A4, c4, rfl, _⟩ := rdProject_t hv
  have HQ := Lib.hid hs
  obtain ⟨E1, f1, E2, f2, rfl, q1, q2⟩ := rdSchedule_t hs
  obtain ⟨ht1, B8, d8, he, x1⟩ := rdI (rd_flat q1)
  injection he with he _ he2
  subst he he2
  have X1 := Lib.hid x1
  obtain ⟨ht2, B9, d9, he, x2⟩ := rdI (rd_flat q2)
  injection he with he _ he2
  subst he he2
  have X2 := Lib.hid x2
  clear hs q1 q2 x1 x2
  have ha2 : a < s.st.length := by rw [hf.h1]; exact ha
  obtain ⟨b3, o3, rfl, hb3, hc3⟩ := X1.out a ha2
  have z3 := hc3 a ha2
  rw [← stA_at ha2] at z3
  have HF := Lib.hid hf
  have HE := Lib.hid (show endA p s a = stA s a + (mdA p s a).du from rfl)
  have hdu := hf.du ha
  have hst := hf.st a ha
  generalize endA p s a = en at HE ⊢
  generalize stA s a = st at z3 hst HE
  have S0 := Lib.hid (((Sn.start w).box 36 [.int .i64 p.dl, .slice A1 p.acts.length c1, .slice A2 p.lks.length c2, .slice A3 p.ress.length c3, .slice A4 p.stk.length c4]).box 46 [.slice (some ⟨b3, o3, none⟩) s.st.length f1, .slice E2 s.mo.length f2])
  simp only [World.size_alloc] at S0
  have h0 : (0 : Int) ≤ (a : Int) := by omega
  have h1 : (a : Int) < (s.st.length : Int) := by omega
  clear hv hc3 hf
  go_enter Tryz.func68, Tryz.ntmps68
  go_wp2_with fail
  have X0 := (S0.out.1.cell (p := ⟨b3, o3 + a, none⟩) hb3).trans z3
  generalize World.alloc (World.alloc w _) _ = wv at S0 X0 ⊢
  have hsz := S0.out.1.size
  have hl0 := (S0.out.bk 0 rfl).lt
  have hl1 := (S0.out.bk 1 rfl).lt
  obtain ⟨p0, p1, p2, p3, p4, pf⟩ := (S0.out.bk 1 rfl).c5
  obtain ⟨q0, q1, qf⟩ := (S0.out.bk 0 rfl).c2
  clear z3 X1 X2
  have S1 := Lib.hid S0.out.drew1
  have hfd := field_mode0
  have CE := Lib.hid (fun (W : World) (h : Wr [] wv.drew W) => show Hid (Wr [] wv.drew W) ∧ W.cell? ⟨w.heap.size, 0, none⟩ = some (.int .i64 p.dl) ∧ W.cell? ⟨w.heap.size, 1, none⟩ = some (.slice A1 p.acts.length c1) ∧ W.cell? ⟨w.heap.size, 2, none⟩ = some (.slice A2 p.lks.length c2) ∧ W.cell? ⟨w.heap.size, 3, none⟩ = some (.slice A3 p.ress.length c3) ∧ W.cell? ⟨w.heap.size, 4, none⟩ = some (.slice A4 p.stk.length c4) ∧ W.cell? ⟨w.heap.size + 1, 0, none⟩ = some (.slice (some ⟨b3, o3, none⟩) s.st.length f1) ∧ W.cell? ⟨w.heap.size + 1, 1, none⟩ = some (.slice E2 s.mo.length f2) ∧ W.cell? ⟨b3, o3 + a, none⟩ = some (.int .i64 st) from ⟨Lib.hid h, (wr_cell h (p := ⟨w.heap.size, 0, none⟩) hl1 (by simp)).trans (by exact by simpa using p0), (wr_cell h (p := ⟨w.heap.size, 1, none⟩) hl1 (by simp)).trans (by exact by simpa using p1), (wr_cell h (p := ⟨w.heap.size, 2, none⟩) hl1 (by simp)).trans (by exact by simpa using p2), (wr_cell h (p := ⟨w.heap.size, 3, none⟩) hl1 (by simp)).trans (by exact by simpa using p3), (wr_cell h (p := ⟨w.heap.size, 4, none⟩) hl1 (by simp)).trans (by exact by simpa using p4), (wr_cell h (p := ⟨w.heap.size + 1, 0, none⟩) hl0 (by simp)).trans (by exact by simpa using q0), (wr_cell h (p := ⟨w.heap.size + 1, 1, none⟩) hl0 (by simp)).trans (by exact by simpa using q1), (wr_cell h (p := ⟨b3, o3 + a, none⟩) (by show b3 < _; simp; omega) (by simp)).trans (by exact by simpa using X0)⟩)
  have INIT := Lib.hid (CE.out _ (Wr.refl _ _))
  have KW := Lib.hid (fun (W2 W : World) (hb : Wr [] W W2) (h : Hid (Wr [] wv.drew W) ∧ W.cell? ⟨w.heap.size, 0, none⟩ = some (.int .i64 p.dl) ∧ W.cell? ⟨w.heap.size, 1, none⟩ = some (.slice A1 p.acts.length c1) ∧ W.cell? ⟨w.heap.size, 2, none⟩ = some (.slice A2 p.lks.length c2) ∧ W.cell? ⟨w.heap.size, 3, none⟩ = some (.slice A3 p.ress.length c3) ∧ W.cell? ⟨w.heap.size, 4, none⟩ = some (.slice A4 p.stk.length c4) ∧ W.cell? ⟨w.heap.size + 1, 0, none⟩ = some (.slice (some ⟨b3, o3, none⟩) s.st.length f1) ∧ W.cell? ⟨w.heap.size + 1, 1, none⟩ = some (.slice E2 s.mo.length f2) ∧ W.cell? ⟨b3, o3 + a, none⟩ = some (.int .i64 st)) => CE.out W2 (h.1.out.trans hb))
  clear X0 p0 p1 p2 p3 p4 pf q0 q1 qf
  go_region_held3 (fun W => Hid (Wr [] wv.drew W) ∧ W.cell? ⟨w.heap.size, 0, none⟩ = some (.int .i64 p.dl) ∧ W.cell? ⟨w.heap.size, 1, none⟩ = some (.slice A1 p.acts.length c1) ∧ W.cell? ⟨w.heap.size, 2, none⟩ = some (.slice A2 p.lks.length c2) ∧ W.cell? ⟨w.heap.size, 3, none⟩ = some (.slice A3 p.ress.length c3) ∧ W.cell? ⟨w.heap.size, 4, none⟩ = some (.slice A4 p.stk.length c4) ∧ W.cell? ⟨w.heap.size + 1, 0, none⟩ = some (.slice (some ⟨b3, o3, none⟩) s.st.length f1) ∧ W.cell? ⟨w.heap.size + 1, 1, none⟩ = some (.slice E2 s.mo.length f2) ∧ W.cell? ⟨b3, o3 + a, none⟩ = some (.int .i64 st)) (first | exact INIT.out | exact KW.out _ _ (by assumption) (by assumption) | exact KW.out _ _ (Wr.of_below (by assumption) (Nat.le_refl _)) (by assumption))
    ((go_at_call 104; refine (specMode_any p s a _ _ _ (by exact S1.out.old HV.out) (by exact S1.out.old HQ.out) HF.out ha).mono ?_; rintro e w5 ⟨M1, m1, M2, m2, rfl, _, b⟩; have S2 := Lib.hid (S1.out.go b)))
  rename_i hHeld
  clear hHeld CE INIT KW S1 b
  have hw : IntKind.i64.wrap (st + (mdA p s a).du) = en := by rw [HE.out, IntKind.wrap_i64]; omega
  go_wp2
  go_ret
  exact ⟨ret_numZ (by first | exact hw | rfl), S2.out.1⟩
end Go.Proofs.YtaglfdkeomjpdaaGreat
