/- DERIVED. CONTRACTS of chapter 10: ConsumptionOf of the program and of the model. -/
import Derived.Test.YtaglfdkeomjpdabScM
import Derived.Test.YtaglfdkeomjpdabTSchedule
import Derived.Test.YtaglfdkeomjpdabTPj
import Derived.Test.YtaglfdkeomjpdabDats
import Derived.Test.YtaglfdkeomjpdabRegZ
import Derived.Test.YtaglfdkeomjpdabPrC
import Derived.Test.YtaglfdkeomjpdabPrD
import Derived.Deep.QuietTactic

section
namespace Go.Proofs.Ytaglfdkeomjpdab
open Go.RowKit Go.Shelf
set_option linter.unusedVariables false

theorem field_mode0 (x y z : Value) (w : World) : (Instr.field 160 (.agg #[x, y, z]) 0).run Try.prog w = .ok x w := by kernel_rfl
theorem field_mode1 (x y z : Value) (w : World) : (Instr.field 160 (.agg #[x, y, z]) 1).run Try.prog w = .ok y w := by kernel_rfl
theorem field_mode2 (x y z : Value) (w : World) : (Instr.field 160 (.agg #[x, y, z]) 2).run Try.prog w = .ok z w := by kernel_rfl
set_option maxRecDepth 100000 in
set_option maxHeartbeats 8000000 in
theorem implMode_w (dl : Int) (n1 c1 n2 c2 n3 c3 n4 c4 : Nat) (A2 A3 A4 E1 : Option Addr) (ns f1 nt f2 nm cm b1 o1 b2 o2 b3 o3 a j : Nat) (du : Int) (M1 M2 : Option Addr) (k1 m1 k2 m2 : Nat) (w : World) (hb1 : b1 < w.heap.size) (hb2 : b2 < w.heap.size) (hb3 : b3 < w.heap.size)
    (z2 : w.cell? ⟨b1, o1 + a * 3 + 2, none⟩ = some (.slice (some ⟨b2, o2, none⟩) nm cm)) (z3 : w.cell? ⟨b3, o3 + a, none⟩ = some (.int .i64 (j : Int))) (y0 : w.cell? ⟨b2, o2 + j * 3, none⟩ = some (.int .i64 du)) (y1 : w.cell? ⟨b2, o2 + j * 3 + 1, none⟩ = some (.slice M1 k1 m1)) (y2 : w.cell? ⟨b2, o2 + j * 3 + 2, none⟩ = some (.slice M2 k2 m2)) (ha : (a : Int) < (n1 : Int)) (ha2 : (a : Int) < (nt : Int)) (hj : (j : Int) < (nm : Int)) :
    Calls Try.prog 87 #[.agg #[.int .i64 dl, .slice (some ⟨b1, o1, none⟩) n1 c1, .slice A2 n2 c2, .slice A3 n3 c3, .slice A4 n4 c4], .agg #[.slice E1 ns f1, .slice (some ⟨b3, o3, none⟩) nt f2], .int .i64 (a : Int)] w fun e w' => e = .returned (.agg #[.int .i64 du, .slice M1 k1 m1, .slice M2 k2 m2]) ∧ Below w.heap.size w w' := by
  have S0 := Lib.hid ((((Sn.start w).box 34 [.int .i64 dl, .slice (some ⟨b1, o1, none⟩) n1 c1, .slice A2 n2 c2, .slice A3 n3 c3, .slice A4 n4 c4]).box 41 [.slice E1 ns f1, .slice (some ⟨b3, o3, none⟩) nt f2]).box 160 [.int .i64 0, .slice none 0 0, .slice none 0 0])
  simp only [World.size_alloc] at S0
  have h0 : (0 : Int) ≤ (a : Int) := by omega
  have h1 : (0 : Int) ≤ (j : Int) := by omega
  go_enter Try.func87, Try.ntmps87
  go_wp2_with fail
  have X0 := (S0.out.1.cell (p := ⟨b1, o1 + a * 3 + 2, none⟩) hb1).trans z2
  have X1 := (S0.out.1.cell (p := ⟨b3, o3 + a, none⟩) hb3).trans z3
  have X2 := (S0.out.1.cell (p := ⟨b2, o2 + j * 3, none⟩) hb2).trans y0
  have X3 := (S0.out.1.cell (p := ⟨b2, o2 + j * 3 + 1, none⟩) hb2).trans y1
  have X4 := (S0.out.1.cell (p := ⟨b2, o2 + j * 3 + 2, none⟩) hb2).trans y2
  generalize World.alloc (World.alloc (World.alloc w _) _) _ = wv at S0 X0 X1 X2 X3 X4 ⊢
  have hsz := S0.out.1.size
  have hl0 := (S0.out.bk 0 rfl).lt
  have hl1 := (S0.out.bk 1 rfl).lt
  have hl2 := (S0.out.bk 2 rfl).lt
  obtain ⟨p0, p1, p2, p3, p4, pf⟩ := (S0.out.bk 2 rfl).c5
  obtain ⟨q0, q1, qf⟩ := (S0.out.bk 1 rfl).c2
  have fz := (S0.out.bk 0 rfl).c3.2.2.2
  clear z2 z3 y0 y1 y2
  have S1 := Lib.hid S0.out.drew1
  have B2 := Lib.hid (S1.out.bk 0 rfl)
  obtain ⟨e0, e1, e2, ef⟩ := B2.out.c3
  have CE := Lib.hid (fun (W : World) (h : Wr [w.heap.size + 1 + 1] wv.drew W) => show Hid (Wr [w.heap.size + 1 + 1] wv.drew W) ∧ W.cell? ⟨w.heap.size, 1, none⟩ = some (.slice (some ⟨b1, o1, none⟩) n1 c1) ∧ W.cell? ⟨b1, o1 + a * 3 + 2, none⟩ = some (.slice (some ⟨b2, o2, none⟩) nm cm) ∧ W.cell? ⟨w.heap.size + 1, 1, none⟩ = some (.slice (some ⟨b3, o3, none⟩) nt f2) ∧ W.cell? ⟨b3, o3 + a, none⟩ = some (.int .i64 (j : Int)) ∧ W.cell? ⟨b2, o2 + j * 3, none⟩ = some (.int .i64 du) ∧ W.cell? ⟨b2, o2 + j * 3 + 1, none⟩ = some (.slice M1 k1 m1) ∧ W.cell? ⟨b2, o2 + j * 3 + 2, none⟩ = some (.slice M2 k2 m2) from ⟨Lib.hid h, (wr_cell h (p := ⟨w.heap.size, 1, none⟩) hl2 (by simp only [List.mem_singleton]; omega)).trans (by exact by simpa using p1), (wr_cell h (p := ⟨b1, o1 + a * 3 + 2, none⟩) (by show b1 < _; simp; omega) (by simp only [List.mem_singleton]; omega)).trans (by exact by simpa using X0), (wr_cell h (p := ⟨w.heap.size + 1, 1, none⟩) hl1 (by simp only [List.mem_singleton]; omega)).trans (by exact by simpa using q1), (wr_cell h (p := ⟨b3, o3 + a, none⟩) (by show b3 < _; simp; omega) (by simp only [List.mem_singleton]; omega)).trans (by exact by simpa using X1), (wr_cell h (p := ⟨b2, o2 + j * 3, none⟩) (by show b2 < _; simp; omega) (by simp only [List.mem_singleton]; omega)).trans (by exact by simpa using X2), (wr_cell h (p := ⟨b2, o2 + j * 3 + 1, none⟩) (by show b2 < _; simp; omega) (by simp only [List.mem_singleton]; omega)).trans (by exact by simpa using X3), (wr_cell h (p := ⟨b2, o2 + j * 3 + 2, none⟩) (by show b2 < _; simp; omega) (by simp only [List.mem_singleton]; omega)).trans (by exact by simpa using X4)⟩)
  have INIT := Lib.hid (CE.out _ (Wr.refl _ _))
  have KW := Lib.hid (fun (W2 W : World) (hb : Wr [w.heap.size + 1 + 1] W W2) (h : Hid (Wr [w.heap.size + 1 + 1] wv.drew W) ∧ W.cell? ⟨w.heap.size, 1, none⟩ = some (.slice (some ⟨b1, o1, none⟩) n1 c1) ∧ W.cell? ⟨b1, o1 + a * 3 + 2, none⟩ = some (.slice (some ⟨b2, o2, none⟩) nm cm) ∧ W.cell? ⟨w.heap.size + 1, 1, none⟩ = some (.slice (some ⟨b3, o3, none⟩) nt f2) ∧ W.cell? ⟨b3, o3 + a, none⟩ = some (.int .i64 (j : Int)) ∧ W.cell? ⟨b2, o2 + j * 3, none⟩ = some (.int .i64 du) ∧ W.cell? ⟨b2, o2 + j * 3 + 1, none⟩ = some (.slice M1 k1 m1) ∧ W.cell? ⟨b2, o2 + j * 3 + 2, none⟩ = some (.slice M2 k2 m2)) => CE.out W2 (h.1.out.trans hb))
  clear X0 X1 X2 X3 X4 p0 p1 p2 p3 p4 pf q0 q1 qf
  refine wpAnyZ_start 13 (fun W => Hid (Wr [w.heap.size + 1 + 1] wv.drew W) ∧ W.cell? ⟨w.heap.size, 1, none⟩ = some (.slice (some ⟨b1, o1, none⟩) n1 c1) ∧ W.cell? ⟨b1, o1 + a * 3 + 2, none⟩ = some (.slice (some ⟨b2, o2, none⟩) nm cm) ∧ W.cell? ⟨w.heap.size + 1, 1, none⟩ = some (.slice (some ⟨b3, o3, none⟩) nt f2) ∧ W.cell? ⟨b3, o3 + a, none⟩ = some (.int .i64 (j : Int)) ∧ W.cell? ⟨b2, o2 + j * 3, none⟩ = some (.int .i64 du) ∧ W.cell? ⟨b2, o2 + j * 3 + 1, none⟩ = some (.slice M1 k1 m1) ∧ W.cell? ⟨b2, o2 + j * 3 + 2, none⟩ = some (.slice M2 k2 m2)) (by kernel_rfl) INIT.out (fun hHeld => ?_)
  clear CE KW INIT B2
  generalize wv.drew = wd at S1 hHeld e0 e1 e2 ef ⊢
  refine wpAnyZ_take (i := 0) (v := ?_) rfl (by kernel_rfl) (by kernel_rfl) (by kernel_rfl) (fun _ _ _ h => h) (Or.inl ⟨by rfl, ?_⟩) (by assumption) ?_
  rotate_left
  · (intro W hSw; (try dsimp only at hSw); go_simp <;> with_reducible rfl)
  (try simp only [Act.put])
  refine wpAnyZ_take (i := 1) (v := ?_) rfl (by kernel_rfl) (by kernel_rfl) (by kernel_rfl) (fun _ _ _ h => h) (Or.inl ⟨by rfl, ?_⟩) (by assumption) ?_
  rotate_left
  · (intro W hSw; (try dsimp only at hSw); go_simp <;> with_reducible rfl)
  (try simp only [Act.put])
  refine wpAnyZ_take (i := 2) (v := ?_) rfl (by kernel_rfl) (by kernel_rfl) (by kernel_rfl) (fun _ _ _ h => h) (Or.inl ⟨by rfl, ?_⟩) (by assumption) ?_
  rotate_left
  · (intro W hSw; (try dsimp only at hSw); go_simp <;> with_reducible rfl)
  (try simp only [Act.put])
  refine wpAnyZ_take (i := 3) (v := ?_) rfl (by kernel_rfl) (by kernel_rfl) (by kernel_rfl) (fun _ _ _ h => h) (Or.inl ⟨by rfl, ?_⟩) (by assumption) ?_
  rotate_left
  · (intro W hSw; (try dsimp only at hSw); go_simp <;> with_reducible rfl)
  (try simp only [Act.put])
  refine wpAnyZ_take (i := 4) (v := ?_) rfl (by kernel_rfl) (by kernel_rfl) (by kernel_rfl) (fun _ _ _ h => h) (Or.inl ⟨by rfl, ?_⟩) (by assumption) ?_
  rotate_left
  · (intro W hSw; (try dsimp only at hSw); go_simp <;> with_reducible rfl)
  (try simp only [Act.put])
  refine wpAnyZ_take (i := 5) (v := ?_) rfl (by kernel_rfl) (by kernel_rfl) (by kernel_rfl) (fun _ _ _ h => h) (Or.inl ⟨by rfl, ?_⟩) (by assumption) ?_
  rotate_left
  · (intro W hSw; (try dsimp only at hSw); go_simp <;> with_reducible rfl)
  (try simp only [Act.put])
  refine wpAnyZ_take (i := 6) (v := ?_) rfl (by kernel_rfl) (by kernel_rfl) (by kernel_rfl) (fun _ _ _ h => h) (Or.inl ⟨by rfl, ?_⟩) (by assumption) ?_
  rotate_left
  · (intro W hSw; (try dsimp only at hSw); go_simp <;> with_reducible rfl)
  (try simp only [Act.put])
  refine wpAnyZ_take (i := 7) (v := ?_) rfl (by kernel_rfl) (by kernel_rfl) (by kernel_rfl) (fun _ _ _ h => h) (Or.inl ⟨by rfl, ?_⟩) (by assumption) ?_
  rotate_left
  · (intro W hSw; (try dsimp only at hSw); go_simp <;> with_reducible rfl)
  (try simp only [Act.put])
  refine wpAnyZ_take (i := 8) (v := ?_) rfl (by kernel_rfl) (by kernel_rfl) (by kernel_rfl) (fun _ _ _ h => h) (Or.inl ⟨by rfl, ?_⟩) (by assumption) ?_
  rotate_left
  · (intro W hSw; (try dsimp only at hSw); go_simp <;> with_reducible rfl)
  (try simp only [Act.put])
  refine wpAnyZ_take (i := 9) (v := ?_) rfl (by kernel_rfl) (by kernel_rfl) (by kernel_rfl) (fun _ _ _ h => h) (Or.inl ⟨by rfl, ?_⟩) (by assumption) ?_
  rotate_left
  · (intro W hSw; (try dsimp only at hSw); go_simp <;> with_reducible rfl)
  (try simp only [Act.put])
  refine wpAnyZ_take (i := 10) (v := ?_) rfl (by kernel_rfl) (by kernel_rfl) (by kernel_rfl) (fun _ _ _ h => h) (Or.inl ⟨by rfl, ?_⟩) (by assumption) ?_
  rotate_left
  · (intro W hSw; (try dsimp only at hSw); go_simp <;> with_reducible rfl)
  (try simp only [Act.put])
  refine wpAnyZ_take (i := 11) (v := ?_) rfl (by kernel_rfl) (by kernel_rfl) (by kernel_rfl) (fun _ _ _ h => h) (Or.inl ⟨by rfl, ?_⟩) (by assumption) ?_
  rotate_left
  · (intro W hSw; (try dsimp only at hSw); go_simp <;> with_reducible rfl)
  (try simp only [Act.put])
  refine wpAnyZ_take (i := 12) (v := ?_) rfl (by kernel_rfl) (by kernel_rfl) (by kernel_rfl) (fun _ _ _ h => h) (Or.inl ⟨by rfl, ?_⟩) (by assumption) ?_
  rotate_left
  · (intro W hSw; (try dsimp only at hSw); go_simp <;> with_reducible rfl)
  (try simp only [Act.put])
  refine wpAnyZ_last (by kernel_rfl) (by kernel_rfl) rfl (fun K hK => ?_)
  go_simp
  refine hK.out _ _ ?_
  clear hK K
  have SZ := ((S1.out.boxSet 0 rfl 0 (.int .i64 du)).boxSet 0 rfl 1 (.slice M1 k1 m1)).boxSet 0 rfl 2 (.slice M2 k2 m2)
  (try simp only [Exit.then])
  (try go_wp2)
  (try simp only [Exit.then])
  refine bodyPost_ret (v := .agg #[.int .i64 du, .slice M1 k1 m1, .slice M2 k2 m2]) (by simp [results, Try.results87, go_sem, e0, e1, e2]) rfl ⟨rfl, SZ.1⟩
theorem implMode_at (p : Pj) (s : Sc) (a : Nat) (v u : Value) (w0 w : World) (hb0 : Below w0.heap.size w0 w) (hv : (trPj p).rd w0 v) (hs : (trSc s).rd w0 u) (hf : Form p s) (ha : a < p.acts.length) :
    Calls Try.prog 87 #[v, u, .int .i64 (a : Int)] w fun e w' => ∃ M1 m1 M2 m2, e = .returned (.agg #[.int .i64 (mdA p s a).du, .slice M1 (mdA p s a).us.length m1, .slice M2 (mdA p s a).co.length m2]) ∧ (trM (mdA p s a)).rd w0 (.agg #[.int .i64 (mdA p s a).du, .slice M1 (mdA p s a).us.length m1, .slice M2 (mdA p s a).co.length m2]) ∧ Below w.heap.size w w' := by
  obtain ⟨A1, c1, A2, c2, A3, c3, A4, c4, rfl, r1, r2, r3, r4⟩ := rdProject_t hv
  obtain ⟨hl1, B1, d1, he, g1⟩ := rdActivityS_t r1
  injection he with he _ he2
  subst he he2
  have HQ := Lib.hid hs
  obtain ⟨E1, f1, E2, f2, rfl, q1, q2⟩ := rdSchedule_t hs
  obtain ⟨ht1, B8, d8, he, x1⟩ := rdI (rd_flat q1)
  injection he with he _ he2
  subst he he2
  have X1 := Lib.hid x1
  obtain ⟨ht2, B9, d9, he, x2⟩ := rdI (rd_flat q2)
  injection he with he _ he2
  subst he he2
  have X2 := Lib.hid x2
  clear hs q1 q2 x1 x2
  have ha2 : a < s.mo.length := by rw [hf.h2]; exact ha
  obtain ⟨j, hj, hm, he⟩ := hf.mo a ha
  rw [he]
  obtain ⟨b1, o1, rfl, hb1, hc1⟩ := g1 a ha
  obtain ⟨M, cm, x0, x1, x2, rm⟩ := hc1 a ha
  obtain ⟨hlm, M', cm', he, g⟩ := rdModeS_t rm
  injection he with he _ he2
  subst he he2
  obtain ⟨b2, o2, rfl, hb2, hc2⟩ := g j hj
  obtain ⟨M1, m1, M2, m2, y0, y1, y2, r1, r2⟩ := hc2 j hj
  obtain ⟨b3, o3, rfl, hb3, hc3⟩ := X2.out a ha2
  have z3 := hc3 a ha2
  rw [← moA_at ha2, hm] at z3
  exact (implMode_w p.dl p.acts.length c1 p.lks.length c2 p.ress.length c3 p.stk.length c4 A2 A3 A4 E1 s.st.length f1 s.mo.length f2 p.acts[a].ms.length cm b1 o1 b2 o2 b3 o3 a j p.acts[a].ms[j].du M1 M2 p.acts[a].ms[j].us.length m1 p.acts[a].ms[j].co.length m2 w (Nat.lt_of_lt_of_le hb1 hb0.size) (Nat.lt_of_lt_of_le hb2 hb0.size) (Nat.lt_of_lt_of_le hb3 hb0.size) ((hb0.cell (p := ⟨b1, o1 + a * 3 + 2, none⟩) hb1).trans x2) ((hb0.cell (p := ⟨b3, o3 + a, none⟩) hb3).trans z3) ((hb0.cell (p := ⟨b2, o2 + j * 3, none⟩) hb2).trans y0) ((hb0.cell (p := ⟨b2, o2 + j * 3 + 1, none⟩) hb2).trans y1) ((hb0.cell (p := ⟨b2, o2 + j * 3 + 2, none⟩) hb2).trans y2) (by omega) (by omega) (by omega)).mono fun e w' h => ⟨M1, m1, M2, m2, h.1, mk_rdMode_t r1 r2, h.2⟩
theorem implMode_any (p : Pj) (s : Sc) (a : Nat) (v u : Value) (w : World) (hv : (trPj p).rd w v) (hs : (trSc s).rd w u) (hf : Form p s) (ha : a < p.acts.length) :
    Calls Try.prog 87 #[v, u, .int .i64 (a : Int)] w fun e w' => ∃ M1 m1 M2 m2, e = .returned (.agg #[.int .i64 (mdA p s a).du, .slice M1 (mdA p s a).us.length m1, .slice M2 (mdA p s a).co.length m2]) ∧ (trM (mdA p s a)).rd w (.agg #[.int .i64 (mdA p s a).du, .slice M1 (mdA p s a).us.length m1, .slice M2 (mdA p s a).co.length m2]) ∧ Below w.heap.size w w' := implMode_at p s a v u w w (Below.refl _ _) hv hs hf ha
set_option maxRecDepth 100000 in
set_option maxHeartbeats 8000000 in
theorem implEnd_any (p : Pj) (s : Sc) (a : Nat) (v u : Value) (w : World) (hv : (trPj p).rd w v) (hs : (trSc s).rd w u) (hf : Form p s) (ha : a < p.acts.length) :
    Calls Try.prog 142 #[v, u, .int .i64 (a : Int)] w fun e w' => e = .returned (.int .i64 (endA p s a)) ∧ Below w.heap.size w w' := by
  have HV := Lib.hid hv
  obtain ⟨A1, c1, A2, c2, A3, c3, A4, c4, rfl, _⟩ := rdProject_t hv
  have HQ := Lib.hid hs
  obtain ⟨E1, f1, E2, f2, rfl, q1, q2⟩ := rdSchedule_t hs
  obtain ⟨ht1, B8, d8, he, x1⟩ := rdI (rd_flat q1)
  injection he with he _ he2
  subst he he2
  have X1 := Lib.hid x1
  obtain ⟨ht2, B9, d9, he, x2⟩ := rdI (rd_flat q2)
  injection he with he _ he2
  subst he he2
  have X2 := Lib.hid x2
  clear hs q1 q2 x1 x2
  have ha2 : a < s.st.length := by rw [hf.h1]; exact ha
  obtain ⟨b3, o3, rfl, hb3, hc3⟩ := X1.out a ha2
  have z3 := hc3 a ha2
  rw [← stA_at ha2] at z3
  have HF := Lib.hid hf
  have HE := Lib.hid (show endA p s a = stA s a + (mdA p s a).du from rfl)
  have hdu := hf.du ha
  have hst := hf.st a ha
  generalize endA p s a = en at HE ⊢
  generalize stA s a = st at z3 hst HE
  have S0 := Lib.hid (((Sn.start w).box 34 [.int .i64 p.dl, .slice A1 p.acts.length c1, .slice A2 p.lks.length c2, .slice A3 p.ress.length c3, .slice A4 p.stk.length c4]).box 41 [.slice (some ⟨b3, o3, none⟩) s.st.length f1, .slice E2 s.mo.length f2])
  simp only [World.size_alloc] at S0
  have h0 : (0 : Int) ≤ (a : Int) := by omega
  have h1 : (a : Int) < (s.st.length : Int) := by omega
  clear hv hc3 hf
  go_enter Try.func142, Try.ntmps142
  go_wp2_with fail
  have X0 := (S0.out.1.cell (p := ⟨b3, o3 + a, none⟩) hb3).trans z3
  generalize World.alloc (World.alloc w _) _ = wv at S0 X0 ⊢
  have hsz := S0.out.1.size
  have hl0 := (S0.out.bk 0 rfl).lt
  have hl1 := (S0.out.bk 1 rfl).lt
  obtain ⟨p0, p1, p2, p3, p4, pf⟩ := (S0.out.bk 1 rfl).c5
  obtain ⟨q0, q1, qf⟩ := (S0.out.bk 0 rfl).c2
  clear z3 X1 X2
  have S1 := Lib.hid S0.out.drew1
  have hfd := field_mode0
  have CE := Lib.hid (fun (W : World) (h : Wr [] wv.drew W) => show Hid (Wr [] wv.drew W) ∧ W.cell? ⟨w.heap.size, 0, none⟩ = some (.int .i64 p.dl) ∧ W.cell? ⟨w.heap.size, 1, none⟩ = some (.slice A1 p.acts.length c1) ∧ W.cell? ⟨w.heap.size, 2, none⟩ = some (.slice A2 p.lks.length c2) ∧ W.cell? ⟨w.heap.size, 3, none⟩ = some (.slice A3 p.ress.length c3) ∧ W.cell? ⟨w.heap.size, 4, none⟩ = some (.slice A4 p.stk.length c4) ∧ W.cell? ⟨w.heap.size + 1, 0, none⟩ = some (.slice (some ⟨b3, o3, none⟩) s.st.length f1) ∧ W.cell? ⟨w.heap.size + 1, 1, none⟩ = some (.slice E2 s.mo.length f2) ∧ W.cell? ⟨b3, o3 + a, none⟩ = some (.int .i64 st) from ⟨Lib.hid h, (wr_cell h (p := ⟨w.heap.size, 0, none⟩) hl1 (by simp)).trans (by exact by simpa using p0), (wr_cell h (p := ⟨w.heap.size, 1, none⟩) hl1 (by simp)).trans (by exact by simpa using p1), (wr_cell h (p := ⟨w.heap.size, 2, none⟩) hl1 (by simp)).trans (by exact by simpa using p2), (wr_cell h (p := ⟨w.heap.size, 3, none⟩) hl1 (by simp)).trans (by exact by simpa using p3), (wr_cell h (p := ⟨w.heap.size, 4, none⟩) hl1 (by simp)).trans (by exact by simpa using p4), (wr_cell h (p := ⟨w.heap.size + 1, 0, none⟩) hl0 (by simp)).trans (by exact by simpa using q0), (wr_cell h (p := ⟨w.heap.size + 1, 1, none⟩) hl0 (by simp)).trans (by exact by simpa using q1), (wr_cell h (p := ⟨b3, o3 + a, none⟩) (by show b3 < _; simp; omega) (by simp)).trans (by exact by simpa using X0)⟩)
  have INIT := Lib.hid (CE.out _ (Wr.refl _ _))
  have KW := Lib.hid (fun (W2 W : World) (hb : Wr [] W W2) (h : Hid (Wr [] wv.drew W) ∧ W.cell? ⟨w.heap.size, 0, none⟩ = some (.int .i64 p.dl) ∧ W.cell? ⟨w.heap.size, 1, none⟩ = some (.slice A1 p.acts.length c1) ∧ W.cell? ⟨w.heap.size, 2, none⟩ = some (.slice A2 p.lks.length c2) ∧ W.cell? ⟨w.heap.size, 3, none⟩ = some (.slice A3 p.ress.length c3) ∧ W.cell? ⟨w.heap.size, 4, none⟩ = some (.slice A4 p.stk.length c4) ∧ W.cell? ⟨w.heap.size + 1, 0, none⟩ = some (.slice (some ⟨b3, o3, none⟩) s.st.length f1) ∧ W.cell? ⟨w.heap.size + 1, 1, none⟩ = some (.slice E2 s.mo.length f2) ∧ W.cell? ⟨b3, o3 + a, none⟩ = some (.int .i64 st)) => CE.out W2 (h.1.out.trans hb))
  clear X0 p0 p1 p2 p3 p4 pf q0 q1 qf
  go_region_held3 (fun W => Hid (Wr [] wv.drew W) ∧ W.cell? ⟨w.heap.size, 0, none⟩ = some (.int .i64 p.dl) ∧ W.cell? ⟨w.heap.size, 1, none⟩ = some (.slice A1 p.acts.length c1) ∧ W.cell? ⟨w.heap.size, 2, none⟩ = some (.slice A2 p.lks.length c2) ∧ W.cell? ⟨w.heap.size, 3, none⟩ = some (.slice A3 p.ress.length c3) ∧ W.cell? ⟨w.heap.size, 4, none⟩ = some (.slice A4 p.stk.length c4) ∧ W.cell? ⟨w.heap.size + 1, 0, none⟩ = some (.slice (some ⟨b3, o3, none⟩) s.st.length f1) ∧ W.cell? ⟨w.heap.size + 1, 1, none⟩ = some (.slice E2 s.mo.length f2) ∧ W.cell? ⟨b3, o3 + a, none⟩ = some (.int .i64 st)) (first | exact INIT.out | exact KW.out _ _ (by assumption) (by assumption) | exact KW.out _ _ (Wr.of_below (by assumption) (Nat.le_refl _)) (by assumption))
    ((go_at_call 87; refine (implMode_any p s a _ _ _ (by exact S1.out.old HV.out) (by exact S1.out.old HQ.out) HF.out ha).mono ?_; rintro e w5 ⟨M1, m1, M2, m2, rfl, _, b⟩; have S2 := Lib.hid (S1.out.go b)))
  rename_i hHeld
  clear hHeld CE INIT KW S1 b
  have hw : IntKind.i64.wrap (st + (mdA p s a).du) = en := by rw [HE.out, IntKind.wrap_i64]; omega
  go_wp2
  go_ret
  exact ⟨ret_numZ (by first | exact hw | rfl), S2.out.1⟩
end Go.Proofs.Ytaglfdkeomjpdab
end

section
namespace Go.Proofs.Ytaglfdkeomjpdab
open Go.RowKit Go.Shelf
set_option linter.unusedVariables false

set_option maxRecDepth 100000 in
set_option maxHeartbeats 8000000 in
theorem implForm_any (p : Pj) (s : Sc) (v u : Value) (w : World) (hv : (trPj p).rd w v) (hk : (trPj p).ok) (hs : (trSc s).rd w u) :
    Calls Try.prog 15 #[v, u] w fun e w' => e = .returned (.bool (formB p s)) ∧ Below w.heap.size w w' := by
  have HV := Lib.hid hv
  obtain ⟨A1, c1, A2, c2, A3, c3, A4, c4, rfl, r1, r2, r3, r4⟩ := rdProject_t hv
  obtain ⟨hl2, B2, d2, he, g2⟩ := rdLinkS_t r2
  injection he with he _ he2
  subst he he2
  have G2 := Lib.hid g2
  obtain ⟨hl1, B1, d1, he, g1⟩ := rdActivityS_t r1
  injection he with he _ he2
  subst he he2
  have G1 := Lib.hid g1
  clear hv r1 r2 r3 r4 g1 g2
  have S0 := Lib.hid ((Sn.start w).box 34 [.int .i64 p.dl, .slice A1 p.acts.length c1, .slice A2 p.lks.length c2, .slice A3 p.ress.length c3, .slice A4 p.stk.length c4])
  have HQ := Lib.hid hs
  obtain ⟨E1, f1, E2, f2, rfl, q1, q2⟩ := rdSchedule_t hs
  obtain ⟨ht1, B8, d8, he, x1⟩ := rdI (rd_flat q1)
  injection he with he _ he2
  subst he he2
  have X1 := Lib.hid x1
  obtain ⟨ht2, B9, d9, he, x2⟩ := rdI (rd_flat q2)
  injection he with he _ he2
  subst he he2
  have X2 := Lib.hid x2
  clear hs q1 q2 x1 x2
  have HK := Lib.hid hk
  clear hk
  have S1 := Lib.hid (S0.out.box 41 [.slice E1 s.st.length f1, .slice E2 s.mo.length f2])
  simp only [World.size_alloc] at S1
  clear S0
  go_enter Try.func15, Try.ntmps15
  by_cases h1 : s.st.length = p.acts.length
  rotate_left
  · have HR := Lib.hid (form_st h1)
    have h1' : ¬ (s.st.length : Int) = (p.acts.length : Int) := by omega
    go_wp2
    go_ret
    exact ⟨ret_boo HR.out.symm, S1.out.1⟩
  by_cases h2 : s.mo.length = p.acts.length
  rotate_left
  · have HR := Lib.hid (form_mo h2)
    have h2' : ¬ (s.mo.length : Int) = (p.acts.length : Int) := by omega
    rw [h1] at S1 ⊢
    clear h1
    go_wp2
    go_ret
    exact ⟨ret_boo HR.out.symm, S1.out.1⟩
  rw [h1, h2] at HQ S1 ⊢
  go_wp2_with fail
  refine (implProjectOk_any p _ _ (by exact S1.out.old HV.out) HK.out).mono ?_
  rintro e w1 ⟨rfl, b⟩
  have S2 := Lib.hid (S1.out.go b)
  clear S1 b
  rcases hok : pokB p with _ | _
  · have HR := Lib.hid (form_bad (s := s) hok)
    clear hok
    go_wp2
    go_ret
    exact ⟨ret_boo HR.out.symm, S2.out.1⟩
  have HOK := Lib.hid hok
  obtain ⟨e0, e1, e2, e3, e4, ef⟩ := (S2.out.bk 1 rfl).c5
  have H1 := Lib.hid h1
  have H2 := Lib.hid h2
  clear hok h1 h2
  go_wp2_with fail
  clear e0 e1 e2 e3 e4 ef
  go_loopw [31] (fun i wr => ∃ k : Nat, k ≤ p.acts.length ∧ i = .int .i64 k ∧ Sn w wr [boxI (w.heap.size + 1) 41 [.slice E1 p.acts.length f1, .slice E2 p.acts.length f2], boxI w.heap.size 34 [.int .i64 p.dl, .slice A1 p.acts.length c1, .slice A2 p.lks.length c2, .slice A3 p.ress.length c3, .slice A4 p.stk.length c4]] ∧ Hid (∀ a, a < k → goodA p s a = true)) (fun i _ => p.acts.length - (intOf i).toNat)
  case atStart => exact ⟨0, Nat.zero_le _, rfl, S2.out, Lib.hid (fun a ha => absurd ha (by omega))⟩
  case round =>
    obtain ⟨k, hkl, rfl, hS, GD⟩ := hrel
    have S3 := Lib.hid hS
    clear hS S2
    by_cases hlt : k < p.acts.length
    · have hlt' : (k : Int) < (p.acts.length : Int) := by omega
      obtain ⟨b1, o1, rfl, hb1, hc1⟩ := G1.out k hlt
      obtain ⟨M, cm, x0, x1, x2, rm⟩ := hc1 k hlt
      have z0 := (S3.out.1.cell (p := ⟨b1, o1 + k * 3, none⟩) hb1).trans x0
      have z1 := (S3.out.1.cell (p := ⟨b1, o1 + k * 3 + 1, none⟩) hb1).trans x1
      have z2 := (S3.out.1.cell (p := ⟨b1, o1 + k * 3 + 2, none⟩) hb1).trans x2
      obtain ⟨b8, o8, rfl, hb8, hc8⟩ := X1.out k (by rw [H1.out]; exact hlt)
      obtain ⟨b9, o9, rfl, hb9, hc9⟩ := X2.out k (by rw [H2.out]; exact hlt)
      have y8 := hc8 k (by rw [H1.out]; exact hlt)
      have y9 := hc9 k (by rw [H2.out]; exact hlt)
      rw [← stA_at] at y8
      rw [← moA_at] at y9
      have k0 : (0 : Int) ≤ (k : Int) := by omega
      have HC := Lib.hid (acA_at hlt)
      have GN := Lib.hid (fun (h : goodA p s k = false) => form_at hlt h)
      have GS := Lib.hid (fun h => good_st (p := p) (s := s) (a := k) h)
      have GM := Lib.hid (fun h => good_mo (p := p) (s := s) (a := k) h)
      have GY := Lib.hid (fun h h2 => good_yes (p := p) (s := s) (a := k) h h2)
      rw [HC.out] at GM GY
      generalize stA s k = st at y8 GS GY
      generalize moA s k = mo at y9 GM GY
      generalize p.acts[k].ms.length = nm at x2 z2 rm GM GY
      have S4 := Lib.hid (S3.out.box 68 [.string p.acts[k].nm, .int .i64 p.acts[k].fa, .slice M nm cm])
      clear hc1 x0 x1 x2 rm hc8 hc9 S3
      generalize p.acts[k].nm = anm at z0 S4
      generalize p.acts[k].fa = afa at z1 S4
      go_wp2_with fail
      clear z0 z1 z2
      generalize wr.heap.size = ga at S4 ⊢
      obtain ⟨c0, c1, c2, cf⟩ := (S4.out.bk 0 rfl).c3
      obtain ⟨q0, q1, qf⟩ := (S4.out.bk 1 rfl).c2
      replace y8 := (S4.out.1.cell (p := ⟨b8, o8 + k, none⟩) hb8).trans y8
      replace y9 := (S4.out.1.cell (p := ⟨b9, o9 + k, none⟩) hb9).trans y9
      by_cases t1 : 0 ≤ st ∧ st ≤ 60
      rotate_left
      · have HR := Lib.hid (GN.out (GS.out t1))
        have i1 := inB_no t1
        clear t1
        go_quiet (first | (go_at_call 47; exact quiet_left (isTime_any _ _)) | (go_at_call 48; exact quiet_left (isBelow_any _ _ _)))
        go_wp2
        go_ret
        exact ⟨ret_boo HR.out.symm, below_drewN S4.out.1 _⟩
      have i1 := inB_yes t1
      have T1 := Lib.hid t1
      clear t1
      by_cases t2 : 0 ≤ mo ∧ mo ≤ (nm : Int) - 1
      rotate_left
      · have HR := Lib.hid (GN.out (GM.out t2))
        have i2 := inB_no t2
        clear t2
        go_quiet (first | (go_at_call 47; exact quiet_left (isTime_any _ _)) | (go_at_call 48; exact quiet_left (isBelow_any _ _ _)))
        go_wp2
        go_ret
        exact ⟨ret_boo HR.out.symm, below_drewN S4.out.1 _⟩
      have i2 := inB_yes t2
      have GD2 := Lib.hid (show ∀ a, a < k + 1 → goodA p s a = true from fun a ha => by
        by_cases e : a = k
        · subst e; exact GY.out T1.out t2
        · exact GD.out a (by omega))
      clear t2
      go_quiet (first | (go_at_call 47; exact quiet_left (isTime_any _ _)) | (go_at_call 48; exact quiet_left (isBelow_any _ _ _)))
      go_wp2
      go_roundw
      case rel => exact ⟨k + 1, by omega, by go_num, (S4.out.drop 0).go (below_drewN (Below.refl _ _) _), GD2⟩
      case measure => simp [intOf]; omega
    · have hge : ¬ (k : Int) < (p.acts.length : Int) := by omega
      obtain rfl : k = p.acts.length := by omega
      have HR := Lib.hid (form_yes HOK.out H1.out H2.out GD.out)
      go_wp2
      go_ret
      exact ⟨ret_boo HR.out.symm, S3.out.1⟩
end Go.Proofs.Ytaglfdkeomjpdab
end

section
namespace Go.Proofs.Ytaglfdkeomjpdab
open Go.RowKit Go.Shelf
set_option linter.unusedVariables false

theorem max_iteI (a b : Int) : (if a < b then b else a) = max a b := by rw [Int.max_def]; split <;> split <;> omega
end Go.Proofs.Ytaglfdkeomjpdab
end

section
namespace Go.Proofs.Ytaglfdkeomjpdab
open Go.RowKit Go.Shelf
set_option linter.unusedVariables false

theorem maxSc_any (x y : Int) (w : World) : Calls Try.prog 86 #[.int .i64 x, .int .i64 y] w fun e w' => e = .returned (.int .i64 (max x y)) ∧ w = w' := by
  by_cases h : x > y
  · have H := Lib.hid (show max x y = x by omega)
    go_enter Try.func86, Try.ntmps86
    go_wp2
    go_ret
    exact ⟨by rw [H.out]; rfl, rfl⟩
  · have H := Lib.hid (show max x y = y by omega)
    go_enter Try.func86, Try.ntmps86
    go_wp2
    go_ret
    exact ⟨by rw [H.out]; rfl, rfl⟩

theorem runA_in {p : Pj} {s : Sc} {t : Int} {a : Nat} (h1 : stA s a ≤ t) (h2 : t < endA p s a) : runA p s t a = true := by simp [runA, h1, h2]
theorem runA_lo {p : Pj} {s : Sc} {t : Int} {a : Nat} (h1 : ¬ stA s a ≤ t) : runA p s t a = false := by simp [runA, h1]
theorem runA_hi {p : Pj} {s : Sc} {t : Int} {a : Nat} (h2 : endA p s a ≤ t) : runA p s t a = false := by
  rw [runA, decide_eq_false (p := t < endA p s a) (by omega)]
  simp

end Go.Proofs.Ytaglfdkeomjpdab
end

section
namespace Go.Proofs.Ytaglfdkeomjpdab
open Go.RowKit Go.Shelf
set_option linter.unusedVariables false

set_option maxRecDepth 100000 in
set_option maxHeartbeats 8000000 in
theorem implConsumptionOf_any (p : Pj) (s : Sc) (r : Int) (v u : Value) (w : World) (hv : (trPj p).rd w v) (hk : (trPj p).ok) (hs : (trSc s).rd w u) :
    Calls Try.prog 154 #[v, u, .int .i64 r] w fun e w' => e = .returned (.int .i64 (conB p s r)) ∧ Below w.heap.size w w' := by
  have HK := Lib.hid hk
  clear hk
  have hrl : (p.stk.length : Int) ≤ 9223372036854775807 := by
    obtain ⟨_, _, _, _, _, _, _, _, rfl, _, _, _, r4⟩ := rdProject_t hv
    have := (rdI (rd_flat r4)).1
    unfold maxLen at this
    omega
  have hwr : IntKind.i64.wrap ((p.stk.length : Int) - 1) = (p.stk.length : Int) - 1 := by rw [IntKind.wrap_i64]; omega
  have HV := Lib.hid hv
  obtain ⟨A1, c1, A2, c2, A3, c3, A4, c4, rfl, _⟩ := rdProject_t hv
  have HQ := Lib.hid hs
  obtain ⟨E1, f1, E2, f2, rfl, _⟩ := rdSchedule_t hs
  clear hv hs
  have S0 := Lib.hid (((Sn.start w).box 34 [.int .i64 p.dl, .slice A1 p.acts.length c1, .slice A2 p.lks.length c2, .slice A3 p.ress.length c3, .slice A4 p.stk.length c4]).box 41 [.slice E1 s.st.length f1, .slice E2 s.mo.length f2])
  simp only [World.size_alloc] at S0
  go_enter Try.func154, Try.ntmps154
  go_wp2_with fail
  refine (implForm_any p s _ _ _ (by exact S0.out.old HV.out) HK.out (by exact S0.out.old HQ.out)).mono ?_
  rintro e w1 ⟨rfl, b⟩
  have S1 := Lib.hid (S0.out.go b)
  clear S0 b
  rcases hok : formB p s with _ | _
  · have HR := Lib.hid (con_bad (r := r) hok)
    clear hok
    go_wp2
    go_ret
    exact ⟨ret_numZ HR.out.symm, S1.out.1⟩
  have HF := Lib.hid (form_of hok)
  have h6 := HF.out.n6
  obtain ⟨e0, e1, e2, e3, e4, ef⟩ := (S1.out.bk 1 rfl).c5
  go_wp2_with fail
  clear e0 e1 e2 e3 e4 ef
  refine (isBelow_any r (p.stk.length : Int) _).mono ?_
  rintro e w5 ⟨rfl, rfl⟩
  by_cases hin : 0 ≤ r ∧ r < (p.stk.length : Int)
  rotate_left
  · have HR := Lib.hid (con_out (p := p) (s := s) hin)
    rw [inB_no (show ¬ ((0 : Int) ≤ r ∧ r ≤ (p.stk.length : Int) - 1) by omega)]
    clear hin hok
    go_wp2
    go_ret
    exact ⟨ret_numZ HR.out.symm, S1.out.1⟩
  obtain ⟨x, rfl⟩ : ∃ x : Nat, r = (x : Int) := ⟨r.toNat, by omega⟩
  have hx : x < p.stk.length := by omega
  have HR := Lib.hid (con_yes hok hx)
  rw [inB_yes (show (0 : Int) ≤ (x : Int) ∧ (x : Int) ≤ (p.stk.length : Int) - 1 by omega)]
  obtain ⟨e0, e1, e2, e3, e4, ef⟩ := (S1.out.bk 1 rfl).c5
  obtain ⟨q0, q1, qf⟩ := (S1.out.bk 0 rfl).c2
  rw [HF.out.h2] at HQ S1 q1 ⊢
  clear hok hin hwr hrl
  go_wp2
  clear e0 e1 e2 e3 e4 ef
  clear q0 q1 qf
  go_loopw [7, 24] (fun q i wr => ∃ k : Nat, k ≤ p.acts.length ∧ i = .int .i64 k ∧ q = .int .i64 (conK p s x k) ∧ Sn w wr [boxI (w.heap.size + 1) 41 [.slice E1 s.st.length f1, .slice E2 p.acts.length f2], boxI w.heap.size 34 [.int .i64 p.dl, .slice A1 p.acts.length c1, .slice A2 p.lks.length c2, .slice A3 p.ress.length c3, .slice A4 p.stk.length c4]]) (fun _ i _ => p.acts.length - (intOf i).toNat)
  case atStart => exact ⟨0, Nat.zero_le _, rfl, rfl, S1.out⟩
  case round =>
    obtain ⟨k, hkl, rfl, rfl, hS⟩ := hrel
    have S2 := Lib.hid hS
    clear hS S1
    by_cases hlt : k < p.acts.length
    · have hlt' : (k : Int) < (p.acts.length : Int) := by omega
      have HT := Lib.hid (show conK p s x (k + 1) = conK p s x k + coA p s x k from rfl)
      have hus := HF.out.co hlt hx
      have hs0 := conK_hi HF.out hx k hkl
      generalize conK p s x k = su at HT hs0 ⊢
      obtain ⟨e0, e1, e2, e3, e4, ef⟩ := (S2.out.bk 1 rfl).c5
      obtain ⟨q0, q1, qf⟩ := (S2.out.bk 0 rfl).c2
      have hfd := field_mode2
      have x0 : (0 : Int) ≤ (x : Int) := by omega
      go_wp2_with fail
      clear e0 e1 e2 e3 e4 ef
      clear q0 q1 qf
      refine (implMode_at p s k _ _ w _ (by exact S2.out.1) (by exact HV.out) (by exact HQ.out) HF.out hlt).mono ?_
      rintro e w3 ⟨M1, m1, M2, m2, rfl, rm, b⟩
      obtain ⟨N1, k1, N2, k2, he, _, ru⟩ := rdMode_t rm
      obtain ⟨rfl, rfl⟩ : M2 = N2 ∧ m2 = k2 := by
        injection he with he
        injection he with he
        simp at he
        exact ⟨he.2.1, he.2.2⟩
      obtain ⟨hlu, N, n, he, gu⟩ := rdI (rd_flat ru)
      injection he with he _ he2
      subst he he2
      obtain ⟨b7, o7, rfl, hb7, hc7⟩ := gu x (by rw [hus.1]; exact hx)
      have S3 := Lib.hid (S2.out.go b)
      have y7 := (S3.out.1.cell (p := ⟨b7, o7 + x, none⟩) hb7).trans (hc7 x (by rw [hus.1]; exact hx))
      have hua : (mdA p s k).co[x]'(by rw [hus.1]; exact hx) = coA p s x k := by simp [coA, List.getD, List.getElem?_eq_getElem (show x < (mdA p s k).co.length by rw [hus.1]; exact hx)]
      rw [hua] at y7
      have hxl : (x : Int) < ((mdA p s k).co.length : Int) := by rw [hus.1]; omega
      have hub := hus.2
      generalize coA p s x k = ua at y7 HT hub
      generalize (mdA p s k).co.length = nu at hxl ⊢
      have hw : IntKind.i64.wrap (su + ua) = su + ua := by rw [IntKind.wrap_i64]; omega
      clear S2 b rm hc7 hua hus gu ru
      go_wp2
      go_roundw
      case rel => exact ⟨k + 1, by omega, by go_num, by rw [HT.out], S3.out⟩
      case measure => simp [intOf]; omega
    · have hge : ¬ (k : Int) < (p.acts.length : Int) := by omega
      obtain rfl : k = p.acts.length := by omega
      go_wp2
      go_ret
      exact ⟨ret_numZ HR.out.symm, S2.out.1⟩

end Go.Proofs.Ytaglfdkeomjpdab
end
