/- DERIVED. The walk of the law FnExactLiteralValue, by contracts. -/
import Derived.Test.YtdbnhdiboemmiabDmV
import Derived.Test.YtdbnhdiboemmiabTDomain
import Derived.Test.YtdbnhdiboemmiabTLiteral
import Derived.Deep.RegionWith
import Derived.Deep.RegionHeld3
namespace Go.Proofs.Ytdbnhdiboemmiab
open Go.RowKit
set_option linter.unusedVariables false
set_option maxRecDepth 100000 in
set_option maxHeartbeats 4000000 in
theorem walkFnExactLiteralValue (v0 : Value) (d0 : Dm) (v1 : Value) (d1 : Lt) (w : World) (hr0 : (trDm d0).rd w v0) (hk0 : (trDm d0).ok) (hr1 : (trLt d1).rd w v1) (hk1 : (trLt d1).ok) :
    Calls Try.prog 3 #[v0, v1] w fun e w' => e = .returned (.bool true) ∧ Below w.heap.size w w' := by
  have HK0 := Lib.hid hk0
  have HR0 := Lib.hid hr0
  obtain ⟨U0_0, u0_0, U0_1, u0_1, U0_2, u0_2, rfl, _, _, _⟩ := rdDomain_t hr0
  clear hk0 hr0
  have HK1 := Lib.hid hk1
  have HR1 := Lib.hid hr1
  obtain rfl := rdLiteral_t hr1
  clear hk1 hr1
  have S0 := Lib.hid (Sn.start w)
  have S1 := Lib.hid (S0.out.box 25 [.slice U0_0 d0.mn.length u0_0, .slice U0_1 d0.mx.length u0_1, .slice U0_2 d0.md.length u0_2])
  clear S0
  have S2 := Lib.hid (S1.out.box 27 [.int .i64 d1.ki, .int .i64 d1.ac, .int .i64 d1.va])
  clear S1
  simp only [World.size_alloc] at S2
  go_enter Try.func3, Try.ntmps3
  go_wp2_with fail
  refine (szDomain_t d0 _ (1048576) _ (by exact S2.out.old HR0.out) HK0.out (by omega) (by omega)).mono ?_
  rintro e w3 ⟨rfl, b⟩
  have S3 := Lib.hid (S2.out.go b)
  clear S2 b
  generalize hz0 : (trDm d0).sz = z0
  have HZ0 := Lib.hid hz0
  clear hz0
  by_cases hbig0 : (1048576 : Int) < (z0 : Int)
  · rw [if_pos hbig0]
    go_wp2
    go_ret
    exact ⟨rfl, S3.out.1⟩
  rw [if_neg hbig0]
  have hq0 : 0 ≤ (1048576 - (z0 : Int) : Int) := by omega
  have hb0 : z0 ≤ 1048576 := by omega
  obtain ⟨x0, x1, x2, xf⟩ := (S3.out.bk 1 rfl).c3
  have hlx := (S3.out.bk 1 rfl).lt
  obtain ⟨y0, y1, y2, yf⟩ := (S3.out.bk 0 rfl).c3
  have hly := (S3.out.bk 0 rfl).lt
  have S4 := Lib.hid (S3.out.drew1)
  clear S3
  go_wp2_with fail
  have CE := Lib.hid (fun (W : World) (h : Wr [] w3.drew W) => show Hid (Wr [] w3.drew W) ∧ W.cell? ⟨w.heap.size, 0, none⟩ = some (.slice U0_0 d0.mn.length u0_0) ∧ W.cell? ⟨w.heap.size, 1, none⟩ = some (.slice U0_1 d0.mx.length u0_1) ∧ W.cell? ⟨w.heap.size, 2, none⟩ = some (.slice U0_2 d0.md.length u0_2) ∧ W.cell? ⟨w.heap.size + 1, 0, none⟩ = some (.int .i64 d1.ki) ∧ W.cell? ⟨w.heap.size + 1, 1, none⟩ = some (.int .i64 d1.ac) ∧ W.cell? ⟨w.heap.size + 1, 2, none⟩ = some (.int .i64 d1.va) from ⟨Lib.hid h, (wr_cell h (p := ⟨w.heap.size, 0, none⟩) hlx (by simp)).trans (by simpa using x0), (wr_cell h (p := ⟨w.heap.size, 1, none⟩) hlx (by simp)).trans (by simpa using x1), (wr_cell h (p := ⟨w.heap.size, 2, none⟩) hlx (by simp)).trans (by simpa using x2), (wr_cell h (p := ⟨w.heap.size + 1, 0, none⟩) hly (by simp)).trans (by simpa using y0), (wr_cell h (p := ⟨w.heap.size + 1, 1, none⟩) hly (by simp)).trans (by simpa using y1), (wr_cell h (p := ⟨w.heap.size + 1, 2, none⟩) hly (by simp)).trans (by simpa using y2)⟩)
  have INIT := Lib.hid (CE.out _ (Wr.refl _ _))
  have KW := Lib.hid (fun (W2 W : World) (hb : Below W.heap.size W W2) (h : Hid (Wr [] w3.drew W) ∧ W.cell? ⟨w.heap.size, 0, none⟩ = some (.slice U0_0 d0.mn.length u0_0) ∧ W.cell? ⟨w.heap.size, 1, none⟩ = some (.slice U0_1 d0.mx.length u0_1) ∧ W.cell? ⟨w.heap.size, 2, none⟩ = some (.slice U0_2 d0.md.length u0_2) ∧ W.cell? ⟨w.heap.size + 1, 0, none⟩ = some (.int .i64 d1.ki) ∧ W.cell? ⟨w.heap.size + 1, 1, none⟩ = some (.int .i64 d1.ac) ∧ W.cell? ⟨w.heap.size + 1, 2, none⟩ = some (.int .i64 d1.va)) => CE.out W2 (h.1.out.trans (Wr.of_below hb (Nat.le_refl _))))
  clear x0 x1 x2 xf hlx y0 y1 y2 yf hly
  go_region_held3 (fun W => Hid (Wr [] w3.drew W) ∧ W.cell? ⟨w.heap.size, 0, none⟩ = some (.slice U0_0 d0.mn.length u0_0) ∧ W.cell? ⟨w.heap.size, 1, none⟩ = some (.slice U0_1 d0.mx.length u0_1) ∧ W.cell? ⟨w.heap.size, 2, none⟩ = some (.slice U0_2 d0.md.length u0_2) ∧ W.cell? ⟨w.heap.size + 1, 0, none⟩ = some (.int .i64 d1.ki) ∧ W.cell? ⟨w.heap.size + 1, 1, none⟩ = some (.int .i64 d1.ac) ∧ W.cell? ⟨w.heap.size + 1, 2, none⟩ = some (.int .i64 d1.va)) (first | exact INIT.out | exact KW.out _ _ (by assumption) (by assumption))
    (first
    | (go_at_call_of 9 (Value.agg #[Value.slice U0_0 d0.mn.length u0_0, Value.slice U0_1 d0.mx.length u0_1, Value.slice U0_2 d0.md.length u0_2]); refine (toDomain_t d0 _ _ (by exact S4.out.old HR0.out) (by have := HZ0.out; omega)).mono ?_; rintro e w5 ⟨v5_, F5, rfl, o, h, bb5⟩; have S5 := Lib.hid (S4.out.new o h bb5); clear S4 o h)
    | (go_at_call_of 10 (Value.agg #[Value.int IntKind.i64 d1.ki, Value.int IntKind.i64 d1.ac, Value.int IntKind.i64 d1.va]); refine (toLiteral_t d1 _ _ (by exact S5.out.old HR1.out) (by show szL _ ≤ _; simp [szL, cellsLt, Tr.sz])).mono ?_; rintro e w6 ⟨v6_, F6, rfl, o, h, bb6⟩; obtain rfl := rdLiteral_t (Tr.own_rd _ _ _ o); have S6 := Lib.hid (S5.out.new o h bb6); clear S5 o h)
    | (go_at_call 8; refine (specLiteralValue_any d0 d1 _ _ (by exact S6.out.rd 1 rfl)).mono ?_; rintro e w7 ⟨rfl, bb7⟩; have S7 := Lib.hid (S6.out.go bb7); clear S6))
  rename_i hHeld
  clear hHeld CE INIT KW bb5 bb6 bb7
  obtain ⟨c0, c1, c2, cf⟩ := (S7.out.bk 3 rfl).c3
  go_wp2_with fail
  clear c0 c1 c2 cf
  refine (toDomain_t d0 _ _ (by exact S7.out.old HR0.out) (by have := HZ0.out; omega)).mono ?_
  rintro e w8 ⟨v8_, F8, rfl, o, h, b⟩
  obtain ⟨X8_0, x8_0, X8_1, x8_1, X8_2, x8_2, rfl, _, _, _⟩ := rdDomain_t (Tr.own_rd _ _ _ o)
  have S8 := Lib.hid ((S7.out.new o h b).box 30 [.slice X8_0 d0.mn.length x8_0, .slice X8_1 d0.mx.length x8_1, .slice X8_2 d0.md.length x8_2])
  clear S7 o h b
  obtain ⟨x0, x1, x2, xf⟩ := (S8.out.bk 0 rfl).c3
  have hlx := (S8.out.bk 0 rfl).lt
  obtain ⟨y0, y1, y2, yf⟩ := (S8.out.bk 4 rfl).c3
  have hly := (S8.out.bk 4 rfl).lt
  go_wp2_with fail
  generalize World.alloc w8 _ = wq at S8 x0 x1 x2 y0 y1 y2 hlx hly ⊢
  have S9 := Lib.hid (S8.out.drew1)
  clear S8
  have CE := Lib.hid (fun (W : World) (h : Wr [] wq.drew W) => show Hid (Wr [] wq.drew W) ∧ W.cell? ⟨w8.heap.size, 0, none⟩ = some (.slice X8_0 d0.mn.length x8_0) ∧ W.cell? ⟨w8.heap.size, 1, none⟩ = some (.slice X8_1 d0.mx.length x8_1) ∧ W.cell? ⟨w8.heap.size, 2, none⟩ = some (.slice X8_2 d0.md.length x8_2) ∧ W.cell? ⟨w.heap.size + 1, 0, none⟩ = some (.int .i64 d1.ki) ∧ W.cell? ⟨w.heap.size + 1, 1, none⟩ = some (.int .i64 d1.ac) ∧ W.cell? ⟨w.heap.size + 1, 2, none⟩ = some (.int .i64 d1.va) from ⟨Lib.hid h, (wr_cell h (p := ⟨w8.heap.size, 0, none⟩) hlx (by simp)).trans (by simpa using x0), (wr_cell h (p := ⟨w8.heap.size, 1, none⟩) hlx (by simp)).trans (by simpa using x1), (wr_cell h (p := ⟨w8.heap.size, 2, none⟩) hlx (by simp)).trans (by simpa using x2), (wr_cell h (p := ⟨w.heap.size + 1, 0, none⟩) hly (by simp)).trans (by simpa using y0), (wr_cell h (p := ⟨w.heap.size + 1, 1, none⟩) hly (by simp)).trans (by simpa using y1), (wr_cell h (p := ⟨w.heap.size + 1, 2, none⟩) hly (by simp)).trans (by simpa using y2)⟩)
  have INIT := Lib.hid (CE.out _ (Wr.refl _ _))
  have KW := Lib.hid (fun (W2 W : World) (hb : Below W.heap.size W W2) (h : Hid (Wr [] wq.drew W) ∧ W.cell? ⟨w8.heap.size, 0, none⟩ = some (.slice X8_0 d0.mn.length x8_0) ∧ W.cell? ⟨w8.heap.size, 1, none⟩ = some (.slice X8_1 d0.mx.length x8_1) ∧ W.cell? ⟨w8.heap.size, 2, none⟩ = some (.slice X8_2 d0.md.length x8_2) ∧ W.cell? ⟨w.heap.size + 1, 0, none⟩ = some (.int .i64 d1.ki) ∧ W.cell? ⟨w.heap.size + 1, 1, none⟩ = some (.int .i64 d1.ac) ∧ W.cell? ⟨w.heap.size + 1, 2, none⟩ = some (.int .i64 d1.va)) => CE.out W2 (h.1.out.trans (Wr.of_below hb (Nat.le_refl _))))
  clear x0 x1 x2 xf hlx y0 y1 y2 yf hly
  go_region_held3 (fun W => Hid (Wr [] wq.drew W) ∧ W.cell? ⟨w8.heap.size, 0, none⟩ = some (.slice X8_0 d0.mn.length x8_0) ∧ W.cell? ⟨w8.heap.size, 1, none⟩ = some (.slice X8_1 d0.mx.length x8_1) ∧ W.cell? ⟨w8.heap.size, 2, none⟩ = some (.slice X8_2 d0.md.length x8_2) ∧ W.cell? ⟨w.heap.size + 1, 0, none⟩ = some (.int .i64 d1.ki) ∧ W.cell? ⟨w.heap.size + 1, 1, none⟩ = some (.int .i64 d1.ac) ∧ W.cell? ⟨w.heap.size + 1, 2, none⟩ = some (.int .i64 d1.va)) (first | exact INIT.out | exact KW.out _ _ (by assumption) (by assumption))
    (first
    | (go_at_call_of 10 (Value.agg #[Value.int IntKind.i64 d1.ki, Value.int IntKind.i64 d1.ac, Value.int IntKind.i64 d1.va]); refine (toLiteral_t d1 _ _ (by exact S9.out.old HR1.out) (by show szL _ ≤ _; simp [szL, cellsLt, Tr.sz])).mono ?_; rintro e w10 ⟨v10_, F10, rfl, o, h, bb10⟩; obtain rfl := rdLiteral_t (Tr.own_rd _ _ _ o); have S10 := Lib.hid (S9.out.new o h bb10); clear S9 o h)
    | (go_at_call 11; refine (implLiteralValue_any d0 d1 _ _ (by exact S10.out.rd 2 rfl)).mono ?_; rintro e w11 ⟨rfl, bb11⟩; have S11 := Lib.hid (S10.out.go bb11); clear S10))
  rename_i hHeld
  clear hHeld CE INIT KW bb10 bb11
  obtain ⟨c0, c1, c2, cf⟩ := (S11.out.bk 1 rfl).c3
  obtain ⟨g0, g1, g2, gf⟩ := (S11.out.bk 6 rfl).c3
  have hlc := (S11.out.bk 1 rfl).lt
  have hlg := (S11.out.bk 6 rfl).lt
  have S12 := Lib.hid (S11.out.drew1)
  clear S11
  go_wp2_with fail
  have CE := Lib.hid (fun (W : World) (h : Wr [] w11.drew W) => show Hid (Wr [] w11.drew W) ∧ W.cell? ⟨w8.heap.size, 0, none⟩ = some (.slice X8_0 d0.mn.length x8_0) ∧ W.cell? ⟨w8.heap.size, 1, none⟩ = some (.slice X8_1 d0.mx.length x8_1) ∧ W.cell? ⟨w8.heap.size, 2, none⟩ = some (.slice X8_2 d0.md.length x8_2) ∧ W.cell? ⟨w.heap.size, 0, none⟩ = some (.slice U0_0 d0.mn.length u0_0) ∧ W.cell? ⟨w.heap.size, 1, none⟩ = some (.slice U0_1 d0.mx.length u0_1) ∧ W.cell? ⟨w.heap.size, 2, none⟩ = some (.slice U0_2 d0.md.length u0_2) from ⟨Lib.hid h, (wr_cell h (p := ⟨w8.heap.size, 0, none⟩) hlc (by simp)).trans (by simpa using c0), (wr_cell h (p := ⟨w8.heap.size, 1, none⟩) hlc (by simp)).trans (by simpa using c1), (wr_cell h (p := ⟨w8.heap.size, 2, none⟩) hlc (by simp)).trans (by simpa using c2), (wr_cell h (p := ⟨w.heap.size, 0, none⟩) hlg (by simp)).trans (by simpa using g0), (wr_cell h (p := ⟨w.heap.size, 1, none⟩) hlg (by simp)).trans (by simpa using g1), (wr_cell h (p := ⟨w.heap.size, 2, none⟩) hlg (by simp)).trans (by simpa using g2)⟩)
  have INIT := Lib.hid (CE.out _ (Wr.refl _ _))
  have KW := Lib.hid (fun (W2 W : World) (hb : Below W.heap.size W W2) (h : Hid (Wr [] w11.drew W) ∧ W.cell? ⟨w8.heap.size, 0, none⟩ = some (.slice X8_0 d0.mn.length x8_0) ∧ W.cell? ⟨w8.heap.size, 1, none⟩ = some (.slice X8_1 d0.mx.length x8_1) ∧ W.cell? ⟨w8.heap.size, 2, none⟩ = some (.slice X8_2 d0.md.length x8_2) ∧ W.cell? ⟨w.heap.size, 0, none⟩ = some (.slice U0_0 d0.mn.length u0_0) ∧ W.cell? ⟨w.heap.size, 1, none⟩ = some (.slice U0_1 d0.mx.length u0_1) ∧ W.cell? ⟨w.heap.size, 2, none⟩ = some (.slice U0_2 d0.md.length u0_2)) => CE.out W2 (h.1.out.trans (Wr.of_below hb (Nat.le_refl _))))
  clear c0 c1 c2 cf g0 g1 g2 gf hlc hlg
  go_region_held3 (fun W => Hid (Wr [] w11.drew W) ∧ W.cell? ⟨w8.heap.size, 0, none⟩ = some (.slice X8_0 d0.mn.length x8_0) ∧ W.cell? ⟨w8.heap.size, 1, none⟩ = some (.slice X8_1 d0.mx.length x8_1) ∧ W.cell? ⟨w8.heap.size, 2, none⟩ = some (.slice X8_2 d0.md.length x8_2) ∧ W.cell? ⟨w.heap.size, 0, none⟩ = some (.slice U0_0 d0.mn.length u0_0) ∧ W.cell? ⟨w.heap.size, 1, none⟩ = some (.slice U0_1 d0.mx.length u0_1) ∧ W.cell? ⟨w.heap.size, 2, none⟩ = some (.slice U0_2 d0.md.length u0_2)) (first | exact INIT.out | exact KW.out _ _ (by assumption) (by assumption))
    (first
    | (go_at_call 9; refine (toDomain_t d0 _ _ (by exact S12.out.old HR0.out) (by have := HZ0.out; omega)).mono ?_; rintro e w13 ⟨v13_, F13, rfl, o, h, bb1⟩; have S13 := Lib.hid (S12.out.new o h bb1); clear S12 o h)
    | (go_at_call 12; refine (eqDomain_t d0 _ _ _ (by exact S13.out.rd 3 rfl) (by exact S13.out.rd 0 rfl)).mono ?_; rintro e w14 ⟨rfl, bb2⟩; have S14 := Lib.hid (S13.out.go bb2); clear S13))
  rename_i hHeld
  clear hHeld CE INIT KW bb1 bb2
  go_wp2
  go_ret
  exact ⟨rfl, S14.out.1⟩
end Go.Proofs.Ytdbnhdiboemmiab
