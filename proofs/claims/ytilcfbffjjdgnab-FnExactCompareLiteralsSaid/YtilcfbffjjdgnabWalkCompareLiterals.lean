/- DERIVED. The walk of the law FnExactCompareLiterals, by contracts. -/
import Derived.Test.YtilcfbffjjdgnabLtC
import Derived.Test.YtilcfbffjjdgnabTLiteral
import Derived.Deep.RegionWith
import Derived.Deep.RegionHeld3
namespace Go.Proofs.Ytilcfbffjjdgnab
open Go.RowKit
set_option linter.unusedVariables false
set_option maxRecDepth 100000 in
set_option maxHeartbeats 4000000 in
theorem walkFnExactCompareLiterals (v0 : Value) (d0 : Lt) (v1 : Value) (d1 : Lt) (w : World) (hr0 : (trLt d0).rd w v0) (hk0 : (trLt d0).ok) (hr1 : (trLt d1).rd w v1) (hk1 : (trLt d1).ok) :
    Calls Try.prog 3 #[v0, v1] w fun e w' => e = .returned (.bool true) ∧ Below w.heap.size w w' := by
  have HK0 := Lib.hid hk0
  have HR0 := Lib.hid hr0
  obtain rfl := rdLiteral_t hr0
  clear hk0 hr0
  have HK1 := Lib.hid hk1
  have HR1 := Lib.hid hr1
  obtain rfl := rdLiteral_t hr1
  clear hk1 hr1
  have S0 := Lib.hid (Sn.start w)
  have S1 := Lib.hid (S0.out.box 23 [.int .i64 d0.ki, .int .i64 d0.ac, .int .i64 d0.va])
  clear S0
  have S2 := Lib.hid (S1.out.box 23 [.int .i64 d1.ki, .int .i64 d1.ac, .int .i64 d1.va])
  clear S1
  simp only [World.size_alloc] at S2
  go_enter Try.func3, Try.ntmps3
  obtain ⟨x0, x1, x2, xf⟩ := (S2.out.bk 1 rfl).c3
  have hlx := (S2.out.bk 1 rfl).lt
  obtain ⟨y0, y1, y2, yf⟩ := (S2.out.bk 0 rfl).c3
  have hly := (S2.out.bk 0 rfl).lt
  go_wp2_with fail
  generalize World.alloc (World.alloc w _) _ = w2 at S2 x0 x1 x2 y0 y1 y2 hlx hly ⊢
  have S3 := Lib.hid (S2.out.drew1)
  clear S2
  have CE := Lib.hid (fun (W : World) (h : Wr [] w2.drew W) => show Hid (Wr [] w2.drew W) ∧ W.cell? ⟨w.heap.size, 0, none⟩ = some (.int .i64 d0.ki) ∧ W.cell? ⟨w.heap.size, 1, none⟩ = some (.int .i64 d0.ac) ∧ W.cell? ⟨w.heap.size, 2, none⟩ = some (.int .i64 d0.va) ∧ W.cell? ⟨w.heap.size + 1, 0, none⟩ = some (.int .i64 d1.ki) ∧ W.cell? ⟨w.heap.size + 1, 1, none⟩ = some (.int .i64 d1.ac) ∧ W.cell? ⟨w.heap.size + 1, 2, none⟩ = some (.int .i64 d1.va) from ⟨Lib.hid h, (wr_cell h (p := ⟨w.heap.size, 0, none⟩) hlx (by simp)).trans (by simpa using x0), (wr_cell h (p := ⟨w.heap.size, 1, none⟩) hlx (by simp)).trans (by simpa using x1), (wr_cell h (p := ⟨w.heap.size, 2, none⟩) hlx (by simp)).trans (by simpa using x2), (wr_cell h (p := ⟨w.heap.size + 1, 0, none⟩) hly (by simp)).trans (by simpa using y0), (wr_cell h (p := ⟨w.heap.size + 1, 1, none⟩) hly (by simp)).trans (by simpa using y1), (wr_cell h (p := ⟨w.heap.size + 1, 2, none⟩) hly (by simp)).trans (by simpa using y2)⟩)
  have INIT := Lib.hid (CE.out _ (Wr.refl _ _))
  have KW := Lib.hid (fun (W2 W : World) (hb : Below W.heap.size W W2) (h : Hid (Wr [] w2.drew W) ∧ W.cell? ⟨w.heap.size, 0, none⟩ = some (.int .i64 d0.ki) ∧ W.cell? ⟨w.heap.size, 1, none⟩ = some (.int .i64 d0.ac) ∧ W.cell? ⟨w.heap.size, 2, none⟩ = some (.int .i64 d0.va) ∧ W.cell? ⟨w.heap.size + 1, 0, none⟩ = some (.int .i64 d1.ki) ∧ W.cell? ⟨w.heap.size + 1, 1, none⟩ = some (.int .i64 d1.ac) ∧ W.cell? ⟨w.heap.size + 1, 2, none⟩ = some (.int .i64 d1.va)) => CE.out W2 (h.1.out.trans (Wr.of_below hb (Nat.le_refl _))))
  clear x0 x1 x2 xf hlx y0 y1 y2 yf hly
  go_region_held3 (fun W => Hid (Wr [] w2.drew W) ∧ W.cell? ⟨w.heap.size, 0, none⟩ = some (.int .i64 d0.ki) ∧ W.cell? ⟨w.heap.size, 1, none⟩ = some (.int .i64 d0.ac) ∧ W.cell? ⟨w.heap.size, 2, none⟩ = some (.int .i64 d0.va) ∧ W.cell? ⟨w.heap.size + 1, 0, none⟩ = some (.int .i64 d1.ki) ∧ W.cell? ⟨w.heap.size + 1, 1, none⟩ = some (.int .i64 d1.ac) ∧ W.cell? ⟨w.heap.size + 1, 2, none⟩ = some (.int .i64 d1.va)) (first | exact INIT.out | exact KW.out _ _ (by assumption) (by assumption))
    (first
    | (go_at_call_of 5 (Value.agg #[Value.int IntKind.i64 d0.ki, Value.int IntKind.i64 d0.ac, Value.int IntKind.i64 d0.va]); refine (toLiteral_t d0 _ _ (by exact S3.out.old HR0.out) (by show szL _ ≤ _; simp [szL, cellsLt, Tr.sz])).mono ?_; rintro e w4 ⟨v4_, F4, rfl, o, h, bb4⟩; obtain rfl := rdLiteral_t (Tr.own_rd _ _ _ o); have S4 := Lib.hid (S3.out.new o h bb4); clear S3 o h)
    | (go_at_call_of 5 (Value.agg #[Value.int IntKind.i64 d1.ki, Value.int IntKind.i64 d1.ac, Value.int IntKind.i64 d1.va]); refine (toLiteral_t d1 _ _ (by exact S4.out.old HR1.out) (by show szL _ ≤ _; simp [szL, cellsLt, Tr.sz])).mono ?_; rintro e w5 ⟨v5_, F5, rfl, o, h, bb5⟩; obtain rfl := rdLiteral_t (Tr.own_rd _ _ _ o); have S5 := Lib.hid (S4.out.new o h bb5); clear S4 o h)
    | (go_at_call 4; refine (specCompare_any d0 d1 _).mono ?_; rintro e w6 ⟨rfl, bb6⟩; have S6 := Lib.hid (S5.out.go bb6); clear S5))
  rename_i hHeld
  clear hHeld CE INIT KW bb4 bb5 bb6
  obtain ⟨x0, x1, x2, xf⟩ := (S6.out.bk 3 rfl).c3
  have hlx := (S6.out.bk 3 rfl).lt
  obtain ⟨y0, y1, y2, yf⟩ := (S6.out.bk 2 rfl).c3
  have hly := (S6.out.bk 2 rfl).lt
  go_wp2_with fail
  have S7 := Lib.hid (S6.out.drew1)
  clear S6
  have CE := Lib.hid (fun (W : World) (h : Wr [] w6.drew W) => show Hid (Wr [] w6.drew W) ∧ W.cell? ⟨w.heap.size, 0, none⟩ = some (.int .i64 d0.ki) ∧ W.cell? ⟨w.heap.size, 1, none⟩ = some (.int .i64 d0.ac) ∧ W.cell? ⟨w.heap.size, 2, none⟩ = some (.int .i64 d0.va) ∧ W.cell? ⟨w.heap.size + 1, 0, none⟩ = some (.int .i64 d1.ki) ∧ W.cell? ⟨w.heap.size + 1, 1, none⟩ = some (.int .i64 d1.ac) ∧ W.cell? ⟨w.heap.size + 1, 2, none⟩ = some (.int .i64 d1.va) from ⟨Lib.hid h, (wr_cell h (p := ⟨w.heap.size, 0, none⟩) hlx (by simp)).trans (by simpa using x0), (wr_cell h (p := ⟨w.heap.size, 1, none⟩) hlx (by simp)).trans (by simpa using x1), (wr_cell h (p := ⟨w.heap.size, 2, none⟩) hlx (by simp)).trans (by simpa using x2), (wr_cell h (p := ⟨w.heap.size + 1, 0, none⟩) hly (by simp)).trans (by simpa using y0), (wr_cell h (p := ⟨w.heap.size + 1, 1, none⟩) hly (by simp)).trans (by simpa using y1), (wr_cell h (p := ⟨w.heap.size + 1, 2, none⟩) hly (by simp)).trans (by simpa using y2)⟩)
  have INIT := Lib.hid (CE.out _ (Wr.refl _ _))
  have KW := Lib.hid (fun (W2 W : World) (hb : Below W.heap.size W W2) (h : Hid (Wr [] w6.drew W) ∧ W.cell? ⟨w.heap.size, 0, none⟩ = some (.int .i64 d0.ki) ∧ W.cell? ⟨w.heap.size, 1, none⟩ = some (.int .i64 d0.ac) ∧ W.cell? ⟨w.heap.size, 2, none⟩ = some (.int .i64 d0.va) ∧ W.cell? ⟨w.heap.size + 1, 0, none⟩ = some (.int .i64 d1.ki) ∧ W.cell? ⟨w.heap.size + 1, 1, none⟩ = some (.int .i64 d1.ac) ∧ W.cell? ⟨w.heap.size + 1, 2, none⟩ = some (.int .i64 d1.va)) => CE.out W2 (h.1.out.trans (Wr.of_below hb (Nat.le_refl _))))
  clear x0 x1 x2 xf hlx y0 y1 y2 yf hly
  go_region_held3 (fun W => Hid (Wr [] w6.drew W) ∧ W.cell? ⟨w.heap.size, 0, none⟩ = some (.int .i64 d0.ki) ∧ W.cell? ⟨w.heap.size, 1, none⟩ = some (.int .i64 d0.ac) ∧ W.cell? ⟨w.heap.size, 2, none⟩ = some (.int .i64 d0.va) ∧ W.cell? ⟨w.heap.size + 1, 0, none⟩ = some (.int .i64 d1.ki) ∧ W.cell? ⟨w.heap.size + 1, 1, none⟩ = some (.int .i64 d1.ac) ∧ W.cell? ⟨w.heap.size + 1, 2, none⟩ = some (.int .i64 d1.va)) (first | exact INIT.out | exact KW.out _ _ (by assumption) (by assumption))
    (first
    | (go_at_call_of 5 (Value.agg #[Value.int IntKind.i64 d0.ki, Value.int IntKind.i64 d0.ac, Value.int IntKind.i64 d0.va]); refine (toLiteral_t d0 _ _ (by exact S7.out.old HR0.out) (by show szL _ ≤ _; simp [szL, cellsLt, Tr.sz])).mono ?_; rintro e w8 ⟨v8_, F8, rfl, o, h, bb8⟩; obtain rfl := rdLiteral_t (Tr.own_rd _ _ _ o); have S8 := Lib.hid (S7.out.new o h bb8); clear S7 o h)
    | (go_at_call_of 5 (Value.agg #[Value.int IntKind.i64 d1.ki, Value.int IntKind.i64 d1.ac, Value.int IntKind.i64 d1.va]); refine (toLiteral_t d1 _ _ (by exact S8.out.old HR1.out) (by show szL _ ≤ _; simp [szL, cellsLt, Tr.sz])).mono ?_; rintro e w9 ⟨v9_, F9, rfl, o, h, bb9⟩; obtain rfl := rdLiteral_t (Tr.own_rd _ _ _ o); have S9 := Lib.hid (S8.out.new o h bb9); clear S8 o h)
    | (go_at_call 6; refine (implCompare_any d0 d1 _).mono ?_; rintro e w10 ⟨rfl, bb10⟩; have S10 := Lib.hid (S9.out.go bb10); clear S9))
  rename_i hHeld
  clear hHeld CE INIT KW bb8 bb9 bb10
  go_wp2
  go_ret
  exact ⟨rfl, S10.out.1⟩
end Go.Proofs.Ytilcfbffjjdgnab
