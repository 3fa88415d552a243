/- DERIVED. The walk of the law FnExactLiteralHolds, by contracts. -/
import Derived.Test.YtilcfbffjjdgnaaLtH
import Derived.Test.YtilcfbffjjdgnaaTLiteral
import Derived.Test.YtilcfbffjjdgnaaTSchedule
import Derived.Deep.RegionWith
import Derived.Deep.RegionHeld3
namespace Go.Proofs.Ytilcfbffjjdgnaa
open Go.RowKit
set_option linter.unusedVariables false
set_option maxRecDepth 100000 in
set_option maxHeartbeats 4000000 in
theorem walkFnExactLiteralHolds (v0 : Value) (d0 : Lt) (v1 : Value) (d1 : Sc) (w : World) (hr0 : (trLt d0).rd w v0) (hk0 : (trLt d0).ok) (hr1 : (trSc d1).rd w v1) (hk1 : (trSc d1).ok) :
    Calls Try.prog 6 #[v0, v1] w fun e w' => e = .returned (.bool true) ∧ Below w.heap.size w w' := by
  have HK0 := Lib.hid hk0
  have HR0 := Lib.hid hr0
  obtain rfl := rdLiteral_t hr0
  clear hk0 hr0
  have HK1 := Lib.hid hk1
  have HR1 := Lib.hid hr1
  obtain ⟨U1_0, u1_0, U1_1, u1_1, rfl, _, _⟩ := rdSchedule_t hr1
  clear hk1 hr1
  have S0 := Lib.hid (Sn.start w)
  have S1 := Lib.hid (S0.out.box 47 [.int .i64 d0.ki, .int .i64 d0.ac, .int .i64 d0.va])
  clear S0
  have S2 := Lib.hid (S1.out.box 55 [.slice U1_0 d1.st.length u1_0, .slice U1_1 d1.mo.length u1_1])
  clear S1
  simp only [World.size_alloc] at S2
  go_enter Try.func6, Try.ntmps6
  go_wp2_with fail
  refine (szSchedule_t d1 _ (1048576) _ (by exact S2.out.old HR1.out) HK1.out (by omega) (by omega)).mono ?_
  rintro e w3 ⟨rfl, b⟩
  have S3 := Lib.hid (S2.out.go b)
  clear S2 b
  generalize hz1 : (trSc d1).sz = z1
  have HZ1 := Lib.hid hz1
  clear hz1
  by_cases hbig1 : (1048576 : Int) < (z1 : Int)
  · rw [if_pos hbig1]
    go_wp2
    go_ret
    exact ⟨rfl, S3.out.1⟩
  rw [if_neg hbig1]
  have hq1 : 0 ≤ (1048576 - (z1 : Int) : Int) := by omega
  have hb1 : z1 ≤ 1048576 := by omega
  obtain ⟨x0, x1, x2, xf⟩ := (S3.out.bk 1 rfl).c3
  have hlx := (S3.out.bk 1 rfl).lt
  obtain ⟨y0, y1, yf⟩ := (S3.out.bk 0 rfl).c2
  have hly := (S3.out.bk 0 rfl).lt
  have S4 := Lib.hid (S3.out.drew1)
  clear S3
  go_wp2_with fail
  have CE := Lib.hid (fun (W : World) (h : Wr [] w3.drew W) => show Hid (Wr [] w3.drew W) ∧ W.cell? ⟨w.heap.size, 0, none⟩ = some (.int .i64 d0.ki) ∧ W.cell? ⟨w.heap.size, 1, none⟩ = some (.int .i64 d0.ac) ∧ W.cell? ⟨w.heap.size, 2, none⟩ = some (.int .i64 d0.va) ∧ W.cell? ⟨w.heap.size + 1, 0, none⟩ = some (.slice U1_0 d1.st.length u1_0) ∧ W.cell? ⟨w.heap.size + 1, 1, none⟩ = some (.slice U1_1 d1.mo.length u1_1) from ⟨Lib.hid h, (wr_cell h (p := ⟨w.heap.size, 0, none⟩) hlx (by simp)).trans (by simpa using x0), (wr_cell h (p := ⟨w.heap.size, 1, none⟩) hlx (by simp)).trans (by simpa using x1), (wr_cell h (p := ⟨w.heap.size, 2, none⟩) hlx (by simp)).trans (by simpa using x2), (wr_cell h (p := ⟨w.heap.size + 1, 0, none⟩) hly (by simp)).trans (by simpa using y0), (wr_cell h (p := ⟨w.heap.size + 1, 1, none⟩) hly (by simp)).trans (by simpa using y1)⟩)
  have INIT := Lib.hid (CE.out _ (Wr.refl _ _))
  have KW := Lib.hid (fun (W2 W : World) (hb : Below W.heap.size W W2) (h : Hid (Wr [] w3.drew W) ∧ W.cell? ⟨w.heap.size, 0, none⟩ = some (.int .i64 d0.ki) ∧ W.cell? ⟨w.heap.size, 1, none⟩ = some (.int .i64 d0.ac) ∧ W.cell? ⟨w.heap.size, 2, none⟩ = some (.int .i64 d0.va) ∧ W.cell? ⟨w.heap.size + 1, 0, none⟩ = some (.slice U1_0 d1.st.length u1_0) ∧ W.cell? ⟨w.heap.size + 1, 1, none⟩ = some (.slice U1_1 d1.mo.length u1_1)) => CE.out W2 (h.1.out.trans (Wr.of_below hb (Nat.le_refl _))))
  clear x0 x1 x2 xf hlx y0 y1 yf hly
  go_region_held3 (fun W => Hid (Wr [] w3.drew W) ∧ W.cell? ⟨w.heap.size, 0, none⟩ = some (.int .i64 d0.ki) ∧ W.cell? ⟨w.heap.size, 1, none⟩ = some (.int .i64 d0.ac) ∧ W.cell? ⟨w.heap.size, 2, none⟩ = some (.int .i64 d0.va) ∧ W.cell? ⟨w.heap.size + 1, 0, none⟩ = some (.slice U1_0 d1.st.length u1_0) ∧ W.cell? ⟨w.heap.size + 1, 1, none⟩ = some (.slice U1_1 d1.mo.length u1_1)) (first | exact INIT.out | exact KW.out _ _ (by assumption) (by assumption))
    (first
    | (go_at_call_of 19 (Value.agg #[Value.int IntKind.i64 d0.ki, Value.int IntKind.i64 d0.ac, Value.int IntKind.i64 d0.va]); refine (toLiteral_t d0 _ _ (by exact S4.out.old HR0.out) (by show szL _ ≤ _; simp [szL, cellsLt, Tr.sz])).mono ?_; rintro e w5 ⟨v5_, F5, rfl, o, h, bb5⟩; obtain rfl := rdLiteral_t (Tr.own_rd _ _ _ o); have S5 := Lib.hid (S4.out.new o h bb5); clear S4 o h)
    | (go_at_call_of 25 (Value.agg #[Value.slice U1_0 d1.st.length u1_0, Value.slice U1_1 d1.mo.length u1_1]); refine (toSchedule_t d1 _ _ (by exact S5.out.old HR1.out) (by have := HZ1.out; omega)).mono ?_; rintro e w6 ⟨v6_, F6, rfl, o, h, bb6⟩; have S6 := Lib.hid (S5.out.new o h bb6); clear S5 o h)
    | (go_at_call 24; refine (specHolds_any d0 d1 _ _ (by exact S6.out.rd 0 rfl)).mono ?_; rintro e w7 ⟨rfl, bb7⟩; have S7 := Lib.hid (S6.out.go bb7); clear S6))
  rename_i hHeld
  clear hHeld CE INIT KW bb5 bb6 bb7
  obtain ⟨c0, c1, cf⟩ := (S7.out.bk 2 rfl).c2
  go_wp2_with fail
  clear c0 c1 cf
  refine (toSchedule_t d1 _ _ (by exact S7.out.old HR1.out) (by have := HZ1.out; omega)).mono ?_
  rintro e w8 ⟨v8_, F8, rfl, o, h, b⟩
  obtain ⟨X8_0, x8_0, X8_1, x8_1, rfl, _, _⟩ := rdSchedule_t (Tr.own_rd _ _ _ o)
  have S8 := Lib.hid ((S7.out.new o h b).box 31 [.slice X8_0 d1.st.length x8_0, .slice X8_1 d1.mo.length x8_1])
  clear S7 o h b
  obtain ⟨x0, x1, x2, xf⟩ := (S8.out.bk 5 rfl).c3
  have hlx := (S8.out.bk 5 rfl).lt
  obtain ⟨y0, y1, yf⟩ := (S8.out.bk 0 rfl).c2
  have hly := (S8.out.bk 0 rfl).lt
  go_wp2_with fail
  generalize World.alloc w8 _ = wq at S8 x0 x1 x2 y0 y1 hlx hly ⊢
  have S9 := Lib.hid (S8.out.drew1)
  clear S8
  have CE := Lib.hid (fun (W : World) (h : Wr [] wq.drew W) => show Hid (Wr [] wq.drew W) ∧ W.cell? ⟨w.heap.size, 0, none⟩ = some (.int .i64 d0.ki) ∧ W.cell? ⟨w.heap.size, 1, none⟩ = some (.int .i64 d0.ac) ∧ W.cell? ⟨w.heap.size, 2, none⟩ = some (.int .i64 d0.va) ∧ W.cell? ⟨w8.heap.size, 0, none⟩ = some (.slice X8_0 d1.st.length x8_0) ∧ W.cell? ⟨w8.heap.size, 1, none⟩ = some (.slice X8_1 d1.mo.length x8_1) from ⟨Lib.hid h, (wr_cell h (p := ⟨w.heap.size, 0, none⟩) hlx (by simp)).trans (by simpa using x0), (wr_cell h (p := ⟨w.heap.size, 1, none⟩) hlx (by simp)).trans (by simpa using x1), (wr_cell h (p := ⟨w.heap.size, 2, none⟩) hlx (by simp)).trans (by simpa using x2), (wr_cell h (p := ⟨w8.heap.size, 0, none⟩) hly (by simp)).trans (by simpa using y0), (wr_cell h (p := ⟨w8.heap.size, 1, none⟩) hly (by simp)).trans (by simpa using y1)⟩)
  have INIT := Lib.hid (CE.out _ (Wr.refl _ _))
  have KW := Lib.hid (fun (W2 W : World) (hb : Below W.heap.size W W2) (h : Hid (Wr [] wq.drew W) ∧ W.cell? ⟨w.heap.size, 0, none⟩ = some (.int .i64 d0.ki) ∧ W.cell? ⟨w.heap.size, 1, none⟩ = some (.int .i64 d0.ac) ∧ W.cell? ⟨w.heap.size, 2, none⟩ = some (.int .i64 d0.va) ∧ W.cell? ⟨w8.heap.size, 0, none⟩ = some (.slice X8_0 d1.st.length x8_0) ∧ W.cell? ⟨w8.heap.size, 1, none⟩ = some (.slice X8_1 d1.mo.length x8_1)) => CE.out W2 (h.1.out.trans (Wr.of_below hb (Nat.le_refl _))))
  clear x0 x1 x2 xf hlx y0 y1 yf hly
  go_region_held3 (fun W => Hid (Wr [] wq.drew W) ∧ W.cell? ⟨w.heap.size, 0, none⟩ = some (.int .i64 d0.ki) ∧ W.cell? ⟨w.heap.size, 1, none⟩ = some (.int .i64 d0.ac) ∧ W.cell? ⟨w.heap.size, 2, none⟩ = some (.int .i64 d0.va) ∧ W.cell? ⟨w8.heap.size, 0, none⟩ = some (.slice X8_0 d1.st.length x8_0) ∧ W.cell? ⟨w8.heap.size, 1, none⟩ = some (.slice X8_1 d1.mo.length x8_1)) (first | exact INIT.out | exact KW.out _ _ (by assumption) (by assumption))
    (first
    | (go_at_call_of 19 (Value.agg #[Value.int IntKind.i64 d0.ki, Value.int IntKind.i64 d0.ac, Value.int IntKind.i64 d0.va]); refine (toLiteral_t d0 _ _ (by exact S9.out.old HR0.out) (by show szL _ ≤ _; simp [szL, cellsLt, Tr.sz])).mono ?_; rintro e w10 ⟨v10_, F10, rfl, o, h, bb10⟩; obtain rfl := rdLiteral_t (Tr.own_rd _ _ _ o); have S10 := Lib.hid (S9.out.new o h bb10); clear S9 o h)
    | (go_at_call 13; refine (implHolds_any d0 d1 _ _ (by exact S10.out.rd 2 rfl)).mono ?_; rintro e w11 ⟨rfl, bb11⟩; have S11 := Lib.hid (S10.out.go bb11); clear S10))
  rename_i hHeld
  clear hHeld CE INIT KW bb10 bb11
  obtain ⟨c0, c1, cf⟩ := (S11.out.bk 1 rfl).c2
  obtain ⟨g0, g1, gf⟩ := (S11.out.bk 5 rfl).c2
  have hlc := (S11.out.bk 1 rfl).lt
  have hlg := (S11.out.bk 5 rfl).lt
  have S12 := Lib.hid (S11.out.drew1)
  clear S11
  go_wp2_with fail
  have CE := Lib.hid (fun (W : World) (h : Wr [] w11.drew W) => show Hid (Wr [] w11.drew W) ∧ W.cell? ⟨w8.heap.size, 0, none⟩ = some (.slice X8_0 d1.st.length x8_0) ∧ W.cell? ⟨w8.heap.size, 1, none⟩ = some (.slice X8_1 d1.mo.length x8_1) ∧ W.cell? ⟨w.heap.size + 1, 0, none⟩ = some (.slice U1_0 d1.st.length u1_0) ∧ W.cell? ⟨w.heap.size + 1, 1, none⟩ = some (.slice U1_1 d1.mo.length u1_1) from ⟨Lib.hid h, (wr_cell h (p := ⟨w8.heap.size, 0, none⟩) hlc (by simp)).trans (by simpa using c0), (wr_cell h (p := ⟨w8.heap.size, 1, none⟩) hlc (by simp)).trans (by simpa using c1), (wr_cell h (p := ⟨w.heap.size + 1, 0, none⟩) hlg (by simp)).trans (by simpa using g0), (wr_cell h (p := ⟨w.heap.size + 1, 1, none⟩) hlg (by simp)).trans (by simpa using g1)⟩)
  have INIT := Lib.hid (CE.out _ (Wr.refl _ _))
  have KW := Lib.hid (fun (W2 W : World) (hb : Below W.heap.size W W2) (h : Hid (Wr [] w11.drew W) ∧ W.cell? ⟨w8.heap.size, 0, none⟩ = some (.slice X8_0 d1.st.length x8_0) ∧ W.cell? ⟨w8.heap.size, 1, none⟩ = some (.slice X8_1 d1.mo.length x8_1) ∧ W.cell? ⟨w.heap.size + 1, 0, none⟩ = some (.slice U1_0 d1.st.length u1_0) ∧ W.cell? ⟨w.heap.size + 1, 1, none⟩ = some (.slice U1_1 d1.mo.length u1_1)) => CE.out W2 (h.1.out.trans (Wr.of_below hb (Nat.le_refl _))))
  clear c0 c1 cf g0 g1 gf hlc hlg
  go_region_held3 (fun W => Hid (Wr [] w11.drew W) ∧ W.cell? ⟨w8.heap.size, 0, none⟩ = some (.slice X8_0 d1.st.length x8_0) ∧ W.cell? ⟨w8.heap.size, 1, none⟩ = some (.slice X8_1 d1.mo.length x8_1) ∧ W.cell? ⟨w.heap.size + 1, 0, none⟩ = some (.slice U1_0 d1.st.length u1_0) ∧ W.cell? ⟨w.heap.size + 1, 1, none⟩ = some (.slice U1_1 d1.mo.length u1_1)) (first | exact INIT.out | exact KW.out _ _ (by assumption) (by assumption))
    (first
    | (go_at_call 25; refine (toSchedule_t d1 _ _ (by exact S12.out.old HR1.out) (by have := HZ1.out; omega)).mono ?_; rintro e w13 ⟨v13_, F13, rfl, o, h, bb1⟩; have S13 := Lib.hid (S12.out.new o h bb1); clear S12 o h)
    | (go_at_call 26; refine (eqSchedule_t d1 _ _ _ (by exact S13.out.rd 3 rfl) (by exact S13.out.rd 0 rfl)).mono ?_; rintro e w14 ⟨rfl, bb2⟩; have S14 := Lib.hid (S13.out.go bb2); clear S13))
  rename_i hHeld
  clear hHeld CE INIT KW bb1 bb2
  go_wp2
  go_ret
  exact ⟨rfl, S14.out.1⟩
end Go.Proofs.Ytilcfbffjjdgnaa
