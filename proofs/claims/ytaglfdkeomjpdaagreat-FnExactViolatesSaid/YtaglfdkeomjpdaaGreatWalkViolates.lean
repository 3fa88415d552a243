/- DERIVED. The walk of the law FnExactViolates, by contracts. -/
import Derived.Test.YtaglfdkeomjpdaaGreatRuZ
import Derived.Test.YtaglfdkeomjpdaaGreatRuJ
import Derived.Test.YtaglfdkeomjpdaaGreatTProject
import Derived.Test.YtaglfdkeomjpdaaGreatTSchedule
import Derived.Test.YtaglfdkeomjpdaaGreatTRule
import Derived.Deep.RegionWith
import Derived.Deep.RegionHeld3
namespace Go.Proofs.YtaglfdkeomjpdaaGreat
open Go.RowKit
set_option linter.unusedVariables false
set_option maxRecDepth 100000 in
set_option maxHeartbeats 4000000 in
theorem walkFnExactViolates (v0 : Value) (d0 : Pj) (v1 : Value) (d1 : Sc) (v2 : Value) (d2 : Ru) (w : World) (hr0 : (trPj d0).rd w v0) (hk0 : (trPj d0).ok) (hr1 : (trSc d1).rd w v1) (hk1 : (trSc d1).ok) (hr2 : (trRu d2).rd w v2) (hk2 : (trRu d2).ok) :
    Calls Tryz.prog 4 #[v0, v1, v2] w fun e w' => e = .returned (.bool true) ∧ Below w.heap.size w w' := by
  have HK0 := Lib.hid hk0
  have HR0 := Lib.hid hr0
  obtain ⟨U0_1, u0_1, U0_2, u0_2, U0_3, u0_3, U0_4, u0_4, rfl, _, _, _, _⟩ := rdProject_t hr0
  clear hk0 hr0
  have HK1 := Lib.hid hk1
  have HR1 := Lib.hid hr1
  obtain ⟨U1_0, u1_0, U1_1, u1_1, rfl, _, _⟩ := rdSchedule_t hr1
  clear hk1 hr1
  have HK2 := Lib.hid hk2
  have HR2 := Lib.hid hr2
  obtain rfl := rdRule_t hr2
  clear hk2 hr2
  have S0 := Lib.hid (Sn.start w)
  have S1 := Lib.hid (S0.out.box 27 [.int .i64 d0.dl, .slice U0_1 d0.acts.length u0_1, .slice U0_2 d0.lks.length u0_2, .slice U0_3 d0.ress.length u0_3, .slice U0_4 d0.stk.length u0_4])
  clear S0
  have S2 := Lib.hid (S1.out.box 43 [.slice U1_0 d1.st.length u1_0, .slice U1_1 d1.mo.length u1_1])
  clear S1
  have S3 := Lib.hid (S2.out.box 29 [.int .i64 d2.ki, .int .i64 d2.a, .int .i64 d2.b, .int .i64 d2.c])
  clear S2
  simp only [World.size_alloc] at S3
  go_enter Tryz.func4, Tryz.ntmps4
  go_wp2_with fail
  refine (szProject_t d0 _ (1048576) _ (by exact S3.out.old HR0.out) HK0.out (by omega) (by omega)).mono ?_
  rintro e w4 ⟨rfl, b⟩
  have S4 := Lib.hid (S3.out.go b)
  clear S3 b
  generalize hz0 : (trPj d0).sz = z0
  have HZ0 := Lib.hid hz0
  clear hz0
  by_cases hbig0 : (1048576 : Int) < (z0 : Int)
  · rw [if_pos hbig0]
    go_wp2
    go_ret
    exact ⟨rfl, S4.out.1⟩
  rw [if_neg hbig0]
  have hq0 : 0 ≤ (1048576 - (z0 : Int) : Int) := by omega
  have hb0 : z0 ≤ 1048576 := by omega
  obtain ⟨c0, c1, cf⟩ := (S4.out.bk 1 rfl).c2
  go_wp2_with fail
  clear c0 c1 cf
  refine (szSchedule_t d1 _ (1048576 - (z0 : Int)) _ (by exact S4.out.old HR1.out) HK1.out (by omega) (by omega)).mono ?_
  rintro e w5 ⟨rfl, b⟩
  have S5 := Lib.hid (S4.out.go b)
  clear S4 b
  generalize hz1 : (trSc d1).sz = z1
  have HZ1 := Lib.hid hz1
  clear hz1
  by_cases hbig1 : (1048576 - (z0 : Int) : Int) < (z1 : Int)
  · rw [if_pos hbig1]
    go_wp2
    go_ret
    exact ⟨rfl, S5.out.1⟩
  rw [if_neg hbig1]
  have hq1 : 0 ≤ (1048576 - (z0 : Int) - (z1 : Int) : Int) := by omega
  have hb1 : z1 ≤ 1048576 := by omega
  obtain ⟨x0, x1, x2, x3, x4, xf⟩ := (S5.out.bk 2 rfl).c5
  have hlx := (S5.out.bk 2 rfl).lt
  obtain ⟨y0, y1, yf⟩ := (S5.out.bk 1 rfl).c2
  have hly := (S5.out.bk 1 rfl).lt
  obtain ⟨z0, z1, z2, z3, zf⟩ := (S5.out.bk 0 rfl).c4
  have hlz := (S5.out.bk 0 rfl).lt
  have S6 := Lib.hid (S5.out.drew1)
  clear S5
  go_wp2_with fail
  have CE := Lib.hid (fun (W : World) (h : Wr [] w5.drew W) => show Hid (Wr [] w5.drew W) ∧ W.cell? ⟨w.heap.size, 0, none⟩ = some (.int .i64 d0.dl) ∧ W.cell? ⟨w.heap.size, 1, none⟩ = some (.slice U0_1 d0.acts.length u0_1) ∧ W.cell? ⟨w.heap.size, 2, none⟩ = some (.slice U0_2 d0.lks.length u0_2) ∧ W.cell? ⟨w.heap.size, 3, none⟩ = some (.slice U0_3 d0.ress.length u0_3) ∧ W.cell? ⟨w.heap.size, 4, none⟩ = some (.slice U0_4 d0.stk.length u0_4) ∧ W.cell? ⟨w.heap.size + 1, 0, none⟩ = some (.slice U1_0 d1.st.length u1_0) ∧ W.cell? ⟨w.heap.size + 1, 1, none⟩ = some (.slice U1_1 d1.mo.length u1_1) ∧ W.cell? ⟨w.heap.size + 1 + 1, 0, none⟩ = some (.int .i64 d2.ki) ∧ W.cell? ⟨w.heap.size + 1 + 1, 1, none⟩ = some (.int .i64 d2.a) ∧ W.cell? ⟨w.heap.size + 1 + 1, 2, none⟩ = some (.int .i64 d2.b) ∧ W.cell? ⟨w.heap.size + 1 + 1, 3, none⟩ = some (.int .i64 d2.c) from ⟨Lib.hid h, (wr_cell h (p := ⟨w.heap.size, 0, none⟩) hlx (by simp)).trans (by simpa using x0), (wr_cell h (p := ⟨w.heap.size, 1, none⟩) hlx (by simp)).trans (by simpa using x1), (wr_cell h (p := ⟨w.heap.size, 2, none⟩) hlx (by simp)).trans (by simpa using x2), (wr_cell h (p := ⟨w.heap.size, 3, none⟩) hlx (by simp)).trans (by simpa using x3), (wr_cell h (p := ⟨w.heap.size, 4, none⟩) hlx (by simp)).trans (by simpa using x4), (wr_cell h (p := ⟨w.heap.size + 1, 0, none⟩) hly (by simp)).trans (by simpa using y0), (wr_cell h (p := ⟨w.heap.size + 1, 1, none⟩) hly (by simp)).trans (by simpa using y1), (wr_cell h (p := ⟨w.heap.size + 1 + 1, 0, none⟩) hlz (by simp)).trans (by simpa using z0), (wr_cell h (p := ⟨w.heap.size + 1 + 1, 1, none⟩) hlz (by simp)).trans (by simpa using z1), (wr_cell h (p := ⟨w.heap.size + 1 + 1, 2, none⟩) hlz (by simp)).trans (by simpa using z2), (wr_cell h (p := ⟨w.heap.size + 1 + 1, 3, none⟩) hlz (by simp)).trans (by simpa using z3)⟩)
  have INIT := Lib.hid (CE.out _ (Wr.refl _ _))
  have KW := Lib.hid (fun (W2 W : World) (hb : Below W.heap.size W W2) (h : Hid (Wr [] w5.drew W) ∧ W.cell? ⟨w.heap.size, 0, none⟩ = some (.int .i64 d0.dl) ∧ W.cell? ⟨w.heap.size, 1, none⟩ = some (.slice U0_1 d0.acts.length u0_1) ∧ W.cell? ⟨w.heap.size, 2, none⟩ = some (.slice U0_2 d0.lks.length u0_2) ∧ W.cell? ⟨w.heap.size, 3, none⟩ = some (.slice U0_3 d0.ress.length u0_3) ∧ W.cell? ⟨w.heap.size, 4, none⟩ = some (.slice U0_4 d0.stk.length u0_4) ∧ W.cell? ⟨w.heap.size + 1, 0, none⟩ = some (.slice U1_0 d1.st.length u1_0) ∧ W.cell? ⟨w.heap.size + 1, 1, none⟩ = some (.slice U1_1 d1.mo.length u1_1) ∧ W.cell? ⟨w.heap.size + 1 + 1, 0, none⟩ = some (.int .i64 d2.ki) ∧ W.cell? ⟨w.heap.size + 1 + 1, 1, none⟩ = some (.int .i64 d2.a) ∧ W.cell? ⟨w.heap.size + 1 + 1, 2, none⟩ = some (.int .i64 d2.b) ∧ W.cell? ⟨w.heap.size + 1 + 1, 3, none⟩ = some (.int .i64 d2.c)) => CE.out W2 (h.1.out.trans (Wr.of_below hb (Nat.le_refl _))))
  clear x0 x1 x2 x3 x4 xf hlx y0 y1 yf hly z0 z1 z2 z3 zf hlz
  go_region_held3 (fun W => Hid (Wr [] w5.drew W) ∧ W.cell? ⟨w.heap.size, 0, none⟩ = some (.int .i64 d0.dl) ∧ W.cell? ⟨w.heap.size, 1, none⟩ = some (.slice U0_1 d0.acts.length u0_1) ∧ W.cell? ⟨w.heap.size, 2, none⟩ = some (.slice U0_2 d0.lks.length u0_2) ∧ W.cell? ⟨w.heap.size, 3, none⟩ = some (.slice U0_3 d0.ress.length u0_3) ∧ W.cell? ⟨w.heap.size, 4, none⟩ = some (.slice U0_4 d0.stk.length u0_4) ∧ W.cell? ⟨w.heap.size + 1, 0, none⟩ = some (.slice U1_0 d1.st.length u1_0) ∧ W.cell? ⟨w.heap.size + 1, 1, none⟩ = some (.slice U1_1 d1.mo.length u1_1) ∧ W.cell? ⟨w.heap.size + 1 + 1, 0, none⟩ = some (.int .i64 d2.ki) ∧ W.cell? ⟨w.heap.size + 1 + 1, 1, none⟩ = some (.int .i64 d2.a) ∧ W.cell? ⟨w.heap.size + 1 + 1, 2, none⟩ = some (.int .i64 d2.b) ∧ W.cell? ⟨w.heap.size + 1 + 1, 3, none⟩ = some (.int .i64 d2.c)) (first | exact INIT.out | exact KW.out _ _ (by assumption) (by assumption))
    (first
    | (go_at_call_of 9 (Value.agg #[Value.int IntKind.i64 d0.dl, Value.slice U0_1 d0.acts.length u0_1, Value.slice U0_2 d0.lks.length u0_2, Value.slice U0_3 d0.ress.length u0_3, Value.slice U0_4 d0.stk.length u0_4]); refine (toProject_t d0 _ _ (by exact S6.out.old HR0.out) (by have := HZ0.out; omega)).mono ?_; rintro e w7 ⟨v7_, F7, rfl, o, h, bb7⟩; have S7 := Lib.hid (S6.out.new o h bb7); clear S6 o h)
    | (go_at_call_of 15 (Value.agg #[Value.slice U1_0 d1.st.length u1_0, Value.slice U1_1 d1.mo.length u1_1]); refine (toSchedule_t d1 _ _ (by exact S7.out.old HR1.out) (by have := HZ1.out; omega)).mono ?_; rintro e w8 ⟨v8_, F8, rfl, o, h, bb8⟩; have S8 := Lib.hid (S7.out.new o h bb8); clear S7 o h)
    | (go_at_call_of 10 (Value.agg #[Value.int IntKind.i64 d2.ki, Value.int IntKind.i64 d2.a, Value.int IntKind.i64 d2.b, Value.int IntKind.i64 d2.c]); refine (toRule_t d2 _ _ (by exact S8.out.old HR2.out) (by show szL _ ≤ _; simp [szL, cellsRu, Tr.sz])).mono ?_; rintro e w9 ⟨v9_, F9, rfl, o, h, bb9⟩; obtain rfl := rdRule_t (Tr.own_rd _ _ _ o); have S9 := Lib.hid (S8.out.new o h bb9); clear S8 o h)
    | (go_at_call 14; refine (specViolates_any d0 d1 d2 _ _ _ (by exact S9.out.rd 2 rfl) HK0.out (by exact S9.out.rd 1 rfl)).mono ?_; rintro e w10 ⟨rfl, bb10⟩; have S10 := Lib.hid (S9.out.go bb10); clear S9))
  rename_i hHeld
  clear hHeld CE INIT KW bb7 bb8 bb9 bb10
  obtain ⟨c0, c1, c2, c3, c4, cf⟩ := (S10.out.bk 5 rfl).c5
  go_wp2_with fail
  clear c0 c1 c2 c3 c4 cf
  refine (toProject_t d0 _ _ (by exact S10.out.old HR0.out) (by have := HZ0.out; omega)).mono ?_
  rintro e w11 ⟨v11_, F11, rfl, o, h, b⟩
  obtain ⟨X11_1, x11_1, X11_2, x11_2, X11_3, x11_3, X11_4, x11_4, rfl, _, _, _, _⟩ := rdProject_t (Tr.own_rd _ _ _ o)
  have S11 := Lib.hid ((S10.out.new o h b).box 36 [.int .i64 d0.dl, .slice X11_1 d0.acts.length x11_1, .slice X11_2 d0.lks.length x11_2, .slice X11_3 d0.ress.length x11_3, .slice X11_4 d0.stk.length x11_4])
  clear S10 o h b
  obtain ⟨c0, c1, cf⟩ := (S11.out.bk 6 rfl).c2
  go_wp2_with fail
  clear c0 c1 cf
  refine (toSchedule_t d1 _ _ (by exact S11.out.old HR1.out) (by have := HZ1.out; omega)).mono ?_
  rintro e w12 ⟨v12_, F12, rfl, o, h, b⟩
  obtain ⟨X12_0, x12_0, X12_1, x12_1, rfl, _, _⟩ := rdSchedule_t (Tr.own_rd _ _ _ o)
  have S12 := Lib.hid ((S11.out.new o h b).box 46 [.slice X12_0 d1.st.length x12_0, .slice X12_1 d1.mo.length x12_1])
  clear S11 o h b
  obtain ⟨x0, x1, x2, x3, x4, xf⟩ := (S12.out.bk 2 rfl).c5
  have hlx := (S12.out.bk 2 rfl).lt
  obtain ⟨y0, y1, yf⟩ := (S12.out.bk 0 rfl).c2
  have hly := (S12.out.bk 0 rfl).lt
  obtain ⟨z0, z1, z2, z3, zf⟩ := (S12.out.bk 7 rfl).c4
  have hlz := (S12.out.bk 7 rfl).lt
  go_wp2_with fail
  generalize World.alloc w12 _ = wq at S12 x0 x1 x2 x3 x4 y0 y1 z0 z1 z2 z3 hlx hly hlz ⊢
  have S13 := Lib.hid (S12.out.drew1)
  clear S12
  have CE := Lib.hid (fun (W : World) (h : Wr [] wq.drew W) => show Hid (Wr [] wq.drew W) ∧ W.cell? ⟨w11.heap.size, 0, none⟩ = some (.int .i64 d0.dl) ∧ W.cell? ⟨w11.heap.size, 1, none⟩ = some (.slice X11_1 d0.acts.length x11_1) ∧ W.cell? ⟨w11.heap.size, 2, none⟩ = some (.slice X11_2 d0.lks.length x11_2) ∧ W.cell? ⟨w11.heap.size, 3, none⟩ = some (.slice X11_3 d0.ress.length x11_3) ∧ W.cell? ⟨w11.heap.size, 4, none⟩ = some (.slice X11_4 d0.stk.length x11_4) ∧ W.cell? ⟨w12.heap.size, 0, none⟩ = some (.slice X12_0 d1.st.length x12_0) ∧ W.cell? ⟨w12.heap.size, 1, none⟩ = some (.slice X12_1 d1.mo.length x12_1) ∧ W.cell? ⟨w.heap.size + 1 + 1, 0, none⟩ = some (.int .i64 d2.ki) ∧ W.cell? ⟨w.heap.size + 1 + 1, 1, none⟩ = some (.int .i64 d2.a) ∧ W.cell? ⟨w.heap.size + 1 + 1, 2, none⟩ = some (.int .i64 d2.b) ∧ W.cell? ⟨w.heap.size + 1 + 1, 3, none⟩ = some (.int .i64 d2.c) from ⟨Lib.hid h, (wr_cell h (p := ⟨w11.heap.size, 0, none⟩) hlx (by simp)).trans (by simpa using x0), (wr_cell h (p := ⟨w11.heap.size, 1, none⟩) hlx (by simp)).trans (by simpa using x1), (wr_cell h (p := ⟨w11.heap.size, 2, none⟩) hlx (by simp)).trans (by simpa using x2), (wr_cell h (p := ⟨w11.heap.size, 3, none⟩) hlx (by simp)).trans (by simpa using x3), (wr_cell h (p := ⟨w11.heap.size, 4, none⟩) hlx (by simp)).trans (by simpa using x4), (wr_cell h (p := ⟨w12.heap.size, 0, none⟩) hly (by simp)).trans (by simpa using y0), (wr_cell h (p := ⟨w12.heap.size, 1, none⟩) hly (by simp)).trans (by simpa using y1), (wr_cell h (p := ⟨w.heap.size + 1 + 1, 0, none⟩) hlz (by simp)).trans (by simpa using z0), (wr_cell h (p := ⟨w.heap.size + 1 + 1, 1, none⟩) hlz (by simp)).trans (by simpa using z1), (wr_cell h (p := ⟨w.heap.size + 1 + 1, 2, none⟩) hlz (by simp)).trans (by simpa using z2), (wr_cell h (p := ⟨w.heap.size + 1 + 1, 3, none⟩) hlz (by simp)).trans (by simpa using z3)⟩)
  have INIT := Lib.hid (CE.out _ (Wr.refl _ _))
  have KW := Lib.hid (fun (W2 W : World) (hb : Below W.heap.size W W2) (h : Hid (Wr [] wq.drew W) ∧ W.cell? ⟨w11.heap.size, 0, none⟩ = some (.int .i64 d0.dl) ∧ W.cell? ⟨w11.heap.size, 1, none⟩ = some (.slice X11_1 d0.acts.length x11_1) ∧ W.cell? ⟨w11.heap.size, 2, none⟩ = some (.slice X11_2 d0.lks.length x11_2) ∧ W.cell? ⟨w11.heap.size, 3, none⟩ = some (.slice X11_3 d0.ress.length x11_3) ∧ W.cell? ⟨w11.heap.size, 4, none⟩ = some (.slice X11_4 d0.stk.length x11_4) ∧ W.cell? ⟨w12.heap.size, 0, none⟩ = some (.slice X12_0 d1.st.length x12_0) ∧ W.cell? ⟨w12.heap.size, 1, none⟩ = some (.slice X12_1 d1.mo.length x12_1) ∧ W.cell? ⟨w.heap.size + 1 + 1, 0, none⟩ = some (.int .i64 d2.ki) ∧ W.cell? ⟨w.heap.size + 1 + 1, 1, none⟩ = some (.int .i64 d2.a) ∧ W.cell? ⟨w.heap.size + 1 + 1, 2, none⟩ = some (.int .i64 d2.b) ∧ W.cell? ⟨w.heap.size + 1 + 1, 3, none⟩ = some (.int .i64 d2.c)) => CE.out W2 (h.1.out.trans (Wr.of_below hb (Nat.le_refl _))))
  clear x0 x1 x2 x3 x4 xf hlx y0 y1 yf hly z0 z1 z2 z3 zf hlz
  go_region_held3 (fun W => Hid (Wr [] wq.drew W) ∧ W.cell? ⟨w11.heap.size, 0, none⟩ = some (.int .i64 d0.dl) ∧ W.cell? ⟨w11.heap.size, 1, none⟩ = some (.slice X11_1 d0.acts.length x11_1) ∧ W.cell? ⟨w11.heap.size, 2, none⟩ = some (.slice X11_2 d0.lks.length x11_2) ∧ W.cell? ⟨w11.heap.size, 3, none⟩ = some (.slice X11_3 d0.ress.length x11_3) ∧ W.cell? ⟨w11.heap.size, 4, none⟩ = some (.slice X11_4 d0.stk.length x11_4) ∧ W.cell? ⟨w12.heap.size, 0, none⟩ = some (.slice X12_0 d1.st.length x12_0) ∧ W.cell? ⟨w12.heap.size, 1, none⟩ = some (.slice X12_1 d1.mo.length x12_1) ∧ W.cell? ⟨w.heap.size + 1 + 1, 0, none⟩ = some (.int .i64 d2.ki) ∧ W.cell? ⟨w.heap.size + 1 + 1, 1, none⟩ = some (.int .i64 d2.a) ∧ W.cell? ⟨w.heap.size + 1 + 1, 2, none⟩ = some (.int .i64 d2.b) ∧ W.cell? ⟨w.heap.size + 1 + 1, 3, none⟩ = some (.int .i64 d2.c)) (first | exact INIT.out | exact KW.out _ _ (by assumption) (by assumption))
    (first
    | (go_at_call_of 10 (Value.agg #[Value.int IntKind.i64 d2.ki, Value.int IntKind.i64 d2.a, Value.int IntKind.i64 d2.b, Value.int IntKind.i64 d2.c]); refine (toRule_t d2 _ _ (by exact S13.out.old HR2.out) (by show szL _ ≤ _; simp [szL, cellsRu, Tr.sz])).mono ?_; rintro e w14 ⟨v14_, F14, rfl, o, h, bb14⟩; obtain rfl := rdRule_t (Tr.own_rd _ _ _ o); have S14 := Lib.hid (S13.out.new o h bb14); clear S13 o h)
    | (go_at_call 16; refine (implViolates_any d0 d1 d2 _ _ _ (by exact S14.out.rd 4 rfl) HK0.out (by exact S14.out.rd 2 rfl)).mono ?_; rintro e w15 ⟨rfl, bb15⟩; have S15 := Lib.hid (S14.out.go bb15); clear S14))
  rename_i hHeld
  clear hHeld CE INIT KW bb14 bb15
  obtain ⟨c0, c1, c2, c3, c4, cf⟩ := (S15.out.bk 3 rfl).c5
  obtain ⟨g0, g1, g2, g3, g4, gf⟩ := (S15.out.bk 10 rfl).c5
  have hlc := (S15.out.bk 3 rfl).lt
  have hlg := (S15.out.bk 10 rfl).lt
  have S16 := Lib.hid (S15.out.drew1)
  clear S15
  go_wp2_with fail
  have CE := Lib.hid (fun (W : World) (h : Wr [] w15.drew W) => show Hid (Wr [] w15.drew W) ∧ W.cell? ⟨w11.heap.size, 0, none⟩ = some (.int .i64 d0.dl) ∧ W.cell? ⟨w11.heap.size, 1, none⟩ = some (.slice X11_1 d0.acts.length x11_1) ∧ W.cell? ⟨w11.heap.size, 2, none⟩ = some (.slice X11_2 d0.lks.length x11_2) ∧ W.cell? ⟨w11.heap.size, 3, none⟩ = some (.slice X11_3 d0.ress.length x11_3) ∧ W.cell? ⟨w11.heap.size, 4, none⟩ = some (.slice X11_4 d0.stk.length x11_4) ∧ W.cell? ⟨w.heap.size, 0, none⟩ = some (.int .i64 d0.dl) ∧ W.cell? ⟨w.heap.size, 1, none⟩ = some (.slice U0_1 d0.acts.length u0_1) ∧ W.cell? ⟨w.heap.size, 2, none⟩ = some (.slice U0_2 d0.lks.length u0_2) ∧ W.cell? ⟨w.heap.size, 3, none⟩ = some (.slice U0_3 d0.ress.length u0_3) ∧ W.cell? ⟨w.heap.size, 4, none⟩ = some (.slice U0_4 d0.stk.length u0_4) from ⟨Lib.hid h, (wr_cell h (p := ⟨w11.heap.size, 0, none⟩) hlc (by simp)).trans (by simpa using c0), (wr_cell h (p := ⟨w11.heap.size, 1, none⟩) hlc (by simp)).trans (by simpa using c1), (wr_cell h (p := ⟨w11.heap.size, 2, none⟩) hlc (by simp)).trans (by simpa using c2), (wr_cell h (p := ⟨w11.heap.size, 3, none⟩) hlc (by simp)).trans (by simpa using c3), (wr_cell h (p := ⟨w11.heap.size, 4, none⟩) hlc (by simp)).trans (by simpa using c4), (wr_cell h (p := ⟨w.heap.size, 0, none⟩) hlg (by simp)).trans (by simpa using g0), (wr_cell h (p := ⟨w.heap.size, 1, none⟩) hlg (by simp)).trans (by simpa using g1), (wr_cell h (p := ⟨w.heap.size, 2, none⟩) hlg (by simp)).trans (by simpa using g2), (wr_cell h (p := ⟨w.heap.size, 3, none⟩) hlg (by simp)).trans (by simpa using g3), (wr_cell h (p := ⟨w.heap.size, 4, none⟩) hlg (by simp)).trans (by simpa using g4)⟩)
  have INIT := Lib.hid (CE.out _ (Wr.refl _ _))
  have KW := Lib.hid (fun (W2 W : World) (hb : Below W.heap.size W W2) (h : Hid (Wr [] w15.drew W) ∧ W.cell? ⟨w11.heap.size, 0, none⟩ = some (.int .i64 d0.dl) ∧ W.cell? ⟨w11.heap.size, 1, none⟩ = some (.slice X11_1 d0.acts.length x11_1) ∧ W.cell? ⟨w11.heap.size, 2, none⟩ = some (.slice X11_2 d0.lks.length x11_2) ∧ W.cell? ⟨w11.heap.size, 3, none⟩ = some (.slice X11_3 d0.ress.length x11_3) ∧ W.cell? ⟨w11.heap.size, 4, none⟩ = some (.slice X11_4 d0.stk.length x11_4) ∧ W.cell? ⟨w.heap.size, 0, none⟩ = some (.int .i64 d0.dl) ∧ W.cell? ⟨w.heap.size, 1, none⟩ = some (.slice U0_1 d0.acts.length u0_1) ∧ W.cell? ⟨w.heap.size, 2, none⟩ = some (.slice U0_2 d0.lks.length u0_2) ∧ W.cell? ⟨w.heap.size, 3, none⟩ = some (.slice U0_3 d0.ress.length u0_3) ∧ W.cell? ⟨w.heap.size, 4, none⟩ = some (.slice U0_4 d0.stk.length u0_4)) => CE.out W2 (h.1.out.trans (Wr.of_below hb (Nat.le_refl _))))
  clear c0 c1 c2 c3 c4 cf g0 g1 g2 g3 g4 gf hlc hlg
  go_region_held3 (fun W => Hid (Wr [] w15.drew W) ∧ W.cell? ⟨w11.heap.size, 0, none⟩ = some (.int .i64 d0.dl) ∧ W.cell? ⟨w11.heap.size, 1, none⟩ = some (.slice X11_1 d0.acts.length x11_1) ∧ W.cell? ⟨w11.heap.size, 2, none⟩ = some (.slice X11_2 d0.lks.length x11_2) ∧ W.cell? ⟨w11.heap.size, 3, none⟩ = some (.slice X11_3 d0.ress.length x11_3) ∧ W.cell? ⟨w11.heap.size, 4, none⟩ = some (.slice X11_4 d0.stk.length x11_4) ∧ W.cell? ⟨w.heap.size, 0, none⟩ = some (.int .i64 d0.dl) ∧ W.cell? ⟨w.heap.size, 1, none⟩ = some (.slice U0_1 d0.acts.length u0_1) ∧ W.cell? ⟨w.heap.size, 2, none⟩ = some (.slice U0_2 d0.lks.length u0_2) ∧ W.cell? ⟨w.heap.size, 3, none⟩ = some (.slice U0_3 d0.ress.length u0_3) ∧ W.cell? ⟨w.heap.size, 4, none⟩ = some (.slice U0_4 d0.stk.length u0_4)) (first | exact INIT.out | exact KW.out _ _ (by assumption) (by assumption))
    (first
    | (go_at_call 9; refine (toProject_t d0 _ _ (by exact S16.out.old HR0.out) (by have := HZ0.out; omega)).mono ?_; rintro e w17 ⟨v17_, F17, rfl, o, h, bb1⟩; have S17 := Lib.hid (S16.out.new o h bb1); clear S16 o h)
    | (go_at_call 12; refine (eqProject_t d0 _ _ _ (by exact S17.out.rd 5 rfl) (by exact S17.out.rd 0 rfl)).mono ?_; rintro e w18 ⟨rfl, bb2⟩; have S18 := Lib.hid (S17.out.go bb2); clear S17))
  rename_i hHeld
  clear hHeld CE INIT KW bb1 bb2
  obtain ⟨c0, c1, cf⟩ := (S18.out.bk 2 rfl).c2
  obtain ⟨g0, g1, gf⟩ := (S18.out.bk 10 rfl).c2
  have hlc := (S18.out.bk 2 rfl).lt
  have hlg := (S18.out.bk 10 rfl).lt
  have S19 := Lib.hid (S18.out.drew1)
  clear S18
  go_wp2_with fail
  have CE := Lib.hid (fun (W : World) (h : Wr [] w18.drew W) => show Hid (Wr [] w18.drew W) ∧ W.cell? ⟨w12.heap.size, 0, none⟩ = some (.slice X12_0 d1.st.length x12_0) ∧ W.cell? ⟨w12.heap.size, 1, none⟩ = some (.slice X12_1 d1.mo.length x12_1) ∧ W.cell? ⟨w.heap.size + 1, 0, none⟩ = some (.slice U1_0 d1.st.length u1_0) ∧ W.cell? ⟨w.heap.size + 1, 1, none⟩ = some (.slice U1_1 d1.mo.length u1_1) from ⟨Lib.hid h, (wr_cell h (p := ⟨w12.heap.size, 0, none⟩) hlc (by simp)).trans (by simpa using c0), (wr_cell h (p := ⟨w12.heap.size, 1, none⟩) hlc (by simp)).trans (by simpa using c1), (wr_cell h (p := ⟨w.heap.size + 1, 0, none⟩) hlg (by simp)).trans (by simpa using g0), (wr_cell h (p := ⟨w.heap.size + 1, 1, none⟩) hlg (by simp)).trans (by simpa using g1)⟩)
  have INIT := Lib.hid (CE.out _ (Wr.refl _ _))
  have KW := Lib.hid (fun (W2 W : World) (hb : Below W.heap.size W W2) (h : Hid (Wr [] w18.drew W) ∧ W.cell? ⟨w12.heap.size, 0, none⟩ = some (.slice X12_0 d1.st.length x12_0) ∧ W.cell? ⟨w12.heap.size, 1, none⟩ = some (.slice X12_1 d1.mo.length x12_1) ∧ W.cell? ⟨w.heap.size + 1, 0, none⟩ = some (.slice U1_0 d1.st.length u1_0) ∧ W.cell? ⟨w.heap.size + 1, 1, none⟩ = some (.slice U1_1 d1.mo.length u1_1)) => CE.out W2 (h.1.out.trans (Wr.of_below hb (Nat.le_refl _))))
  clear c0 c1 cf g0 g1 gf hlc hlg
  go_region_held3 (fun W => Hid (Wr [] w18.drew W) ∧ W.cell? ⟨w12.heap.size, 0, none⟩ = some (.slice X12_0 d1.st.length x12_0) ∧ W.cell? ⟨w12.heap.size, 1, none⟩ = some (.slice X12_1 d1.mo.length x12_1) ∧ W.cell? ⟨w.heap.size + 1, 0, none⟩ = some (.slice U1_0 d1.st.length u1_0) ∧ W.cell? ⟨w.heap.size + 1, 1, none⟩ = some (.slice U1_1 d1.mo.length u1_1)) (first | exact INIT.out | exact KW.out _ _ (by assumption) (by assumption))
    (first
    | (go_at_call 15; refine (toSchedule_t d1 _ _ (by exact S19.out.old HR1.out) (by have := HZ1.out; omega)).mono ?_; rintro e w20 ⟨v20_, F20, rfl, o, h, bb1⟩; have S20 := Lib.hid (S19.out.new o h bb1); clear S19 o h)
    | (go_at_call 17; refine (eqSchedule_t d1 _ _ _ (by exact S20.out.rd 4 rfl) (by exact S20.out.rd 0 rfl)).mono ?_; rintro e w21 ⟨rfl, bb2⟩; have S21 := Lib.hid (S20.out.go bb2); clear S20))
  rename_i hHeld
  clear hHeld CE INIT KW bb1 bb2
  go_wp2
  go_ret
  exact ⟨rfl, S21.out.1⟩
end Go.Proofs.YtaglfdkeomjpdaaGreat
