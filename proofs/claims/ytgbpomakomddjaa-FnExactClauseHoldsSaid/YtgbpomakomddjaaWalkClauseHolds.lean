/- DERIVED. The walk of the law FnExactClauseHolds, by contracts. -/
import Derived.Test.YtgbpomakomddjaaClH
import Derived.Test.YtgbpomakomddjaaTFl
import Derived.Deep.RegionWith
import Derived.Deep.RegionHeld3
namespace Go.Proofs.Ytgbpomakomddjaa
open Go.RowKit
set_option linter.unusedVariables false
set_option maxRecDepth 100000 in
set_option maxHeartbeats 4000000 in
theorem walkFnExactClauseHolds (v0 : Value) (d0 : List Lt) (v1 : Value) (d1 : Sc) (w : World) (hr0 : (trLts d0).rd w v0) (hk0 : (trLts d0).ok) (hr1 : (trSc d1).rd w v1) (hk1 : (trSc d1).ok) :
    Calls Try.prog 6 #[v0, v1] w fun e w' => e = .returned (.bool true) ∧ Below w.heap.size w w' := by
  have HK0 := Lib.hid hk0
  have HR0 := Lib.hid hr0
  obtain ⟨U0, u0, rfl⟩ := rows_slice hr0
  clear hk0 hr0
  have HK1 := Lib.hid hk1
  have HR1 := Lib.hid hr1
  obtain ⟨U1_0, u1_0, U1_1, u1_1, rfl, _, _⟩ := rdSchedule_t hr1
  clear hk1 hr1
  have S0 := Lib.hid (Sn.start w)
  have S1 := Lib.hid (S0.out.box 35 [.slice U1_0 d1.st.length u1_0, .slice U1_1 d1.mo.length u1_1])
  clear S0
  go_enter Try.func6, Try.ntmps6
  go_wp2_with fail
  refine (szLiteralS_t d0 _ (1048576) _ (by exact S1.out.old HR0.out) HK0.out (by omega) (by omega)).mono ?_
  rintro e w2 ⟨rfl, b⟩
  have S2 := Lib.hid (S1.out.go b)
  clear S1 b
  generalize hz0 : (trLts d0).sz = z0
  have HZ0 := Lib.hid hz0
  clear hz0
  by_cases hbig0 : (1048576 : Int) < (z0 : Int)
  · rw [if_pos hbig0]
    go_wp2
    go_ret
    exact ⟨rfl, S2.out.1⟩
  rw [if_neg hbig0]
  have hq0 : 0 ≤ (1048576 - (z0 : Int) : Int) := by omega
  have hb0 : z0 ≤ 1048576 := by omega
  obtain ⟨c0, c1, cf⟩ := (S2.out.bk 0 rfl).c2
  go_wp2_with fail
  clear c0 c1 cf
  refine (szSchedule_t d1 _ (1048576 - (z0 : Int)) _ (by exact S2.out.old HR1.out) HK1.out (by omega) (by omega)).mono ?_
  rintro e w3 ⟨rfl, b⟩
  have S3 := Lib.hid (S2.out.go b)
  clear S2 b
  generalize hz1 : (trSc d1).sz = z1
  have HZ1 := Lib.hid hz1
  clear hz1
  by_cases hbig1 : (1048576 - (z0 : Int) : Int) < (z1 : Int)
  · rw [if_pos hbig1]
    go_wp2
    go_ret
    exact ⟨rfl, S3.out.1⟩
  rw [if_neg hbig1]
  have hq1 : 0 ≤ (1048576 - (z0 : Int) - (z1 : Int) : Int) := by omega
  have hb1 : z1 ≤ 1048576 := by omega
  obtain ⟨y0, y1, yf⟩ := (S3.out.bk 0 rfl).c2
  have hly := (S3.out.bk 0 rfl).lt
  have S4 := Lib.hid (S3.out.drew1)
  clear S3
  go_wp2_with fail
  have CE := Lib.hid (fun (W : World) (h : Wr [] w3.drew W) => show Hid (Wr [] w3.drew W) ∧ W.cell? ⟨w.heap.size, 0, none⟩ = some (.slice U1_0 d1.st.length u1_0) ∧ W.cell? ⟨w.heap.size, 1, none⟩ = some (.slice U1_1 d1.mo.length u1_1) from ⟨Lib.hid h, (wr_cell h (p := ⟨w.heap.size, 0, none⟩) hly (by simp)).trans (by simpa using y0), (wr_cell h (p := ⟨w.heap.size, 1, none⟩) hly (by simp)).trans (by simpa using y1)⟩)
  have INIT := Lib.hid (CE.out _ (Wr.refl _ _))
  have KW := Lib.hid (fun (W2 W : World) (hb : Below W.heap.size W W2) (h : Hid (Wr [] w3.drew W) ∧ W.cell? ⟨w.heap.size, 0, none⟩ = some (.slice U1_0 d1.st.length u1_0) ∧ W.cell? ⟨w.heap.size, 1, none⟩ = some (.slice U1_1 d1.mo.length u1_1)) => CE.out W2 (h.1.out.trans (Wr.of_below hb (Nat.le_refl _))))
  clear y0 y1 yf hly
  go_region_held3 (fun W => Hid (Wr [] w3.drew W) ∧ W.cell? ⟨w.heap.size, 0, none⟩ = some (.slice U1_0 d1.st.length u1_0) ∧ W.cell? ⟨w.heap.size, 1, none⟩ = some (.slice U1_1 d1.mo.length u1_1)) (first | exact INIT.out | exact KW.out _ _ (by assumption) (by assumption))
    (first
    | (go_at_call 10; refine (toLiteralS_t d0 _ _ (by exact S4.out.old HR0.out) (by have := HZ0.out; omega)).mono ?_; rintro e w5 ⟨v5_, F5, rfl, o, h, bb5⟩; have S5 := Lib.hid (S4.out.new o h bb5); clear S4 o h)
    | (go_at_call_of 21 (Value.agg #[Value.slice U1_0 d1.st.length u1_0, Value.slice U1_1 d1.mo.length u1_1]); refine (toSchedule_t d1 _ _ (by exact S5.out.old HR1.out) (by have := HZ1.out; omega)).mono ?_; rintro e w6 ⟨v6_, F6, rfl, o, h, bb6⟩; have S6 := Lib.hid (S5.out.new o h bb6); clear S5 o h)
    | (go_at_call 20; refine (specClauseHolds_any d0 d1 _ _ _ (by exact S6.out.rd 1 rfl) (by exact S6.out.rd 0 rfl)).mono ?_; rintro e w7 ⟨rfl, bb7⟩; have S7 := Lib.hid (S6.out.go bb7); clear S6))
  rename_i hHeld
  clear hHeld CE INIT KW bb5 bb6 bb7
  go_wp2_with fail
  refine (toLiteralS_t d0 _ _ (by exact S7.out.old HR0.out) (by have := HZ0.out; omega)).mono ?_
  rintro e w8 ⟨v8_, F8, rfl, o, h, b⟩
  have S8 := Lib.hid (S7.out.new o h b)
  clear S7 o h b
  obtain ⟨c0, c1, cf⟩ := (S8.out.bk 3 rfl).c2
  go_wp2_with fail
  clear c0 c1 cf
  refine (toSchedule_t d1 _ _ (by exact S8.out.old HR1.out) (by have := HZ1.out; omega)).mono ?_
  rintro e w9 ⟨v9_, F9, rfl, o, h, b⟩
  obtain ⟨X9_0, x9_0, X9_1, x9_1, rfl, _, _⟩ := rdSchedule_t (Tr.own_rd _ _ _ o)
  have S9 := Lib.hid ((S8.out.new o h b).box 38 [.slice X9_0 d1.st.length x9_0, .slice X9_1 d1.mo.length x9_1])
  clear S8 o h b
  obtain ⟨x0, x1, xf⟩ := (S9.out.bk 0 rfl).c2
  go_wp2_with fail
  clear x0 x1 xf
  refine (implClauseHolds_any d0 d1 _ _ _ (by exact S9.out.rd 2 rfl) HK0.out (by exact S9.out.rd 1 rfl)).mono ?_
  rintro e w10 ⟨rfl, b⟩
  have S10 := Lib.hid (S9.out.go b)
  clear S9 b
  go_wp2_with fail
  refine (toLiteralS_t d0 _ _ (by exact S10.out.old HR0.out) (by have := HZ0.out; omega)).mono ?_
  rintro e w11 ⟨v11_, F11, rfl, o, h, b⟩
  have S11 := Lib.hid (S10.out.new o h b)
  clear S10 o h b
  go_wp2_with fail
  refine (eqLiteralS_t (d0) _ _ _ (by exact S11.out.rd 3 rfl) (by exact S11.out.rd 0 rfl)).mono ?_
  rintro e w12 ⟨rfl, b⟩
  have S12 := Lib.hid (S11.out.go b)
  clear S11 b
  obtain ⟨c0, c1, cf⟩ := (S12.out.bk 1 rfl).c2
  obtain ⟨g0, g1, gf⟩ := (S12.out.bk 6 rfl).c2
  have hlc := (S12.out.bk 1 rfl).lt
  have hlg := (S12.out.bk 6 rfl).lt
  have S13 := Lib.hid (S12.out.drew1)
  clear S12
  go_wp2_with fail
  have CE := Lib.hid (fun (W : World) (h : Wr [] w12.drew W) => show Hid (Wr [] w12.drew W) ∧ W.cell? ⟨w9.heap.size, 0, none⟩ = some (.slice X9_0 d1.st.length x9_0) ∧ W.cell? ⟨w9.heap.size, 1, none⟩ = some (.slice X9_1 d1.mo.length x9_1) ∧ W.cell? ⟨w.heap.size, 0, none⟩ = some (.slice U1_0 d1.st.length u1_0) ∧ W.cell? ⟨w.heap.size, 1, none⟩ = some (.slice U1_1 d1.mo.length u1_1) from ⟨Lib.hid h, (wr_cell h (p := ⟨w9.heap.size, 0, none⟩) hlc (by simp)).trans (by simpa using c0), (wr_cell h (p := ⟨w9.heap.size, 1, none⟩) hlc (by simp)).trans (by simpa using c1), (wr_cell h (p := ⟨w.heap.size, 0, none⟩) hlg (by simp)).trans (by simpa using g0), (wr_cell h (p := ⟨w.heap.size, 1, none⟩) hlg (by simp)).trans (by simpa using g1)⟩)
  have INIT := Lib.hid (CE.out _ (Wr.refl _ _))
  have KW := Lib.hid (fun (W2 W : World) (hb : Below W.heap.size W W2) (h : Hid (Wr [] w12.drew W) ∧ W.cell? ⟨w9.heap.size, 0, none⟩ = some (.slice X9_0 d1.st.length x9_0) ∧ W.cell? ⟨w9.heap.size, 1, none⟩ = some (.slice X9_1 d1.mo.length x9_1) ∧ W.cell? ⟨w.heap.size, 0, none⟩ = some (.slice U1_0 d1.st.length u1_0) ∧ W.cell? ⟨w.heap.size, 1, none⟩ = some (.slice U1_1 d1.mo.length u1_1)) => CE.out W2 (h.1.out.trans (Wr.of_below hb (Nat.le_refl _))))
  clear c0 c1 cf g0 g1 gf hlc hlg
  go_region_held3 (fun W => Hid (Wr [] w12.drew W) ∧ W.cell? ⟨w9.heap.size, 0, none⟩ = some (.slice X9_0 d1.st.length x9_0) ∧ W.cell? ⟨w9.heap.size, 1, none⟩ = some (.slice X9_1 d1.mo.length x9_1) ∧ W.cell? ⟨w.heap.size, 0, none⟩ = some (.slice U1_0 d1.st.length u1_0) ∧ W.cell? ⟨w.heap.size, 1, none⟩ = some (.slice U1_1 d1.mo.length u1_1)) (first | exact INIT.out | exact KW.out _ _ (by assumption) (by assumption))
    (first
    | (go_at_call 21; refine (toSchedule_t d1 _ _ (by exact S13.out.old HR1.out) (by have := HZ1.out; omega)).mono ?_; rintro e w14 ⟨v14_, F14, rfl, o, h, bb1⟩; have S14 := Lib.hid (S13.out.new o h bb1); clear S13 o h)
    | (go_at_call 23; refine (eqSchedule_t d1 _ _ _ (by exact S14.out.rd 3 rfl) (by exact S14.out.rd 0 rfl)).mono ?_; rintro e w15 ⟨rfl, bb2⟩; have S15 := Lib.hid (S14.out.go bb2); clear S14))
  rename_i hHeld
  clear hHeld CE INIT KW bb1 bb2
  go_wp2
  go_ret
  exact ⟨rfl, S15.out.1⟩
end Go.Proofs.Ytgbpomakomddjaa
