/- DERIVED. The walk of the law FnExactResolve, by contracts. -/
import Derived.Test.YtgbpomakomddjaaClR
import Derived.Test.YtgbpomakomddjaaClL
import Derived.Test.YtgbpomakomddjaaTFl
import Derived.Deep.RegionWith
import Derived.Deep.RegionHeld3
namespace Go.Proofs.Ytgbpomakomddjaa
open Go.RowKit
set_option linter.unusedVariables false
set_option maxRecDepth 100000 in
set_option maxHeartbeats 4000000 in
theorem walkFnExactResolve (v0 : Value) (d0 : List Lt) (v1 : Value) (d1 : List Lt) (v2 : Value) (d2 : Lt) (w : World) (hr0 : (trLts d0).rd w v0) (hk0 : (trLts d0).ok) (hr1 : (trLts d1).rd w v1) (hk1 : (trLts d1).ok) (hr2 : (trLt d2).rd w v2) (hk2 : (trLt d2).ok) :
    Calls Try.prog 7 #[v0, v1, v2] w fun e w' => e = .returned (.bool true) ∧ Below w.heap.size w w' := by
  have HK0 := Lib.hid hk0
  have HR0 := Lib.hid hr0
  obtain ⟨U0, u0, rfl⟩ := rows_slice hr0
  clear hk0 hr0
  have HK1 := Lib.hid hk1
  have HR1 := Lib.hid hr1
  obtain ⟨U1, u1, rfl⟩ := rows_slice hr1
  clear hk1 hr1
  have HK2 := Lib.hid hk2
  have HR2 := Lib.hid hr2
  obtain rfl := rdLiteral_t hr2
  clear hk2 hr2
  have S0 := Lib.hid (Sn.start w)
  have S1 := Lib.hid (S0.out.box 43 [.int .i64 d2.ki, .int .i64 d2.ac, .int .i64 d2.va])
  clear S0
  go_enter Try.func7, Try.ntmps7
  have hn0 : (trLts (resL d0 d1 d2)).sz ≤ (trLts d0).sz + (trLts d1).sz := resL_sz _ _ _
  go_wp2_with fail
  refine (szLiteralS_t d0 _ (1048576) _ (by exact S1.out.old HR0.out) HK0.out (by omega) (by omega)).mono ?_
  rintro e w2 ⟨rfl, b⟩
  have S2 := Lib.hid (S1.out.go b)
  clear S1 b
  generalize hz0 : (trLts d0).sz = z0
  have HZ0 := Lib.hid hz0
  clear hz0
  by_cases hbig0 : (1048576 : Int) < (z0 : Int)
  · rw [if_pos hbig0]
    go_wp2
    go_ret
    exact ⟨rfl, S2.out.1⟩
  rw [if_neg hbig0]
  have hq0 : 0 ≤ (1048576 - (z0 : Int) : Int) := by omega
  have hb0 : z0 ≤ 1048576 := by omega
  go_wp2_with fail
  refine (szLiteralS_t d1 _ (1048576 - (z0 : Int)) _ (by exact S2.out.old HR1.out) HK1.out (by omega) (by omega)).mono ?_
  rintro e w3 ⟨rfl, b⟩
  have S3 := Lib.hid (S2.out.go b)
  clear S2 b
  generalize hz1 : (trLts d1).sz = z1
  have HZ1 := Lib.hid hz1
  clear hz1
  by_cases hbig1 : (1048576 - (z0 : Int) : Int) < (z1 : Int)
  · rw [if_pos hbig1]
    go_wp2
    go_ret
    exact ⟨rfl, S3.out.1⟩
  rw [if_neg hbig1]
  have hq1 : 0 ≤ (1048576 - (z0 : Int) - (z1 : Int) : Int) := by omega
  have hb1 : z1 ≤ 1048576 := by omega
  obtain ⟨z0, z1, z2, zf⟩ := (S3.out.bk 0 rfl).c3
  have hlz := (S3.out.bk 0 rfl).lt
  have S4 := Lib.hid (S3.out.drew1)
  clear S3
  go_wp2_with fail
  have CE := Lib.hid (fun (W : World) (h : Wr [] w3.drew W) => show Hid (Wr [] w3.drew W) ∧ W.cell? ⟨w.heap.size, 0, none⟩ = some (.int .i64 d2.ki) ∧ W.cell? ⟨w.heap.size, 1, none⟩ = some (.int .i64 d2.ac) ∧ W.cell? ⟨w.heap.size, 2, none⟩ = some (.int .i64 d2.va) from ⟨Lib.hid h, (wr_cell h (p := ⟨w.heap.size, 0, none⟩) hlz (by simp)).trans (by simpa using z0), (wr_cell h (p := ⟨w.heap.size, 1, none⟩) hlz (by simp)).trans (by simpa using z1), (wr_cell h (p := ⟨w.heap.size, 2, none⟩) hlz (by simp)).trans (by simpa using z2)⟩)
  have INIT := Lib.hid (CE.out _ (Wr.refl _ _))
  have KW := Lib.hid (fun (W2 W : World) (hb : Below W.heap.size W W2) (h : Hid (Wr [] w3.drew W) ∧ W.cell? ⟨w.heap.size, 0, none⟩ = some (.int .i64 d2.ki) ∧ W.cell? ⟨w.heap.size, 1, none⟩ = some (.int .i64 d2.ac) ∧ W.cell? ⟨w.heap.size, 2, none⟩ = some (.int .i64 d2.va)) => CE.out W2 (h.1.out.trans (Wr.of_below hb (Nat.le_refl _))))
  clear z0 z1 z2 zf hlz
  go_region_held3 (fun W => Hid (Wr [] w3.drew W) ∧ W.cell? ⟨w.heap.size, 0, none⟩ = some (.int .i64 d2.ki) ∧ W.cell? ⟨w.heap.size, 1, none⟩ = some (.int .i64 d2.ac) ∧ W.cell? ⟨w.heap.size, 2, none⟩ = some (.int .i64 d2.va)) (first | exact INIT.out | exact KW.out _ _ (by assumption) (by assumption))
    (first
    | (go_at_call 10; refine (toLiteralS_t d0 _ _ (by exact S4.out.old HR0.out) (by have := HZ0.out; omega)).mono ?_; rintro e w5 ⟨v5_, F5, rfl, o, h, bb5⟩; have S5 := Lib.hid (S4.out.new o h bb5); clear S4 o h)
    | (go_at_call 10; refine (toLiteralS_t d1 _ _ (by exact S5.out.old HR1.out) (by have := HZ1.out; omega)).mono ?_; rintro e w6 ⟨v6_, F6, rfl, o, h, bb6⟩; have S6 := Lib.hid (S5.out.new o h bb6); clear S5 o h)
    | (go_at_call_of 25 (Value.agg #[Value.int IntKind.i64 d2.ki, Value.int IntKind.i64 d2.ac, Value.int IntKind.i64 d2.va]); refine (toLiteral_t d2 _ _ (by exact S6.out.old HR2.out) (by show szL _ ≤ _; simp [szL, cellsLt, Tr.sz])).mono ?_; rintro e w7 ⟨v7_, F7, rfl, o, h, bb7⟩; obtain rfl := rdLiteral_t (Tr.own_rd _ _ _ o); have S7 := Lib.hid (S6.out.new o h bb7); clear S6 o h)
    | (go_at_call 24; refine (specResolve_any d0 d1 d2 _ _ _ (by exact S7.out.rd 2 rfl) (by exact S7.out.rd 1 rfl) (by have h8 := lt_sz d0; have h9 := lt_sz d1; rw [HZ0.out] at h8; rw [HZ1.out] at h9; omega)).mono ?_; rintro e w8 ⟨v8_, F8, rfl, o, h, bb8⟩; have S8 := Lib.hid (S7.out.new o h bb8); clear S7 o h))
  rename_i hHeld
  clear hHeld CE INIT KW bb5 bb6 bb7 bb8
  go_wp2_with fail
  refine (toLiteralS_t d0 _ _ (by exact S8.out.old HR0.out) (by have := HZ0.out; omega)).mono ?_
  rintro e w9 ⟨v9_, F9, rfl, o, h, b⟩
  have S9 := Lib.hid (S8.out.new o h b)
  clear S8 o h b
  go_wp2_with fail
  refine (toLiteralS_t d1 _ _ (by exact S9.out.old HR1.out) (by have := HZ1.out; omega)).mono ?_
  rintro e w10 ⟨v10_, F10, rfl, o, h, b⟩
  have S10 := Lib.hid (S9.out.new o h b)
  clear S9 o h b
  obtain ⟨c0, c1, c2, cf⟩ := (S10.out.bk 6 rfl).c3
  go_wp2_with fail
  clear c0 c1 c2 cf
  refine (toLiteral_t d2 _ _ (by exact S10.out.old HR2.out) (by show szL _ ≤ _; simp [szL, cellsLt, Tr.sz])).mono ?_
  rintro e w11 ⟨v11_, F11, rfl, o, h, b⟩
  obtain rfl := rdLiteral_t (Tr.own_rd _ _ _ o)
  have S11 := Lib.hid (S10.out.new o h b)
  clear S10 o h b
  go_wp2_with fail
  refine (implResolve_any d0 d1 d2 _ _ _ (by exact S11.out.rd 2 rfl) (by exact S11.out.rd 1 rfl) (by have h8 := lt_sz d0; have h9 := lt_sz d1; rw [HZ0.out] at h8; rw [HZ1.out] at h9; omega)).mono ?_
  rintro e w12 ⟨v12_, F12, rfl, o, h, b⟩
  have S12 := Lib.hid (S11.out.new o h b)
  clear S11 o h b
  go_wp2_with fail
  refine (eqLiteralS_t (resL d0 d1 d2) _ _ _ (by exact S12.out.rd 0 rfl) (by exact S12.out.rd 4 rfl)).mono ?_
  rintro e w13 ⟨rfl, b⟩
  have S13 := Lib.hid (S12.out.go b)
  clear S12 b
  go_wp2_with fail
  refine (toLiteralS_t d0 _ _ (by exact S13.out.old HR0.out) (by have := HZ0.out; omega)).mono ?_
  rintro e w14 ⟨v14_, F14, rfl, o, h, b⟩
  have S14 := Lib.hid (S13.out.new o h b)
  clear S13 o h b
  go_wp2_with fail
  refine (eqLiteralS_t (d0) _ _ _ (by exact S14.out.rd 4 rfl) (by exact S14.out.rd 0 rfl)).mono ?_
  rintro e w15 ⟨rfl, b⟩
  have S15 := Lib.hid (S14.out.go b)
  clear S14 b
  go_wp2_with fail
  refine (toLiteralS_t d1 _ _ (by exact S15.out.old HR1.out) (by have := HZ1.out; omega)).mono ?_
  rintro e w16 ⟨v16_, F16, rfl, o, h, b⟩
  have S16 := Lib.hid (S15.out.new o h b)
  clear S15 o h b
  go_wp2_with fail
  refine (eqLiteralS_t (d1) _ _ _ (by exact S16.out.rd 4 rfl) (by exact S16.out.rd 0 rfl)).mono ?_
  rintro e w17 ⟨rfl, b⟩
  have S17 := Lib.hid (S16.out.go b)
  clear S16 b
  have hcnt0 : (trLts d0).cnt ≤ 8388608 := by
    have h1 : (trLts d0).cnt ≤ 8 * (trLts d0).sz := row_cnt_le (thin_LiteralS d0)
    have h3 : (trLts d0).sz ≤ 1048576 := by have := HZ0.out; omega
    exact Nat.le_trans h1 (by omega)
  have hcnt1 : (trLts d1).cnt ≤ 8388608 := by
    have h1 : (trLts d1).cnt ≤ 8 * (trLts d1).sz := row_cnt_le (thin_LiteralS d1)
    have h3 : (trLts d1).sz ≤ 1048576 := by have := HZ1.out; omega
    exact Nat.le_trans h1 (by omega)
  go_wp2_with fail
  refine (markLiteralS_t (1) _ (d0) _ _ _ (by exact (S17.out.own 5 rfl).1) (by exact (S17.out.own 5 rfl).2) (by omega) (by omega)).mono ?_
  rintro e w18 ⟨F18, rfl, o, h, hs, g⟩
  have S18 := Lib.hid (S17.out.mark 5 rfl o h hs g)
  clear S17 o h hs g
  go_wp2_with fail
  refine (markLiteralS_t (1 + (trLts d0).cnt) _ (d1) _ _ _ (by exact (S18.out.own 4 rfl).1) (by exact (S18.out.own 4 rfl).2) (by omega) (by omega)).mono ?_
  rintro e w19 ⟨F19, rfl, o, h, hs, g⟩
  have S19 := Lib.hid (S18.out.mark 4 rfl o h hs g)
  clear S18 o h hs g
  go_wp2_with fail
  refine (eqLiteralS_t (resL d0 d1 d2) _ _ _ (by exact S19.out.rd 2 rfl) (by exact S19.out.rd 6 rfl)).mono ?_
  rintro e w20 ⟨rfl, b⟩
  have S20 := Lib.hid (S19.out.go b)
  clear S19 b
  have hcr0 : (trLts (resL d0 d1 d2)).cnt ≤ 16777216 := by
    have h1 : (trLts (resL d0 d1 d2)).cnt ≤ 8 * (trLts (resL d0 d1 d2)).sz := row_cnt_le (thin_LiteralS (resL d0 d1 d2))
    have h3 : (trLts (resL d0 d1 d2)).sz ≤ 2097152 := by have := hn0; have := HZ0.out; have := HZ1.out; omega
    exact Nat.le_trans h1 (by omega)
  go_wp2_with fail
  refine (markLiteralS_t (1) _ (resL d0 d1 d2) _ _ _ (by exact (S20.out.own 2 rfl).1) (by exact (S20.out.own 2 rfl).2) (by omega) (by omega)).mono ?_
  rintro e w21 ⟨F21, rfl, o, h, hs, g⟩
  have S21 := Lib.hid (S20.out.mark 2 rfl o h hs g)
  clear S20 o h hs g
  go_wp2_with fail
  refine (heldLiteralS_t (1) (resL d0 d1 d2) _ _ (by exact S21.out.rd 2 rfl) (by omega) (by omega)).mono ?_
  rintro e w22 ⟨rfl, b⟩
  have S22 := Lib.hid (S21.out.go b)
  clear S21 b
  obtain ⟨z0, z1, z2, zf⟩ := (S22.out.bk 10 rfl).c3
  have hlz := (S22.out.bk 10 rfl).lt
  have S23 := Lib.hid (S22.out.drew1)
  clear S22
  go_wp2_with fail
  have CE := Lib.hid (fun (W : World) (h : Wr [] w22.drew W) => show Hid (Wr [] w22.drew W) ∧ W.cell? ⟨w.heap.size, 0, none⟩ = some (.int .i64 d2.ki) ∧ W.cell? ⟨w.heap.size, 1, none⟩ = some (.int .i64 d2.ac) ∧ W.cell? ⟨w.heap.size, 2, none⟩ = some (.int .i64 d2.va) from ⟨Lib.hid h, (wr_cell h (p := ⟨w.heap.size, 0, none⟩) hlz (by simp)).trans (by simpa using z0), (wr_cell h (p := ⟨w.heap.size, 1, none⟩) hlz (by simp)).trans (by simpa using z1), (wr_cell h (p := ⟨w.heap.size, 2, none⟩) hlz (by simp)).trans (by simpa using z2)⟩)
  have INIT := Lib.hid (CE.out _ (Wr.refl _ _))
  have KW := Lib.hid (fun (W2 W : World) (hb : Below W.heap.size W W2) (h : Hid (Wr [] w22.drew W) ∧ W.cell? ⟨w.heap.size, 0, none⟩ = some (.int .i64 d2.ki) ∧ W.cell? ⟨w.heap.size, 1, none⟩ = some (.int .i64 d2.ac) ∧ W.cell? ⟨w.heap.size, 2, none⟩ = some (.int .i64 d2.va)) => CE.out W2 (h.1.out.trans (Wr.of_below hb (Nat.le_refl _))))
  clear z0 z1 z2 zf hlz
  go_region_held3 (fun W => Hid (Wr [] w22.drew W) ∧ W.cell? ⟨w.heap.size, 0, none⟩ = some (.int .i64 d2.ki) ∧ W.cell? ⟨w.heap.size, 1, none⟩ = some (.int .i64 d2.ac) ∧ W.cell? ⟨w.heap.size, 2, none⟩ = some (.int .i64 d2.va)) (first | exact INIT.out | exact KW.out _ _ (by assumption) (by assumption))
    (first
    | (go_at_call 10; refine (toLiteralS_t d0 _ _ (by exact S23.out.old HR0.out) (by have := HZ0.out; omega)).mono ?_; rintro e w24 ⟨v24_, F24, rfl, o, h, bb24⟩; have S24 := Lib.hid (S23.out.new o h bb24); clear S23 o h)
    | (go_at_call 10; refine (toLiteralS_t d1 _ _ (by exact S24.out.old HR1.out) (by have := HZ1.out; omega)).mono ?_; rintro e w25 ⟨v25_, F25, rfl, o, h, bb25⟩; have S25 := Lib.hid (S24.out.new o h bb25); clear S24 o h)
    | (go_at_call_of 25 (Value.agg #[Value.int IntKind.i64 d2.ki, Value.int IntKind.i64 d2.ac, Value.int IntKind.i64 d2.va]); refine (toLiteral_t d2 _ _ (by exact S25.out.old HR2.out) (by show szL _ ≤ _; simp [szL, cellsLt, Tr.sz])).mono ?_; rintro e w26 ⟨v26_, F26, rfl, o, h, bb26⟩; obtain rfl := rdLiteral_t (Tr.own_rd _ _ _ o); have S26 := Lib.hid (S25.out.new o h bb26); clear S25 o h)
    | (go_at_call 26; refine (implResolve_any d0 d1 d2 _ _ _ (by exact S26.out.rd 2 rfl) (by exact S26.out.rd 1 rfl) (by have h8 := lt_sz d0; have h9 := lt_sz d1; rw [HZ0.out] at h8; rw [HZ1.out] at h9; omega)).mono ?_; rintro e w27 ⟨v27_, F27, rfl, o, h, bb27⟩; have S27 := Lib.hid (S26.out.new o h bb27); clear S26 o h))
  rename_i hHeld
  clear hHeld CE INIT KW bb24 bb25 bb26 bb27
  go_wp2_with fail
  refine (eqLiteralS_t (resL d0 d1 d2) _ _ _ (by exact S27.out.rd 0 rfl) (by exact S27.out.rd 10 rfl)).mono ?_
  rintro e w28 ⟨rfl, b⟩
  have S28 := Lib.hid (S27.out.go b)
  clear S27 b
  go_wp2_with fail
  refine (heldLiteralS_t (1) (resL d0 d1 d2) _ _ (by exact S28.out.rd 6 rfl) (by omega) (by omega)).mono ?_
  rintro e w29 ⟨rfl, b⟩
  have S29 := Lib.hid (S28.out.go b)
  clear S28 b
  go_wp2
  go_ret
  exact ⟨rfl, S29.out.1⟩
end Go.Proofs.Ytgbpomakomddjaa
