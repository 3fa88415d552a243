/- DERIVED. The walk of the law FnExactWithoutLiteral, by contracts. -/
import Derived.Test.YtgbpomakomddjaaClW
import Derived.Test.YtgbpomakomddjaaClL
import Derived.Test.YtgbpomakomddjaaTFl
import Derived.Deep.RegionWith
import Derived.Deep.RegionHeld3
namespace Go.Proofs.Ytgbpomakomddjaa
open Go.RowKit
set_option linter.unusedVariables false
set_option maxRecDepth 100000 in
set_option maxHeartbeats 4000000 in
theorem walkFnExactWithoutLiteral (v0 : Value) (d0 : List Lt) (a1 : Int) (w : World) (hr0 : (trLts d0).rd w v0) (hk0 : (trLts d0).ok) (hw1 : (Lit.int .i64 a1).wf = true) :
    Calls Try.prog 4 #[v0, .int .i64 a1] w fun e w' => e = .returned (.bool true) ∧ Below w.heap.size w w' := by
  have HK0 := Lib.hid hk0
  have HR0 := Lib.hid hr0
  obtain ⟨U0, u0, rfl⟩ := rows_slice hr0
  clear hk0 hr0
  have HW1 := Lib.hid hw1
  clear hw1
  have S0 := Lib.hid (Sn.start w)
  go_enter Try.func4, Try.ntmps4
  have hn0 : (trLts (woL d0 a1)).sz ≤ (trLts d0).sz := woL_sz _ _
  go_wp2_with fail
  refine (szLiteralS_t d0 _ (1048576) _ (by exact S0.out.old HR0.out) HK0.out (by omega) (by omega)).mono ?_
  rintro e w1 ⟨rfl, b⟩
  have S1 := Lib.hid (S0.out.go b)
  clear S0 b
  generalize hz0 : (trLts d0).sz = z0
  have HZ0 := Lib.hid hz0
  clear hz0
  by_cases hbig0 : (1048576 : Int) < (z0 : Int)
  · rw [if_pos hbig0]
    go_wp2
    go_ret
    exact ⟨rfl, S1.out.1⟩
  rw [if_neg hbig0]
  have hq0 : 0 ≤ (1048576 - (z0 : Int) : Int) := by omega
  have hb0 : z0 ≤ 1048576 := by omega
  go_wp2_with fail
  refine (toLiteralS_t d0 _ _ (by exact S1.out.old HR0.out) (by have := HZ0.out; omega)).mono ?_
  rintro e w2 ⟨v2_, F2, rfl, o, h, b⟩
  have S2 := Lib.hid (S1.out.new o h b)
  clear S1 o h b
  go_wp2_with fail
  refine (specWithout_any d0 a1 _ _ (by exact S2.out.rd 0 rfl) (lt_len (by have := HZ0.out; omega))).mono ?_
  rintro e w3 ⟨v3_, F3, rfl, o, h, b⟩
  have S3 := Lib.hid (S2.out.new o h b)
  clear S2 o h b
  go_wp2_with fail
  refine (toLiteralS_t d0 _ _ (by exact S3.out.old HR0.out) (by have := HZ0.out; omega)).mono ?_
  rintro e w4 ⟨v4_, F4, rfl, o, h, b⟩
  have S4 := Lib.hid (S3.out.new o h b)
  clear S3 o h b
  go_wp2_with fail
  refine (implWithout_any d0 a1 _ _ (by exact (S4.out.own 0 rfl).1) (lt_len (by have := HZ0.out; omega))).mono ?_
  rintro e w5 ⟨v5_, F5, rfl, o, h, b⟩
  have S5 := Lib.hid (S4.out.new o h b)
  clear S4 o h b
  go_wp2_with fail
  refine (eqLiteralS_t (woL d0 a1) _ _ _ (by exact S5.out.rd 0 rfl) (by exact S5.out.rd 2 rfl)).mono ?_
  rintro e w6 ⟨rfl, b⟩
  have S6 := Lib.hid (S5.out.go b)
  clear S5 b
  go_wp2_with fail
  refine (toLiteralS_t d0 _ _ (by exact S6.out.old HR0.out) (by have := HZ0.out; omega)).mono ?_
  rintro e w7 ⟨v7_, F7, rfl, o, h, b⟩
  have S7 := Lib.hid (S6.out.new o h b)
  clear S6 o h b
  go_wp2_with fail
  refine (eqLiteralS_t (d0) _ _ _ (by exact S7.out.rd 2 rfl) (by exact S7.out.rd 0 rfl)).mono ?_
  rintro e w8 ⟨rfl, b⟩
  have S8 := Lib.hid (S7.out.go b)
  clear S7 b
  have hcnt0 : (trLts d0).cnt ≤ 8388608 := by
    have h1 : (trLts d0).cnt ≤ 8 * (trLts d0).sz := row_cnt_le (thin_LiteralS d0)
    have h3 : (trLts d0).sz ≤ 1048576 := by have := HZ0.out; omega
    exact Nat.le_trans h1 (by omega)
  go_wp2_with fail
  refine (markLiteralS_t (1) _ (d0) _ _ _ (by exact (S8.out.own 2 rfl).1) (by exact (S8.out.own 2 rfl).2) (by omega) (by omega)).mono ?_
  rintro e w9 ⟨F9, rfl, o, h, hs, g⟩
  have S9 := Lib.hid (S8.out.mark 2 rfl o h hs g)
  clear S8 o h hs g
  go_wp2_with fail
  refine (eqLiteralS_t (woL d0 a1) _ _ _ (by exact S9.out.rd 1 rfl) (by exact S9.out.rd 3 rfl)).mono ?_
  rintro e w10 ⟨rfl, b⟩
  have S10 := Lib.hid (S9.out.go b)
  clear S9 b
  have hcr0 : (trLts (woL d0 a1)).cnt ≤ 8388608 := by
    have h1 : (trLts (woL d0 a1)).cnt ≤ 8 * (trLts (woL d0 a1)).sz := row_cnt_le (thin_LiteralS (woL d0 a1))
    have h3 : (trLts (woL d0 a1)).sz ≤ 1048576 := by have := hn0; have := HZ0.out; omega
    exact Nat.le_trans h1 (by omega)
  go_wp2_with fail
  refine (markLiteralS_t (1) _ (woL d0 a1) _ _ _ (by exact (S10.out.own 1 rfl).1) (by exact (S10.out.own 1 rfl).2) (by omega) (by omega)).mono ?_
  rintro e w11 ⟨F11, rfl, o, h, hs, g⟩
  have S11 := Lib.hid (S10.out.mark 1 rfl o h hs g)
  clear S10 o h hs g
  go_wp2_with fail
  refine (heldLiteralS_t (1) (woL d0 a1) _ _ (by exact S11.out.rd 1 rfl) (by omega) (by omega)).mono ?_
  rintro e w12 ⟨rfl, b⟩
  have S12 := Lib.hid (S11.out.go b)
  clear S11 b
  go_wp2_with fail
  refine (toLiteralS_t d0 _ _ (by exact S12.out.old HR0.out) (by have := HZ0.out; omega)).mono ?_
  rintro e w13 ⟨v13_, F13, rfl, o, h, b⟩
  have S13 := Lib.hid (S12.out.new o h b)
  clear S12 o h b
  go_wp2_with fail
  refine (implWithout_any d0 a1 _ _ (by exact (S13.out.own 0 rfl).1) (lt_len (by have := HZ0.out; omega))).mono ?_
  rintro e w14 ⟨v14_, F14, rfl, o, h, b⟩
  have S14 := Lib.hid (S13.out.new o h b)
  clear S13 o h b
  go_wp2_with fail
  refine (eqLiteralS_t (woL d0 a1) _ _ _ (by exact S14.out.rd 0 rfl) (by exact S14.out.rd 5 rfl)).mono ?_
  rintro e w15 ⟨rfl, b⟩
  have S15 := Lib.hid (S14.out.go b)
  clear S14 b
  go_wp2_with fail
  refine (heldLiteralS_t (1) (woL d0 a1) _ _ (by exact S15.out.rd 3 rfl) (by omega) (by omega)).mono ?_
  rintro e w16 ⟨rfl, b⟩
  have S16 := Lib.hid (S15.out.go b)
  clear S15 b
  go_wp2
  go_ret
  exact ⟨rfl, S16.out.1⟩
end Go.Proofs.Ytgbpomakomddjaa
