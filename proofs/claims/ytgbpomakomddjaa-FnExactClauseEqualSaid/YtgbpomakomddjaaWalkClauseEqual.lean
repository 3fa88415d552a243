/- DERIVED. The walk of the law FnExactClauseEqual, by contracts. -/
import Derived.Test.YtgbpomakomddjaaClE
import Derived.Test.YtgbpomakomddjaaTFl
import Derived.Deep.RegionWith
import Derived.Deep.RegionHeld3
namespace Go.Proofs.Ytgbpomakomddjaa
open Go.RowKit
set_option linter.unusedVariables false
set_option maxRecDepth 100000 in
set_option maxHeartbeats 4000000 in
theorem walkFnExactClauseEqual (v0 : Value) (d0 : List Lt) (v1 : Value) (d1 : List Lt) (w : World) (hr0 : (trLts d0).rd w v0) (hk0 : (trLts d0).ok) (hr1 : (trLts d1).rd w v1) (hk1 : (trLts d1).ok) :
    Calls Try.prog 3 #[v0, v1] w fun e w' => e = .returned (.bool true) ∧ Below w.heap.size w w' := by
  have HK0 := Lib.hid hk0
  have HR0 := Lib.hid hr0
  obtain ⟨U0, u0, rfl⟩ := rows_slice hr0
  clear hk0 hr0
  have HK1 := Lib.hid hk1
  have HR1 := Lib.hid hr1
  obtain ⟨U1, u1, rfl⟩ := rows_slice hr1
  clear hk1 hr1
  have S0 := Lib.hid (Sn.start w)
  go_enter Try.func3, Try.ntmps3
  go_wp2_with fail
  refine (szLiteralS_t d0 _ (1048576) _ (by exact S0.out.old HR0.out) HK0.out (by omega) (by omega)).mono ?_
  rintro e w1 ⟨rfl, b⟩
  have S1 := Lib.hid (S0.out.go b)
  clear S0 b
  generalize hz0 : (trLts d0).sz = z0
  have HZ0 := Lib.hid hz0
  clear hz0
  by_cases hbig0 : (1048576 : Int) < (z0 : Int)
  · rw [if_pos hbig0]
    go_wp2
    go_ret
    exact ⟨rfl, S1.out.1⟩
  rw [if_neg hbig0]
  have hq0 : 0 ≤ (1048576 - (z0 : Int) : Int) := by omega
  have hb0 : z0 ≤ 1048576 := by omega
  go_wp2_with fail
  refine (szLiteralS_t d1 _ (1048576 - (z0 : Int)) _ (by exact S1.out.old HR1.out) HK1.out (by omega) (by omega)).mono ?_
  rintro e w2 ⟨rfl, b⟩
  have S2 := Lib.hid (S1.out.go b)
  clear S1 b
  generalize hz1 : (trLts d1).sz = z1
  have HZ1 := Lib.hid hz1
  clear hz1
  by_cases hbig1 : (1048576 - (z0 : Int) : Int) < (z1 : Int)
  · rw [if_pos hbig1]
    go_wp2
    go_ret
    exact ⟨rfl, S2.out.1⟩
  rw [if_neg hbig1]
  have hq1 : 0 ≤ (1048576 - (z0 : Int) - (z1 : Int) : Int) := by omega
  have hb1 : z1 ≤ 1048576 := by omega
  go_wp2_with fail
  refine (toLiteralS_t d0 _ _ (by exact S2.out.old HR0.out) (by have := HZ0.out; omega)).mono ?_
  rintro e w3 ⟨v3_, F3, rfl, o, h, b⟩
  have S3 := Lib.hid (S2.out.new o h b)
  clear S2 o h b
  go_wp2_with fail
  refine (toLiteralS_t d1 _ _ (by exact S3.out.old HR1.out) (by have := HZ1.out; omega)).mono ?_
  rintro e w4 ⟨v4_, F4, rfl, o, h, b⟩
  have S4 := Lib.hid (S3.out.new o h b)
  clear S3 o h b
  go_wp2_with fail
  refine (specClauseEqual_any d0 d1 _ _ _ (by exact S4.out.rd 1 rfl) (by exact S4.out.rd 0 rfl)).mono ?_
  rintro e w5 ⟨rfl, b⟩
  have S5 := Lib.hid (S4.out.go b)
  clear S4 b
  go_wp2_with fail
  refine (toLiteralS_t d0 _ _ (by exact S5.out.old HR0.out) (by have := HZ0.out; omega)).mono ?_
  rintro e w6 ⟨v6_, F6, rfl, o, h, b⟩
  have S6 := Lib.hid (S5.out.new o h b)
  clear S5 o h b
  go_wp2_with fail
  refine (toLiteralS_t d1 _ _ (by exact S6.out.old HR1.out) (by have := HZ1.out; omega)).mono ?_
  rintro e w7 ⟨v7_, F7, rfl, o, h, b⟩
  have S7 := Lib.hid (S6.out.new o h b)
  clear S6 o h b
  go_wp2_with fail
  refine (implClauseEqual_any d0 d1 _ _ _ (by exact S7.out.rd 1 rfl) (by exact S7.out.rd 0 rfl)).mono ?_
  rintro e w8 ⟨rfl, b⟩
  have S8 := Lib.hid (S7.out.go b)
  clear S7 b
  go_wp2_with fail
  refine (toLiteralS_t d0 _ _ (by exact S8.out.old HR0.out) (by have := HZ0.out; omega)).mono ?_
  rintro e w9 ⟨v9_, F9, rfl, o, h, b⟩
  have S9 := Lib.hid (S8.out.new o h b)
  clear S8 o h b
  go_wp2_with fail
  refine (eqLiteralS_t (d0) _ _ _ (by exact S9.out.rd 2 rfl) (by exact S9.out.rd 0 rfl)).mono ?_
  rintro e w10 ⟨rfl, b⟩
  have S10 := Lib.hid (S9.out.go b)
  clear S9 b
  go_wp2_with fail
  refine (toLiteralS_t d1 _ _ (by exact S10.out.old HR1.out) (by have := HZ1.out; omega)).mono ?_
  rintro e w11 ⟨v11_, F11, rfl, o, h, b⟩
  have S11 := Lib.hid (S10.out.new o h b)
  clear S10 o h b
  go_wp2_with fail
  refine (eqLiteralS_t (d1) _ _ _ (by exact S11.out.rd 2 rfl) (by exact S11.out.rd 0 rfl)).mono ?_
  rintro e w12 ⟨rfl, b⟩
  have S12 := Lib.hid (S11.out.go b)
  clear S11 b
  go_wp2
  go_ret
  exact ⟨rfl, S12.out.1⟩
end Go.Proofs.Ytgbpomakomddjaa
