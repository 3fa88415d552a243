/- DERIVED. The walk of the law FnExactClauseStatus, by contracts. -/
import Derived.Test.YtgbpomakomddjabClT
import Derived.Test.YtgbpomakomddjabClL
import Derived.Test.YtgbpomakomddjabTFl
import Derived.Deep.RegionWith
import Derived.Deep.RegionHeld3
namespace Go.Proofs.Ytgbpomakomddjab
open Go.RowKit
set_option linter.unusedVariables false
set_option maxRecDepth 100000 in
set_option maxHeartbeats 4000000 in
theorem walkFnExactClauseStatus (v0 : Value) (d0 : Dm) (v1 : Value) (d1 : List Lt) (w : World) (hr0 : (trDm d0).rd w v0) (hk0 : (trDm d0).ok) (hr1 : (trLts d1).rd w v1) (hk1 : (trLts d1).ok) :
    Calls Try.prog 3 #[v0, v1] w fun e w' => e = .returned (.bool true) ∧ Below w.heap.size w w' := by
  have HK0 := Lib.hid hk0
  have HR0 := Lib.hid hr0
  obtain ⟨U0_0, u0_0, U0_1, u0_1, U0_2, u0_2, rfl, _, _, _⟩ := rdDomain_t hr0
  clear hk0 hr0
  have HK1 := Lib.hid hk1
  have HR1 := Lib.hid hr1
  obtain ⟨U1, u1, rfl⟩ := rows_slice hr1
  clear hk1 hr1
  have S0 := Lib.hid (Sn.start w)
  have S1 := Lib.hid (S0.out.box 25 [.slice U0_0 d0.mn.length u0_0, .slice U0_1 d0.mx.length u0_1, .slice U0_2 d0.md.length u0_2])
  clear S0
  go_enter Try.func3, Try.ntmps3
  go_wp2_with fail
  refine (szDomain_t d0 _ (1048576) _ (by exact S1.out.old HR0.out) HK0.out (by omega) (by omega)).mono ?_
  rintro e w2 ⟨rfl, b⟩
  have S2 := Lib.hid (S1.out.go b)
  clear S1 b
  generalize hz0 : (trDm d0).sz = z0
  have HZ0 := Lib.hid hz0
  clear hz0
  by_cases hbig0 : (1048576 : Int) < (z0 : Int)
  · rw [if_pos hbig0]
    go_wp2
    go_ret
    exact ⟨rfl, S2.out.1⟩
  rw [if_neg hbig0]
  have hq0 : 0 ≤ (1048576 - (z0 : Int) : Int) := by omega
  have hb0 : z0 ≤ 1048576 := by omega
  go_wp2_with fail
  refine (szLiteralS_t d1 _ (1048576 - (z0 : Int)) _ (by exact S2.out.old HR1.out) HK1.out (by omega) (by omega)).mono ?_
  rintro e w3 ⟨rfl, b⟩
  have S3 := Lib.hid (S2.out.go b)
  clear S2 b
  generalize hz1 : (trLts d1).sz = z1
  have HZ1 := Lib.hid hz1
  clear hz1
  by_cases hbig1 : (1048576 - (z0 : Int) : Int) < (z1 : Int)
  · rw [if_pos hbig1]
    go_wp2
    go_ret
    exact ⟨rfl, S3.out.1⟩
  rw [if_neg hbig1]
  have hq1 : 0 ≤ (1048576 - (z0 : Int) - (z1 : Int) : Int) := by omega
  have hb1 : z1 ≤ 1048576 := by omega
  obtain ⟨c0, c1, c2, cf⟩ := (S3.out.bk 0 rfl).c3
  go_wp2_with fail
  clear c0 c1 c2 cf
  refine (toDomain_t d0 _ _ (by exact S3.out.old HR0.out) (by have := HZ0.out; omega)).mono ?_
  rintro e w4 ⟨v4_, F4, rfl, o, h, b⟩
  have S4 := Lib.hid (S3.out.new o h b)
  clear S3 o h b
  go_wp2_with fail
  refine (toLiteralS_t d1 _ _ (by exact S4.out.old HR1.out) (by have := HZ1.out; omega)).mono ?_
  rintro e w5 ⟨v5_, F5, rfl, o, h, b⟩
  have S5 := Lib.hid (S4.out.new o h b)
  clear S4 o h b
  go_wp2_with fail
  refine (specClauseStatus_any d0 d1 _ _ _ (by exact S5.out.rd 1 rfl) (by exact S5.out.rd 0 rfl) (lt_len (by have := HZ1.out; omega))).mono ?_
  rintro e w6 ⟨rfl, b⟩
  generalize hrr : statD d0 d1 = rr
  have HRR := Lib.hid hrr
  clear hrr
  obtain ⟨st, ki, ac, va⟩ := rr
  unfold ltV
  have S6 := Lib.hid ((S5.out.go b).box 30 [.int .i64 ki, .int .i64 ac, .int .i64 va])
  clear S5 b
  obtain ⟨c0, c1, c2, cf⟩ := (S6.out.bk 3 rfl).c3
  go_wp2_with fail
  clear c0 c1 c2 cf
  refine (toDomain_t d0 _ _ (by exact S6.out.old HR0.out) (by have := HZ0.out; omega)).mono ?_
  rintro e w7 ⟨v7_, F7, rfl, o, h, b⟩
  obtain ⟨X7_0, x7_0, X7_1, x7_1, X7_2, x7_2, rfl, _, _, _⟩ := rdDomain_t (Tr.own_rd _ _ _ o)
  have S7 := Lib.hid ((S6.out.new o h b).box 33 [.slice X7_0 d0.mn.length x7_0, .slice X7_1 d0.mx.length x7_1, .slice X7_2 d0.md.length x7_2])
  clear S6 o h b
  go_wp2_with fail
  refine (toLiteralS_t d1 _ _ (by exact S7.out.old HR1.out) (by have := HZ1.out; omega)).mono ?_
  rintro e w8 ⟨v8_, F8, rfl, o, h, b⟩
  have S8 := Lib.hid (S7.out.new o h b)
  clear S7 o h b
  obtain ⟨x0, x1, x2, xf⟩ := (S8.out.bk 1 rfl).c3
  go_wp2_with fail
  clear x0 x1 x2 xf
  refine (implClauseStatus_any d0 d1 _ _ _ (by exact S8.out.rd 2 rfl) (by exact S8.out.rd 0 rfl) (lt_len (by have := HZ1.out; omega))).mono ?_
  rintro e w9 ⟨rfl, b⟩
  rw [HRR.out]
  unfold ltV
  have S9 := Lib.hid ((S8.out.go b).box 30 [.int .i64 ki, .int .i64 ac, .int .i64 va])
  clear S8 b
  obtain ⟨c0, c1, c2, cf⟩ := (S9.out.bk 0 rfl).c3
  obtain ⟨x0, x1, x2, xf⟩ := (S9.out.bk 4 rfl).c3
  go_wp2_with fail
  clear c0 c1 c2 cf x0 x1 x2 xf
  refine (eqLiteral_t ⟨ki, ac, va⟩ _ _ _ (by exact mk_rdLiteral_t (d := ⟨ki, ac, va⟩)) (by exact mk_rdLiteral_t (d := ⟨ki, ac, va⟩))).mono ?_
  rintro e w10 ⟨rfl, b⟩
  have S10 := Lib.hid (S9.out.go b)
  clear S9 b
  obtain ⟨c0, c1, c2, cf⟩ := (S10.out.bk 2 rfl).c3
  obtain ⟨g0, g1, g2, gf⟩ := (S10.out.bk 7 rfl).c3
  have S11 := Lib.hid (S10.out.drew1)
  clear S10
  go_wp2_with fail
  go_region_with (first
    | (go_at_call 7; refine (toDomain_t d0 _ _ (by exact S11.out.old HR0.out) (by have := HZ0.out; omega)).mono ?_; rintro e w12 ⟨v12_, F12, rfl, o, h, b⟩; have S12 := Lib.hid (S11.out.new o h b); obtain ⟨e0, e1, e2, ef⟩ := (S12.out.bk 3 rfl).c3; clear S11 o h b)
    | (go_at_call 11; refine (eqDomain_t d0 _ _ _ (by exact S12.out.rd 4 rfl) (by exact S12.out.rd 0 rfl)).mono ?_; rintro e w13 ⟨rfl, b⟩; have S13 := Lib.hid (S12.out.go b); clear S12 b))
  all_goals
    clear c0 c1 c2 cf g0 g1 g2 gf
    try clear e0 e1 e2 ef
    go_wp2_with fail
    refine (toLiteralS_t d1 _ _ (by exact S13.out.old HR1.out) (by have := HZ1.out; omega)).mono ?_
    rintro e w14 ⟨v14_, F14, rfl, o, h, b⟩
    have S14 := Lib.hid (S13.out.new o h b)
    clear S13 o h b
    go_wp2_with fail
    refine (eqLiteralS_t (d1) _ _ _ (by exact S14.out.rd 3 rfl) (by exact S14.out.rd 0 rfl)).mono ?_
    rintro e w15 ⟨rfl, b⟩
    have S15 := Lib.hid (S14.out.go b)
    clear S14 b
    go_wp2
    go_ret
    exact ⟨rfl, S15.out.1⟩
end Go.Proofs.Ytgbpomakomddjab
