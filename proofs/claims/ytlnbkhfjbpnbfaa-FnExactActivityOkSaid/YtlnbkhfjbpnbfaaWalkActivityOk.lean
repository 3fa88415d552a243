/- DERIVED. The walk of the law FnExactActivityOk, by contracts. -/
import Derived.Test.YtlnbkhfjbpnbfaaActB
import Derived.Test.YtlnbkhfjbpnbfaaModU
import Derived.Test.YtlnbkhfjbpnbfaaShp
namespace Go.Proofs.Ytlnbkhfjbpnbfaa
open Go.RowKit
set_option maxRecDepth 100000 in
set_option maxHeartbeats 4000000 in
theorem walkFnExactActivityOk (v0 : Value) (d0 : Ac) (a1 : Int) (a2 : Int) (w : World) (hr0 : (trA d0).rd w v0) (hk0 : d0.nm.size ≤ maxLen) (hw1 : (Lit.int .i64 a1).wf = true) (hw2 : (Lit.int .i64 a2).wf = true) :
    Calls Try.prog 4 #[v0, .int .i64 a1, .int .i64 a2] w fun e w' => e = .returned (.bool true) ∧ Below w.heap.size w w' := by
  obtain ⟨U0, cu0, rfl⟩ := shapeA hr0
  have HR0 := Lib.hid hr0
  clear hr0
  have HK0 := Lib.hid hk0
  clear hk0
  have HW1 := Lib.hid hw1
  clear hw1
  have HW2 := Lib.hid hw2
  clear hw2
  generalize hv0 : aokB d0 a1 a2 = r0
  have HV0 := Lib.hid hv0
  clear hv0
  have S0 := Lib.hid (Sn.start w)
  have S1 := Lib.hid (S0.out.box 33 [.string d0.nm, .int .i64 d0.fa, .slice U0 d0.ms.length cu0])
  clear S0
  go_enter Try.func4, Try.ntmps4
  go_wp2_with fail
  refine (szA2_any d0 _ (1048576) _ HK0.out (by exact S1.out.old HR0.out) (by omega) (by omega)).mono ?_
  rintro e w2 ⟨rfl, b⟩
  have S2 := Lib.hid (S1.out.go b)
  clear S1 b
  by_cases hbig0 : (1048576 : Int) < ((d0.nm.size : Int) + ((d0.ms.length : Int) + (szMs d0.ms : Int)))
  · rw [if_pos hbig0]
    go_wp2
    go_ret
    exact ⟨rfl, S2.out.1⟩
  rw [if_neg hbig0]
  have hq0 : 0 ≤ (1048576 - ((d0.nm.size : Int) + ((d0.ms.length : Int) + (szMs d0.ms : Int))) : Int) := by omega
  have hb0_0 : d0.ms.length + szMs d0.ms ≤ 1048576 := by omega
  obtain ⟨c0, c1, c2, cf⟩ := (S2.out.bk 0 rfl).c3
  go_wp2_with fail
  clear c0 c1 c2 cf
  refine (toA_any d0 _ _ (by exact S2.out.old HR0.out) (by omega)).mono ?_
  rintro e w3 ⟨v3_, F3, rfl, o, h, b⟩
  have S3 := Lib.hid (S2.out.new o h b)
  clear S2 o h b
  go_wp2_with fail
  refine (specActivityOk_any d0 a1 a2 _ _ HK0.out (by exact S3.out.rd 0 rfl)).mono ?_
  rintro e w4 ⟨rfl, b⟩
  have S4 := Lib.hid (S3.out.go b)
  clear S3 b
  rw [HV0.out]
  obtain ⟨c0, c1, c2, cf⟩ := (S4.out.bk 1 rfl).c3
  go_wp2_with fail
  clear c0 c1 c2 cf
  refine (toA_any d0 _ _ (by exact S4.out.old HR0.out) (by omega)).mono ?_
  rintro e w5 ⟨v5_, F5, rfl, o, h, b⟩
  obtain ⟨U_5, cu_5, rfl⟩ := shapeA (Tr.own_rd _ _ _ o)
  have S5 := Lib.hid ((S4.out.new o h b).box 38 [.string d0.nm, .int .i64 d0.fa, .slice U_5 d0.ms.length cu_5])
  clear S4 o h b
  obtain ⟨x0, x1, x2, xf⟩ := (S5.out.bk 0 rfl).c3
  go_wp2_with fail
  clear x0 x1 x2 xf
  refine (implActivityOk_any d0 a1 a2 _ _ HK0.out (by exact S5.out.rd 1 rfl)).mono ?_
  rintro e w6 ⟨rfl, b⟩
  have S6 := Lib.hid (S5.out.go b)
  clear S5 b
  rw [HV0.out]
  obtain ⟨c0, c1, c2, cf⟩ := (S6.out.bk 0 rfl).c3
  obtain ⟨g0, g1, g2, gf⟩ := (S6.out.bk 3 rfl).c3
  have S7 := Lib.hid (S6.out.drew1)
  clear S6
  go_wp2_with fail
  go_region_with (first
    | (go_at_call 19; refine (toA_any d0 _ _ (by exact S7.out.old HR0.out) (by omega)).mono ?_; rintro e w8 ⟨v8_, F8, rfl, o, h, b⟩; have S8 := Lib.hid (S7.out.new o h b); obtain ⟨e0, e1, e2, ef⟩ := (S8.out.bk 1 rfl).c3; clear S7 o h b)
    | (go_at_call 21; refine (eqA_any d0 d0 _ _ _ (by exact S8.out.rd 2 rfl) (by exact S8.out.rd 0 rfl)).mono ?_; rintro e w9 ⟨rfl, b⟩; rw [decide_eq_true rfl]; have S9 := Lib.hid (S8.out.go b); clear S8 b))
  all_goals
    clear c0 c1 c2 cf g0 g1 g2 gf
    try clear e0 e1 e2 ef
    go_wp2
    go_ret
    exact ⟨rfl, S9.out.1⟩
end Go.Proofs.Ytlnbkhfjbpnbfaa
