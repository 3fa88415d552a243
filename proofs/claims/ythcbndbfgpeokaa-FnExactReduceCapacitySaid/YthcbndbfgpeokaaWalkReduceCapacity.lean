/- DERIVED. The walk of the law FnExactReduceCapacity, by contracts. -/
import Derived.Test.YthcbndbfgpeokaaStpD
import Derived.Test.YthcbndbfgpeokaaStpZ
import Derived.Test.YthcbndbfgpeokaaPairs
import Derived.Test.YthcbndbfgpeokaaSt
namespace Go.Proofs.Ythcbndbfgpeokaa
open Go.RowKit
set_option maxRecDepth 100000 in
set_option maxHeartbeats 2000000 in
theorem walkFnExactReduceCapacity (c0 : Option Addr) (len0 cap0 : Nat) (zs0 : List (Int × Int)) (a1 : Int) (a2 : Int) (a3 : Int) (w : World) (hz0 : IsPairs w c0 len0 cap0 zs0) (hw1 : (Lit.int .i64 a1).wf = true) (hw2 : (Lit.int .i64 a2).wf = true) (hw3 : (Lit.int .i64 a3).wf = true) :
    Calls Try.prog 8 #[.slice c0 len0 cap0, .int .i64 a1, .int .i64 a2, .int .i64 a3] w fun e w' => e = .returned (.bool true) ∧ Below w.heap.size w w' := by
  have hlz0 := (isPairs_rd hz0).1
  have hr0 := (isPairs_rd hz0).2
  generalize hxs0 : zs0.take len0 = xs0 at hr0
  have hlen0 : xs0.length = len0 := by rw [← hxs0]; simp; omega
  have hlm0 : xs0.length ≤ maxLen := by simpa using hr0.1
  unfold maxLen at hlm0
  clear hz0 hxs0
  have HR0 := Lib.hid hr0
  clear hr0
  subst hlen0
  have HW1 := Lib.hid hw1
  clear hw1
  have HW2 := Lib.hid hw2
  clear hw2
  have HW3 := Lib.hid hw3
  clear hw3
  have hn0 : (reducedB xs0 a1 a2 a3).length ≤ 61 := len_reducedB _ _ _ _
  generalize hv0 : reducedB xs0 a1 a2 a3 = ys0 at hn0
  have HV0 := Lib.hid hv0
  clear hv0
  generalize hv1 : reduceB xs0 a1 a2 a3 = r1
  have HV1 := Lib.hid hv1
  clear hv1
  have S0 := Lib.hid (St.start w)
  go_enter Try.func8, Try.ntmps8
  go_wp2_with fail
  refine (szP_any _ _ _ (1048576) _ (by omega) (by omega) (by omega)).mono ?_
  rintro e wz0 ⟨rfl, hwz⟩
  subst hwz
  by_cases hbig0 : (1048576 : Int) < (xs0.length : Int)
  · rw [if_pos hbig0]
    go_wp2
    go_ret
    exact ⟨rfl, Below.refl _ _⟩
  rw [if_neg hbig0]
  have hl0 : xs0.length ≤ 1048576 := by omega
  go_wp2_with fail
  refine (toP_any xs0 _ _ (by exact S0.out.oldN HR0.out) (by omega)).mono ?_
  rintro e w1 ⟨v1, rfl, o, b⟩
  have S1 := Lib.hid (S0.out.new o b)
  clear S0
  clear o b
  go_wp2_with fail
  refine (specReduce_any xs0 a1 a2 a3 v1 _ (own_rdP (by exact S1.out.own 0 rfl) (by unfold maxLen; omega))).mono ?_
  rintro e w2 ⟨v2, rfl, o, b⟩
  rw [HV0.out] at o
  have S2 := Lib.hid (S1.out.new o b)
  clear S1
  clear o b
  rw [HV1.out]
  go_wp2_with fail
  refine (toP_any xs0 _ _ (by exact S2.out.oldN HR0.out) (by omega)).mono ?_
  rintro e w3 ⟨v3, rfl, o, b⟩
  have S3 := Lib.hid (S2.out.new o b)
  clear S2
  clear o b
  go_wp2_with fail
  refine (implReduce_any xs0 a1 a2 a3 v3 _ (own_rdP (by exact S3.out.own 0 rfl) (by unfold maxLen; omega))).mono ?_
  rintro e w4 ⟨v4, rfl, o, b⟩
  rw [HV0.out] at o
  have S4 := Lib.hid (S3.out.new o b)
  clear S3
  clear o b
  rw [HV1.out]
  go_wp2_with fail
  refine (eqP_any ys0 ys0 _ _ _ (own_rdP (by exact S4.out.own 0 rfl) (by unfold maxLen; omega)) (own_rdP (by exact S4.out.own 2 rfl) (by unfold maxLen; omega))).mono ?_
  rintro e w5 ⟨rfl, b⟩
  rw [decide_eq_true rfl]
  have S5 := Lib.hid (S4.out.go b)
  clear S4
  clear b
  go_wp2_with fail
  refine (toP_any xs0 _ _ (by exact S5.out.oldN HR0.out) (by omega)).mono ?_
  rintro e w6 ⟨v6, rfl, o, b⟩
  have S6 := Lib.hid (S5.out.new o b)
  clear S5
  clear o b
  go_wp2_with fail
  refine (eqP_any xs0 xs0 _ _ _ (own_rdP (by exact S6.out.own 2 rfl) (by unfold maxLen; omega)) (own_rdP (by exact S6.out.own 0 rfl) (by unfold maxLen; omega))).mono ?_
  rintro e w7 ⟨rfl, b⟩
  rw [decide_eq_true rfl]
  have S7 := Lib.hid (S6.out.go b)
  clear S6
  clear b
  go_wp2_with fail
  refine (markP_any 1 xs0.length _ _ _ _ (by exact S7.out.own 2 rfl) (by omega) (by omega)).mono ?_
  rintro e w8 ⟨rfl, o, g⟩
  have S8 := Lib.hid (S7.out.mark 2 rfl o g)
  clear S7
  clear o g
  go_wp2_with fail
  refine (eqP_any ys0 ys0 _ _ _ (own_rdP (by exact S8.out.own 1 rfl) (by unfold maxLen; omega)) (own_rdP (by exact S8.out.own 3 rfl) (by unfold maxLen; omega))).mono ?_
  rintro e w9 ⟨rfl, b⟩
  rw [decide_eq_true rfl]
  have S9 := Lib.hid (S8.out.go b)
  clear S8
  clear b
  go_wp2_with fail
  refine (markP_any 1 ys0.length _ _ _ _ (by exact S9.out.own 1 rfl) (by omega) (by omega)).mono ?_
  rintro e w10 ⟨rfl, o, g⟩
  have S10 := Lib.hid (S9.out.mark 1 rfl o g)
  clear S9
  clear o g
  go_wp2_with fail
  refine (heldP_any 1 ys0.length _ _ (own_rdP (by exact S10.out.own 1 rfl) (by unfold maxLen; omega)) (by omega) (by omega)).mono ?_
  rintro e w11 ⟨rfl, b⟩
  have S11 := Lib.hid (S10.out.go b)
  clear S10
  clear b
  go_wp2_with fail
  refine (toP_any xs0 _ _ (by exact S11.out.oldN HR0.out) (by omega)).mono ?_
  rintro e w12 ⟨v12, rfl, o, b⟩
  have S12 := Lib.hid (S11.out.new o b)
  clear S11
  clear o b
  go_wp2_with fail
  refine (implReduce_any xs0 a1 a2 a3 v12 _ (own_rdP (by exact S12.out.own 0 rfl) (by unfold maxLen; omega))).mono ?_
  rintro e w13 ⟨v13, rfl, o, b⟩
  rw [HV0.out] at o
  have S13 := Lib.hid (S12.out.new o b)
  clear S12
  clear o b
  rw [HV1.out]
  go_wp2_with fail
  refine (eqP_any ys0 ys0 _ _ _ (own_rdP (by exact S13.out.own 0 rfl) (by unfold maxLen; omega)) (own_rdP (by exact S13.out.own 5 rfl) (by unfold maxLen; omega))).mono ?_
  rintro e w14 ⟨rfl, b⟩
  rw [decide_eq_true rfl]
  have S14 := Lib.hid (S13.out.go b)
  clear S13
  clear b
  go_wp2_with fail
  refine (heldP_any 1 ys0.length _ _ (own_rdP (by exact S14.out.own 3 rfl) (by unfold maxLen; omega)) (by omega) (by omega)).mono ?_
  rintro e w15 ⟨rfl, b⟩
  have S15 := Lib.hid (S14.out.go b)
  clear S14
  clear b
  go_wp2
  go_ret
  exact ⟨rfl, S15.out.1⟩
end Go.Proofs.Ythcbndbfgpeokaa
