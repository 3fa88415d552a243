/- DERIVED. The walk of the law FnExactParseMode, by contracts. -/
import Derived.Test.YtlnbkhfjbpnbfaaDoorModP
import Derived.Test.YtlnbkhfjbpnbfaaDoorModM
import Derived.Test.YtlnbkhfjbpnbfaaDoorShp
namespace Go.Proofs.YtlnbkhfjbpnbfaaDoor
open Go.RowKit
set_option maxRecDepth 100000 in
set_option maxHeartbeats 4000000 in
theorem walkFnExactParseMode (a0 : ByteArray) (w : World) (hs0 : a0.size ≤ maxLen) (ht : TB w) :
    Calls Tryd.prog 4 #[.string a0] w fun e w' => e = .returned (.bool true) ∧ Below w.heap.size w w' := by
  have hs0' := hs0
  unfold maxLen at hs0'
  have HSz0 := Lib.hid hs0
  clear hs0
  have T0 := Lib.hid ht
  clear ht
  by_cases hbig0 : (1048576 : Int) < a0.size
  · go_enter Tryd.func4, Tryd.ntmps4
    go_wp2
    go_ret
    exact ⟨rfl, Below.refl _ _⟩
  have hl0 : a0.size ≤ 1048576 := by omega
  clear hbig0
  have hn0 : (parMd a0).us.length + (parMd a0).co.length ≤ 2 * (a0.size + 1) := parMd_len _
  generalize hv0 : parMd a0 = ys0 at hn0
  have HV0 := Lib.hid hv0
  clear hv0
  generalize hv1 : mdOk a0 = r1
  have HV1 := Lib.hid hv1
  clear hv1
  have S0 := Lib.hid (Sn.start w)
  go_enter Tryd.func4, Tryd.ntmps4
  go_wp2_with fail
  refine (specParMode_any a0 _ (by omega)).mono ?_
  rintro e w1 ⟨v1_, F1, rfl, o, h, b⟩
  rw [HV0.out] at o
  obtain ⟨U_1, cu_1, C_1, cc_1, rfl, _, _⟩ := shapeM (Tr.own_rd _ _ _ o)
  rw [HV1.out]
  have S1 := Lib.hid ((S0.out.new o h b).box 27 [.int .i64 ys0.du, .slice U_1 ys0.us.length cu_1, .slice C_1 ys0.co.length cc_1])
  clear S0 o h b
  go_wp2_with fail
  refine (implParMode_any a0 _ (by omega) (by exact T0.out.below S1.out.1 (Nat.le_refl _))).mono ?_
  rintro e w2 ⟨v2_, F2, rfl, o, h, b⟩
  rw [HV0.out] at o
  obtain ⟨U_2, cu_2, C_2, cc_2, rfl, _, _⟩ := shapeM (Tr.own_rd _ _ _ o)
  rw [HV1.out]
  have S2 := Lib.hid ((S1.out.new o h b).box 27 [.int .i64 ys0.du, .slice U_2 ys0.us.length cu_2, .slice C_2 ys0.co.length cc_2])
  clear S1 o h b
  obtain ⟨c0, c1, c2, cf⟩ := (S2.out.bk 0 rfl).c3
  obtain ⟨x0, x1, x2, xf⟩ := (S2.out.bk 2 rfl).c3
  go_wp2_with fail
  clear c0 c1 c2 cf x0 x1 x2 xf
  refine (eqM_any ys0 ys0 _ _ _ (by exact S2.out.rd 1 rfl) (by exact S2.out.rd 3 rfl)).mono ?_
  rintro e w3 ⟨rfl, b⟩
  rw [decide_eq_true rfl]
  have S3 := Lib.hid (S2.out.go b)
  clear S2 b
  obtain ⟨c0, c1, c2, cf⟩ := (S3.out.bk 0 rfl).c3
  go_wp2_with fail
  clear c0 c1 c2 cf
  refine (markM_any 1 _ ys0 _ _ _ (by exact (S3.out.own 1 rfl).1) (by exact (S3.out.own 1 rfl).2) (by omega) (by omega)).mono ?_
  rintro e w4 ⟨F4, rfl, o, h, hs, g⟩
  have S4 := Lib.hid (S3.out.mark 1 rfl o h hs g)
  clear S3 o h hs g
  obtain ⟨c0, c1, c2, cf⟩ := (S4.out.bk 0 rfl).c3
  go_wp2_with fail
  clear c0 c1 c2 cf
  refine (heldM_any 1 ys0 _ _ (by exact S4.out.rd 1 rfl) (by omega) (by omega)).mono ?_
  rintro e w5 ⟨rfl, b⟩
  have S5 := Lib.hid (S4.out.go b)
  clear S4 b
  go_wp2_with fail
  refine (implParMode_any a0 _ (by omega) (by exact T0.out.below S5.out.1 (Nat.le_refl _))).mono ?_
  rintro e w6 ⟨v6_, F6, rfl, o, h, b⟩
  rw [HV0.out] at o
  obtain ⟨U_6, cu_6, C_6, cc_6, rfl, _, _⟩ := shapeM (Tr.own_rd _ _ _ o)
  rw [HV1.out]
  have S6 := Lib.hid ((S5.out.new o h b).box 27 [.int .i64 ys0.du, .slice U_6 ys0.us.length cu_6, .slice C_6 ys0.co.length cc_6])
  clear S5 o h b
  obtain ⟨c0, c1, c2, cf⟩ := (S6.out.bk 0 rfl).c3
  obtain ⟨x0, x1, x2, xf⟩ := (S6.out.bk 4 rfl).c3
  go_wp2_with fail
  clear c0 c1 c2 cf x0 x1 x2 xf
  refine (eqM_any ys0 ys0 _ _ _ (by exact S6.out.rd 1 rfl) (by exact S6.out.rd 5 rfl)).mono ?_
  rintro e w7 ⟨rfl, b⟩
  rw [decide_eq_true rfl]
  have S7 := Lib.hid (S6.out.go b)
  clear S6 b
  obtain ⟨c0, c1, c2, cf⟩ := (S7.out.bk 2 rfl).c3
  go_wp2_with fail
  clear c0 c1 c2 cf
  refine (heldM_any 1 ys0 _ _ (by exact S7.out.rd 3 rfl) (by omega) (by omega)).mono ?_
  rintro e w8 ⟨rfl, b⟩
  have S8 := Lib.hid (S7.out.go b)
  clear S7 b
  go_wp2
  go_ret
  exact ⟨rfl, S8.out.1⟩
end Go.Proofs.YtlnbkhfjbpnbfaaDoor
