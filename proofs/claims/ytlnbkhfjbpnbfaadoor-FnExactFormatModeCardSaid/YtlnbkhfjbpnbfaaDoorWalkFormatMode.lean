/- DERIVED. The walk of the law FnExactFormatMode, by contracts. -/
import Derived.Test.YtlnbkhfjbpnbfaaDoorModF
import Derived.Test.YtlnbkhfjbpnbfaaDoorOpenA
import Derived.Test.YtlnbkhfjbpnbfaaDoorShp
namespace Go.Proofs.YtlnbkhfjbpnbfaaDoor
open Go.RowKit
set_option maxRecDepth 100000 in
set_option maxHeartbeats 4000000 in
theorem walkFnExactFormatMode (v0 : Value) (d0 : Md) (w : World) (hr0 : (trM d0).rd w v0) (hk0 : okM d0) (ht : TB w) :
    Calls Tryd.prog 3 #[v0] w fun e w' => e = .returned (.bool true) ∧ Below w.heap.size w w' := by
  obtain ⟨U0, cu0, C0, cc0, rfl, _, _⟩ := shapeM hr0
  have HR0 := Lib.hid hr0
  clear hr0
  have HK0 := Lib.hid hk0
  clear hk0
  have T0 := Lib.hid ht
  clear ht
  generalize hv0 : fmtMd d0.du d0.us d0.co = r0
  have HV0 := Lib.hid hv0
  clear hv0
  have S0 := Lib.hid (Sn.start w)
  have S1 := Lib.hid (S0.out.box 24 [.int .i64 d0.du, .slice U0 d0.us.length cu0, .slice C0 d0.co.length cc0])
  clear S0
  go_enter Tryd.func3, Tryd.ntmps3
  go_wp2_with fail
  refine (szM2_any d0 _ (1048576) _ (by exact S1.out.old HR0.out) (by omega) (by omega)).mono ?_
  rintro e w2 ⟨rfl, b⟩
  have S2 := Lib.hid (S1.out.go b)
  clear S1 b
  by_cases hbig0 : (1048576 : Int) < ((d0.us.length : Int) + (d0.co.length : Int))
  · rw [if_pos hbig0]
    go_wp2
    go_ret
    exact ⟨rfl, S2.out.1⟩
  rw [if_neg hbig0]
  have hq0 : 0 ≤ (1048576 - ((d0.us.length : Int) + (d0.co.length : Int)) : Int) := by omega
  have hb0_0 : d0.us.length ≤ 1048576 := by omega
  have hb0_1 : d0.co.length ≤ 1048576 := by omega
  obtain ⟨c0, c1, c2, cf⟩ := (S2.out.bk 0 rfl).c3
  go_wp2_with fail
  clear c0 c1 c2 cf
  refine (toM_any d0 _ _ (by exact S2.out.old HR0.out) (by omega) (by omega)).mono ?_
  rintro e w3 ⟨v3_, F3, rfl, o, h, b⟩
  have S3 := Lib.hid (S2.out.new o h b)
  clear S2 o h b
  go_wp2_with fail
  refine (specFmtMode_any d0 _ _ (by exact S3.out.rd 0 rfl) (by omega) (by omega) (okI_inR HK0.out.2.1) (okI_inR HK0.out.2.2)).mono ?_
  rintro e w4 ⟨rfl, b⟩
  have S4 := Lib.hid (S3.out.go b)
  clear S3 b
  rw [HV0.out]
  obtain ⟨c0, c1, c2, cf⟩ := (S4.out.bk 1 rfl).c3
  go_wp2_with fail
  clear c0 c1 c2 cf
  refine (toM_any d0 _ _ (by exact S4.out.old HR0.out) (by omega) (by omega)).mono ?_
  rintro e w5 ⟨v5_, F5, rfl, o, h, b⟩
  obtain ⟨U_5, cu_5, C_5, cc_5, rfl, _, _⟩ := shapeM (Tr.own_rd _ _ _ o)
  have S5 := Lib.hid ((S4.out.new o h b).box 27 [.int .i64 d0.du, .slice U_5 d0.us.length cu_5, .slice C_5 d0.co.length cc_5])
  clear S4 o h b
  obtain ⟨x0, x1, x2, xf⟩ := (S5.out.bk 0 rfl).c3
  go_wp2_with fail
  clear x0 x1 x2 xf
  refine (implFmtMode_any d0 _ _ (by exact S5.out.rd 1 rfl) (by omega) (by omega) (okI_inR HK0.out.2.1) (okI_inR HK0.out.2.2) (by exact T0.out.below S5.out.1 (Nat.le_refl _))).mono ?_
  rintro e w6 ⟨rfl, b⟩
  have S6 := Lib.hid (S5.out.go b)
  clear S5 b
  rw [HV0.out]
  obtain ⟨c0, c1, c2, cf⟩ := (S6.out.bk 0 rfl).c3
  obtain ⟨g0, g1, g2, gf⟩ := (S6.out.bk 3 rfl).c3
  have S7 := Lib.hid (S6.out.drew1)
  clear S6
  go_wp2_with fail
  go_region_with (first
    | (go_at_call 7; refine (toM_any d0 _ _ (by exact S7.out.old HR0.out) (by omega) (by omega)).mono ?_; rintro e w8 ⟨v8_, F8, rfl, o, h, b⟩; have S8 := Lib.hid (S7.out.new o h b); obtain ⟨e0, e1, e2, ef⟩ := (S8.out.bk 1 rfl).c3; clear S7 o h b)
    | (go_at_call 9; refine (eqM_any d0 d0 _ _ _ (by exact S8.out.rd 2 rfl) (by exact S8.out.rd 0 rfl)).mono ?_; rintro e w9 ⟨rfl, b⟩; rw [decide_eq_true rfl]; have S9 := Lib.hid (S8.out.go b); clear S8 b))
  all_goals
    clear c0 c1 c2 cf g0 g1 g2 gf
    try clear e0 e1 e2 ef
    go_wp2
    go_ret
    exact ⟨rfl, S9.out.1⟩
end Go.Proofs.YtlnbkhfjbpnbfaaDoor
