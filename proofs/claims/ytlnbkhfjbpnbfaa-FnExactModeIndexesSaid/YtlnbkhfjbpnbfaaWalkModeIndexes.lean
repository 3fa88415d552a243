/- DERIVED. The walk of the law FnExactModeIndexes, by contracts. -/
import Derived.Test.YtlnbkhfjbpnbfaaActF
import Derived.Test.YtlnbkhfjbpnbfaaModU
import Derived.Test.YtlnbkhfjbpnbfaaModK
import Derived.Test.YtlnbkhfjbpnbfaaShp
namespace Go.Proofs.Ytlnbkhfjbpnbfaa
open Go.RowKit
set_option maxRecDepth 100000 in
set_option maxHeartbeats 4000000 in
theorem walkFnExactModeIndexes (v0 : Value) (d0 : Ac) (w : World) (hr0 : (trA d0).rd w v0) (hk0 : d0.nm.size ≤ maxLen) :
    Calls Try.prog 5 #[v0] w fun e w' => e = .returned (.bool true) ∧ Below w.heap.size w w' := by
  obtain ⟨U0, cu0, rfl⟩ := shapeA hr0
  have HR0 := Lib.hid hr0
  clear hr0
  have HK0 := Lib.hid hk0
  clear hk0
  have hn0 : (rangeB (d0.ms.length : Int)).length ≤ 200 := by unfold rangeB; split <;> simp [upB] <;> omega
  generalize hv0 : rangeB (d0.ms.length : Int) = ys0 at hn0
  have HV0 := Lib.hid hv0
  clear hv0
  have S0 := Lib.hid (Sn.start w)
  have S1 := Lib.hid (S0.out.box 33 [.string d0.nm, .int .i64 d0.fa, .slice U0 d0.ms.length cu0])
  clear S0
  go_enter Try.func5, Try.ntmps5
  go_wp2_with fail
  refine (szA2_any d0 _ (1048576) _ HK0.out (by exact S1.out.old HR0.out) (by omega) (by omega)).mono ?_
  rintro e w2 ⟨rfl, b⟩
  have S2 := Lib.hid (S1.out.go b)
  clear S1 b
  by_cases hbig0 : (1048576 : Int) < ((d0.nm.size : Int) + ((d0.ms.length : Int) + (szMs d0.ms : Int)))
  · rw [if_pos hbig0]
    go_wp2
    go_ret
    exact ⟨rfl, S2.out.1⟩
  rw [if_neg hbig0]
  have hq0 : 0 ≤ (1048576 - ((d0.nm.size : Int) + ((d0.ms.length : Int) + (szMs d0.ms : Int))) : Int) := by omega
  have hb0_0 : d0.ms.length + szMs d0.ms ≤ 1048576 := by omega
  obtain ⟨c0, c1, c2, cf⟩ := (S2.out.bk 0 rfl).c3
  go_wp2_with fail
  clear c0 c1 c2 cf
  refine (toA_any d0 _ _ (by exact S2.out.old HR0.out) (by omega)).mono ?_
  rintro e w3 ⟨v3_, F3, rfl, o, h, b⟩
  have S3 := Lib.hid (S2.out.new o h b)
  clear S2 o h b
  go_wp2_with fail
  refine (specModeIndexes_any d0 _ _ (by exact S3.out.rd 0 rfl)).mono ?_
  rintro e w4 ⟨v4_, rfl, o, b⟩
  rw [HV0.out] at o
  have S4 := Lib.hid (S3.out.newI o b)
  clear S3 o b
  obtain ⟨c0, c1, c2, cf⟩ := (S4.out.bk 2 rfl).c3
  go_wp2_with fail
  clear c0 c1 c2 cf
  refine (toA_any d0 _ _ (by exact S4.out.old HR0.out) (by omega)).mono ?_
  rintro e w5 ⟨v5_, F5, rfl, o, h, b⟩
  obtain ⟨U_5, cu_5, rfl⟩ := shapeA (Tr.own_rd _ _ _ o)
  have S5 := Lib.hid ((S4.out.new o h b).box 38 [.string d0.nm, .int .i64 d0.fa, .slice U_5 d0.ms.length cu_5])
  clear S4 o h b
  obtain ⟨x0, x1, x2, xf⟩ := (S5.out.bk 0 rfl).c3
  go_wp2_with fail
  clear x0 x1 x2 xf
  refine (implModeIndexes_any d0 _ _ (by exact S5.out.rd 1 rfl)).mono ?_
  rintro e w6 ⟨v6_, rfl, o, b⟩
  rw [HV0.out] at o
  have S6 := Lib.hid (S5.out.newI o b)
  clear S5 o b
  go_wp2_with fail
  refine (eqI_any ys0 ys0 _ _ _ (by exact S6.out.rdI 0 rfl) (by exact S6.out.rdI 3 rfl)).mono ?_
  rintro e w7 ⟨rfl, hq⟩
  rw [decide_eq_true rfl]
  have b := below_of_drewN hq
  clear hq
  have S7 := Lib.hid (S6.out.go b)
  clear S6 b
  obtain ⟨c0, c1, c2, cf⟩ := (S7.out.bk 1 rfl).c3
  obtain ⟨g0, g1, g2, gf⟩ := (S7.out.bk 5 rfl).c3
  have S8 := Lib.hid (S7.out.drew1)
  clear S7
  go_wp2_with fail
  go_region_with (first
    | (go_at_call 19; refine (toA_any d0 _ _ (by exact S8.out.old HR0.out) (by omega)).mono ?_; rintro e w9 ⟨v9_, F9, rfl, o, h, b⟩; have S9 := Lib.hid (S8.out.new o h b); obtain ⟨e0, e1, e2, ef⟩ := (S9.out.bk 2 rfl).c3; clear S8 o h b)
    | (go_at_call 21; refine (eqA_any d0 d0 _ _ _ (by exact S9.out.rd 3 rfl) (by exact S9.out.rd 0 rfl)).mono ?_; rintro e w10 ⟨rfl, b⟩; rw [decide_eq_true rfl]; have S10 := Lib.hid (S9.out.go b); clear S9 b))
  all_goals
    clear c0 c1 c2 cf g0 g1 g2 gf
    try clear e0 e1 e2 ef
    obtain ⟨c0, c1, c2, cf⟩ := (S10.out.bk 2 rfl).c3
    go_wp2_with fail
    clear c0 c1 c2 cf
    refine (markA_any 1 _ d0 _ _ _ (by exact (S10.out.own 3 rfl).1) (by exact (S10.out.own 3 rfl).2) (by omega) (by omega)).mono ?_
    rintro e w11 ⟨F11, rfl, o, h, hs, g⟩
    have S11 := Lib.hid (S10.out.mark 3 rfl o h hs g)
    clear S10 o h hs g
    go_wp2_with fail
    refine (eqI_any ys0 ys0 _ _ _ (by exact S11.out.rdI 1 rfl) (by exact S11.out.rdI 4 rfl)).mono ?_
    rintro e w12 ⟨rfl, hq⟩
    rw [decide_eq_true rfl]
    have b := below_of_drewN hq
    clear hq
    have S12 := Lib.hid (S11.out.go b)
    clear S11 b
    go_wp2_with fail
    refine (markI_any 1 ys0.length _ _ _ _ (by simpa using S12.out.ownI 1 rfl) (by omega) (by omega)).mono ?_
    rintro e w13 ⟨rfl, o, g⟩
    have S13 := Lib.hid (S12.out.markI 1 rfl o g)
    clear S12 o g
    go_wp2_with fail
    refine (heldI_any 1 ys0.length _ _ (by exact S13.out.rdI 1 rfl) (by omega) (by omega)).mono ?_
    rintro e w14 ⟨rfl, b⟩
    have S14 := Lib.hid (S13.out.go b)
    clear S13 b
    obtain ⟨c0, c1, c2, cf⟩ := (S14.out.bk 6 rfl).c3
    go_wp2_with fail
    clear c0 c1 c2 cf
    refine (toA_any d0 _ _ (by exact S14.out.old HR0.out) (by omega)).mono ?_
    rintro e w15 ⟨v15_, F15, rfl, o, h, b⟩
    have S15 := Lib.hid (S14.out.new o h b)
    clear S14 o h b
    go_wp2_with fail
    refine (implModeIndexes_any d0 _ _ (by exact S15.out.rd 0 rfl)).mono ?_
    rintro e w16 ⟨v16_, rfl, o, b⟩
    rw [HV0.out] at o
    have S16 := Lib.hid (S15.out.newI o b)
    clear S15 o b
    go_wp2_with fail
    refine (eqI_any ys0 ys0 _ _ _ (by exact S16.out.rdI 0 rfl) (by exact S16.out.rdI 6 rfl)).mono ?_
    rintro e w17 ⟨rfl, hq⟩
    rw [decide_eq_true rfl]
    have b := below_of_drewN hq
    clear hq
    have S17 := Lib.hid (S16.out.go b)
    clear S16 b
    go_wp2_with fail
    refine (heldI_any 1 ys0.length _ _ (by exact S17.out.rdI 3 rfl) (by omega) (by omega)).mono ?_
    rintro e w18 ⟨rfl, b⟩
    have S18 := Lib.hid (S17.out.go b)
    clear S17 b
    go_wp2
    go_ret
    exact ⟨rfl, S18.out.1⟩
end Go.Proofs.Ytlnbkhfjbpnbfaa
