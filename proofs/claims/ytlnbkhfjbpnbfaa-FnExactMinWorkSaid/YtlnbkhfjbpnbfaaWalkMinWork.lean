/- DERIVED. The walk of the law FnExactMinWork, by contracts. -/
import Derived.Test.YtlnbkhfjbpnbfaaActE
import Derived.Test.YtlnbkhfjbpnbfaaModU
import Derived.Test.YtlnbkhfjbpnbfaaShp
namespace Go.Proofs.Ytlnbkhfjbpnbfaa
open Go.RowKit
set_option maxRecDepth 100000 in
set_option maxHeartbeats 4000000 in
theorem walkFnExactMinWork (v0 : Value) (d0 : Ac) (c1 : Option Addr) (len1 cap1 : Nat) (zs1 : List Int) (a2 : Int) (w : World) (hr0 : (trA d0).rd w v0) (hk0 : d0.nm.size ≤ maxLen) (hz1 : IsInts w c1 len1 cap1 zs1) (hw2 : (Lit.int .i64 a2).wf = true) :
    Calls Try.prog 10 #[v0, .slice c1 len1 cap1, .int .i64 a2] w fun e w' => e = .returned (.bool true) ∧ Below w.heap.size w w' := by
  obtain ⟨U0, cu0, rfl⟩ := shapeA hr0
  have HR0 := Lib.hid hr0
  clear hr0
  have HK0 := Lib.hid hk0
  clear hk0
  have hlz1 := (isInts_rd hz1).1
  have hr1 := (isInts_rd hz1).2
  generalize hxs1 : zs1.take len1 = d1 at hr1
  have hlen1 : d1.length = len1 := by rw [← hxs1]; simp; omega
  have hlm1 : d1.length ≤ maxLen := by simpa using hr1.1
  unfold maxLen at hlm1
  clear hz1 hxs1
  have HR1 := Lib.hid hr1
  clear hr1
  subst hlen1
  have HW2 := Lib.hid hw2
  clear hw2
  by_cases hbig1 : (1048576 : Int) < d1.length
  · go_enter Try.func10, Try.ntmps10
    go_wp2
    go_ret
    exact ⟨rfl, (Below.refl _ _).alloc (Nat.le_refl _) _⟩
  have hl1 : d1.length ≤ 1048576 := by omega
  clear hbig1
  generalize hv0 : selB ltB (leastV a2 false true) d0.ms d1 = r0
  have HV0 := Lib.hid hv0
  clear hv0
  have S0 := Lib.hid (Sn.start w)
  have S1 := Lib.hid (S0.out.box 33 [.string d0.nm, .int .i64 d0.fa, .slice U0 d0.ms.length cu0])
  clear S0
  go_enter Try.func10, Try.ntmps10
  go_wp2_with fail
  refine (szA2_any d0 _ (1048576) _ HK0.out (by exact S1.out.old HR0.out) (by omega) (by omega)).mono ?_
  rintro e w2 ⟨rfl, b⟩
  have S2 := Lib.hid (S1.out.go b)
  clear S1 b
  by_cases hbig0 : (1048576 : Int) < ((d0.nm.size : Int) + ((d0.ms.length : Int) + (szMs d0.ms : Int)))
  · rw [if_pos hbig0]
    go_wp2
    go_ret
    exact ⟨rfl, S2.out.1⟩
  rw [if_neg hbig0]
  have hq0 : 0 ≤ (1048576 - ((d0.nm.size : Int) + ((d0.ms.length : Int) + (szMs d0.ms : Int))) : Int) := by omega
  have hb0_0 : d0.ms.length + szMs d0.ms ≤ 1048576 := by omega
  obtain ⟨c0, c1, c2, cf⟩ := (S2.out.bk 0 rfl).c3
  go_wp2_with fail
  clear c0 c1 c2 cf
  refine (toA_any d0 _ _ (by exact S2.out.old HR0.out) (by omega)).mono ?_
  rintro e w3 ⟨v3_, F3, rfl, o, h, b⟩
  have S3 := Lib.hid (S2.out.new o h b)
  clear S2 o h b
  go_wp2_with fail
  refine (toI_any d1 _ _ (by exact HR1.out.below S3.out.1 (Nat.le_refl _)) (by omega)).mono ?_
  rintro e w4 ⟨v4_, rfl, o, b⟩
  have S4 := Lib.hid (S3.out.newI o b)
  clear S3 o b
  go_wp2_with fail
  refine (specMinWork_any d0 d1 a2 _ v4_ _ (by exact S4.out.rd 1 rfl) (by exact S4.out.rdI 0 rfl)).mono ?_
  rintro e w5 ⟨rfl, b⟩
  have S5 := Lib.hid (S4.out.go b)
  clear S4 b
  rw [HV0.out]
  obtain ⟨c0, c1, c2, cf⟩ := (S5.out.bk 2 rfl).c3
  go_wp2_with fail
  clear c0 c1 c2 cf
  refine (toA_any d0 _ _ (by exact S5.out.old HR0.out) (by omega)).mono ?_
  rintro e w6 ⟨v6_, F6, rfl, o, h, b⟩
  obtain ⟨U_6, cu_6, rfl⟩ := shapeA (Tr.own_rd _ _ _ o)
  have S6 := Lib.hid ((S5.out.new o h b).box 38 [.string d0.nm, .int .i64 d0.fa, .slice U_6 d0.ms.length cu_6])
  clear S5 o h b
  go_wp2_with fail
  refine (toI_any d1 _ _ (by exact HR1.out.below S6.out.1 (Nat.le_refl _)) (by omega)).mono ?_
  rintro e w7 ⟨v7_, rfl, o, b⟩
  have S7 := Lib.hid (S6.out.newI o b)
  clear S6 o b
  obtain ⟨x0, x1, x2, xf⟩ := (S7.out.bk 1 rfl).c3
  go_wp2_with fail
  clear x0 x1 x2 xf
  refine (implMinWork_any d0 d1 a2 _ v7_ _ (by exact S7.out.rd 2 rfl) (by exact S7.out.rdI 0 rfl)).mono ?_
  rintro e w8 ⟨rfl, b⟩
  have S8 := Lib.hid (S7.out.go b)
  clear S7 b
  rw [HV0.out]
  obtain ⟨c0, c1, c2, cf⟩ := (S8.out.bk 1 rfl).c3
  obtain ⟨g0, g1, g2, gf⟩ := (S8.out.bk 5 rfl).c3
  have S9 := Lib.hid (S8.out.drew1)
  clear S8
  go_wp2_with fail
  go_region_with (first
    | (go_at_call 19; refine (toA_any d0 _ _ (by exact S9.out.old HR0.out) (by omega)).mono ?_; rintro e w10 ⟨v10_, F10, rfl, o, h, b⟩; have S10 := Lib.hid (S9.out.new o h b); obtain ⟨e0, e1, e2, ef⟩ := (S10.out.bk 2 rfl).c3; clear S9 o h b)
    | (go_at_call 21; refine (eqA_any d0 d0 _ _ _ (by exact S10.out.rd 3 rfl) (by exact S10.out.rd 0 rfl)).mono ?_; rintro e w11 ⟨rfl, b⟩; rw [decide_eq_true rfl]; have S11 := Lib.hid (S10.out.go b); clear S10 b))
  all_goals
    clear c0 c1 c2 cf g0 g1 g2 gf
    try clear e0 e1 e2 ef
    go_wp2_with fail
    refine (toI_any d1 _ _ (by exact HR1.out.below S11.out.1 (Nat.le_refl _)) (by omega)).mono ?_
    rintro e w12 ⟨v12_, rfl, o, b⟩
    have S12 := Lib.hid (S11.out.newI o b)
    clear S11 o b
    go_wp2_with fail
    refine (eqI_any d1 d1 _ _ _ (by exact S12.out.rdI 2 rfl) (by exact S12.out.rdI 0 rfl)).mono ?_
    rintro e w13 ⟨rfl, q, rfl⟩
    rw [decide_eq_true rfl]
    have S13 := Lib.hid (S12.out.drew q)
    clear S12
    go_wp2
    go_ret
    exact ⟨rfl, S13.out.1⟩
end Go.Proofs.Ytlnbkhfjbpnbfaa
