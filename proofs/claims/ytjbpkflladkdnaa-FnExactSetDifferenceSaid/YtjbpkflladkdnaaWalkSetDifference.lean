/- DERIVED. The walk of the law FnExactSetDifference, by contracts. -/
import Derived.Test.YtjbpkflladkdnaaSetE
import Derived.Test.YtjbpkflladkdnaaSetF
import Derived.Test.YtjbpkflladkdnaaSt
namespace Go.Proofs.Ytjbpkflladkdnaa
open Go.RowKit
set_option maxRecDepth 100000 in
set_option maxHeartbeats 2000000 in
theorem walkFnExactSetDifference (c0 : Option Addr) (len0 cap0 : Nat) (zs0 : List Int) (c1 : Option Addr) (len1 cap1 : Nat) (zs1 : List Int) (w : World) (hz0 : IsInts w c0 len0 cap0 zs0) (hz1 : IsInts w c1 len1 cap1 zs1) :
    Calls Try.prog 11 #[.slice c0 len0 cap0, .slice c1 len1 cap1] w fun e w' => e = .returned (.bool true) ∧ Below w.heap.size w w' := by
  have hlz0 := (isInts_rd hz0).1
  have hr0 := (isInts_rd hz0).2
  generalize hxs0 : zs0.take len0 = xs0 at hr0
  have hlen0 : xs0.length = len0 := by rw [← hxs0]; simp; omega
  have hlm0 : xs0.length ≤ maxLen := by simpa using hr0.1
  unfold maxLen at hlm0
  clear hz0 hxs0
  have HR0 := Lib.hid hr0
  clear hr0
  subst hlen0
  have hlz1 := (isInts_rd hz1).1
  have hr1 := (isInts_rd hz1).2
  generalize hxs1 : zs1.take len1 = xs1 at hr1
  have hlen1 : xs1.length = len1 := by rw [← hxs1]; simp; omega
  have hlm1 : xs1.length ≤ maxLen := by simpa using hr1.1
  unfold maxLen at hlm1
  clear hz1 hxs1
  have HR1 := Lib.hid hr1
  clear hr1
  subst hlen1
  by_cases hbig0 : (1048576 : Int) < xs0.length
  · go_enter Try.func11, Try.ntmps11
    go_wp2
    go_ret
    exact ⟨rfl, Below.refl _ _⟩
  have hl0 : xs0.length ≤ 1048576 := by omega
  clear hbig0
  by_cases hbig1 : (1048576 : Int) < xs1.length
  · go_enter Try.func11, Try.ntmps11
    go_wp2
    go_ret
    exact ⟨rfl, Below.refl _ _⟩
  have hl1 : xs1.length ≤ 1048576 := by omega
  clear hbig1
  have hn0 : (diffB xs0 xs1).length ≤ xs0.length := Nat.le_trans (len_setB _) (List.length_filter_le _ _)
  generalize hv0 : diffB xs0 xs1 = ys0 at hn0
  have HV0 := Lib.hid hv0
  clear hv0
  have S0 := Lib.hid (St.start w)
  go_enter Try.func11, Try.ntmps11
  go_wp2_with fail
  refine (toI_any xs0 _ _ (by exact S0.out.old HR0.out) (by omega)).mono ?_
  rintro e w1 ⟨v1, rfl, o, b⟩
  have S1 := Lib.hid (S0.out.new o b)
  clear S0
  clear o b
  go_wp2_with fail
  refine (toI_any xs1 _ _ (by exact S1.out.old HR1.out) (by omega)).mono ?_
  rintro e w2 ⟨v2, rfl, o, b⟩
  have S2 := Lib.hid (S1.out.new o b)
  clear S1
  clear o b
  go_wp2_with fail
  refine (specDiff_any xs0 xs1 v1 v2 _ (by exact S2.out.rd 1 rfl (by unfold maxLen; omega)) (by exact S2.out.rd 0 rfl (by unfold maxLen; omega)) (by omega)).mono ?_
  rintro e w3 ⟨v3, rfl, o, b⟩
  rw [HV0.out] at o
  have S3 := Lib.hid (S2.out.new o b)
  clear S2
  clear o b
  go_wp2_with fail
  refine (toI_any xs0 _ _ (by exact S3.out.old HR0.out) (by omega)).mono ?_
  rintro e w4 ⟨v4, rfl, o, b⟩
  have S4 := Lib.hid (S3.out.new o b)
  clear S3
  clear o b
  go_wp2_with fail
  refine (toI_any xs1 _ _ (by exact S4.out.old HR1.out) (by omega)).mono ?_
  rintro e w5 ⟨v5, rfl, o, b⟩
  have S5 := Lib.hid (S4.out.new o b)
  clear S4
  clear o b
  go_wp2_with fail
  refine (implDiff_any xs0 xs1 v4 v5 _ (by exact S5.out.rd 1 rfl (by unfold maxLen; omega)) (by exact nilOk_own (S5.out.own 1 rfl)) (by exact S5.out.rd 0 rfl (by unfold maxLen; omega)) (by exact nilOk_own (S5.out.own 0 rfl)) (by omega) (by omega)).mono ?_
  rintro e w6 ⟨v6, rfl, o, b⟩
  rw [HV0.out] at o
  have S6 := Lib.hid (S5.out.new o b)
  clear S5
  clear o b
  go_wp2_with fail
  refine (eqI_any ys0 ys0 _ _ _ (by exact S6.out.rd 0 rfl (by unfold maxLen; omega)) (by exact S6.out.rd 3 rfl (by unfold maxLen; omega))).mono ?_
  rintro e w7 ⟨rfl, q, rfl⟩
  rw [decide_eq_true rfl]
  have S7 := Lib.hid (S6.out.drew q)
  clear S6
  go_wp2_with fail
  refine (toI_any xs0 _ _ (by exact S7.out.old HR0.out) (by omega)).mono ?_
  rintro e w8 ⟨v8, rfl, o, b⟩
  have S8 := Lib.hid (S7.out.new o b)
  clear S7
  clear o b
  go_wp2_with fail
  refine (eqI_any xs0 xs0 _ _ _ (by exact S8.out.rd 3 rfl (by unfold maxLen; omega)) (by exact S8.out.rd 0 rfl (by unfold maxLen; omega))).mono ?_
  rintro e w9 ⟨rfl, q, rfl⟩
  rw [decide_eq_true rfl]
  have S9 := Lib.hid (S8.out.drew q)
  clear S8
  go_wp2_with fail
  refine (toI_any xs1 _ _ (by exact S9.out.old HR1.out) (by omega)).mono ?_
  rintro e w10 ⟨v10, rfl, o, b⟩
  have S10 := Lib.hid (S9.out.new o b)
  clear S9
  clear o b
  go_wp2_with fail
  refine (eqI_any xs1 xs1 _ _ _ (by exact S10.out.rd 3 rfl (by unfold maxLen; omega)) (by exact S10.out.rd 0 rfl (by unfold maxLen; omega))).mono ?_
  rintro e w11 ⟨rfl, q, rfl⟩
  rw [decide_eq_true rfl]
  have S11 := Lib.hid (S10.out.drew q)
  clear S10
  go_wp2_with fail
  refine (markI_any 1 xs0.length _ _ _ _ (by exact S11.out.own 4 rfl) (by omega) (by omega)).mono ?_
  rintro e w12 ⟨rfl, o, g⟩
  have S12 := Lib.hid (S11.out.mark 4 rfl o g)
  clear S11
  clear o g
  go_wp2_with fail
  refine (markI_any (1 + xs0.length) xs1.length _ _ _ _ (by exact S12.out.own 3 rfl) (by omega) (by omega)).mono ?_
  rintro e w13 ⟨rfl, o, g⟩
  have S13 := Lib.hid (S12.out.mark 3 rfl o g)
  clear S12
  clear o g
  go_wp2_with fail
  refine (eqI_any ys0 ys0 _ _ _ (by exact S13.out.rd 2 rfl (by unfold maxLen; omega)) (by exact S13.out.rd 5 rfl (by unfold maxLen; omega))).mono ?_
  rintro e w14 ⟨rfl, q, rfl⟩
  rw [decide_eq_true rfl]
  have S14 := Lib.hid (S13.out.drew q)
  clear S13
  go_wp2_with fail
  refine (markI_any 1 ys0.length _ _ _ _ (by exact S14.out.own 2 rfl) (by omega) (by omega)).mono ?_
  rintro e w15 ⟨rfl, o, g⟩
  have S15 := Lib.hid (S14.out.mark 2 rfl o g)
  clear S14
  clear o g
  go_wp2_with fail
  refine (heldI_any 1 ys0.length _ _ (by exact S15.out.rd 2 rfl (by unfold maxLen; omega)) (by omega) (by omega)).mono ?_
  rintro e w16 ⟨rfl, b⟩
  have S16 := Lib.hid (S15.out.go b)
  clear S15
  clear b
  go_wp2_with fail
  refine (toI_any xs0 _ _ (by exact S16.out.old HR0.out) (by omega)).mono ?_
  rintro e w17 ⟨v17, rfl, o, b⟩
  have S17 := Lib.hid (S16.out.new o b)
  clear S16
  clear o b
  go_wp2_with fail
  refine (toI_any xs1 _ _ (by exact S17.out.old HR1.out) (by omega)).mono ?_
  rintro e w18 ⟨v18, rfl, o, b⟩
  have S18 := Lib.hid (S17.out.new o b)
  clear S17
  clear o b
  go_wp2_with fail
  refine (implDiff_any xs0 xs1 v17 v18 _ (by exact S18.out.rd 1 rfl (by unfold maxLen; omega)) (by exact nilOk_own (S18.out.own 1 rfl)) (by exact S18.out.rd 0 rfl (by unfold maxLen; omega)) (by exact nilOk_own (S18.out.own 0 rfl)) (by omega) (by omega)).mono ?_
  rintro e w19 ⟨v19, rfl, o, b⟩
  rw [HV0.out] at o
  have S19 := Lib.hid (S18.out.new o b)
  clear S18
  clear o b
  go_wp2_with fail
  refine (eqI_any ys0 ys0 _ _ _ (by exact S19.out.rd 0 rfl (by unfold maxLen; omega)) (by exact S19.out.rd 8 rfl (by unfold maxLen; omega))).mono ?_
  rintro e w20 ⟨rfl, q, rfl⟩
  rw [decide_eq_true rfl]
  have S20 := Lib.hid (S19.out.drew q)
  clear S19
  go_wp2_with fail
  refine (heldI_any 1 ys0.length _ _ (by exact S20.out.rd 5 rfl (by unfold maxLen; omega)) (by omega) (by omega)).mono ?_
  rintro e w21 ⟨rfl, b⟩
  have S21 := Lib.hid (S20.out.go b)
  clear S20
  clear b
  go_wp2
  go_ret
  exact ⟨rfl, S21.out.1⟩
end Go.Proofs.Ytjbpkflladkdnaa
