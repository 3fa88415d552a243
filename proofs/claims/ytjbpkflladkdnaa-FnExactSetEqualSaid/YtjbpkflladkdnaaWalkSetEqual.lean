/- DERIVED. The walk of the law FnExactSetEqual, by contracts. -/
import Derived.Test.YtjbpkflladkdnaaSetE
import Derived.Test.YtjbpkflladkdnaaSt
namespace Go.Proofs.Ytjbpkflladkdnaa
open Go.RowKit
set_option maxRecDepth 100000 in
set_option maxHeartbeats 2000000 in
theorem walkFnExactSetEqual (c0 : Option Addr) (len0 cap0 : Nat) (zs0 : List Int) (c1 : Option Addr) (len1 cap1 : Nat) (zs1 : List Int) (w : World) (hz0 : IsInts w c0 len0 cap0 zs0) (hz1 : IsInts w c1 len1 cap1 zs1) :
    Calls Try.prog 13 #[.slice c0 len0 cap0, .slice c1 len1 cap1] w fun e w' => e = .returned (.bool true) ∧ Below w.heap.size w w' := by
  have hlz0 := (isInts_rd hz0).1
  have hr0 := (isInts_rd hz0).2
  generalize hxs0 : zs0.take len0 = xs0 at hr0
  have hlen0 : xs0.length = len0 := by rw [← hxs0]; simp; omega
  have hlm0 : xs0.length ≤ maxLen := by simpa using hr0.1
  unfold maxLen at hlm0
  clear hz0 hxs0
  have HR0 := Lib.hid hr0
  clear hr0
  subst hlen0
  have hlz1 := (isInts_rd hz1).1
  have hr1 := (isInts_rd hz1).2
  generalize hxs1 : zs1.take len1 = xs1 at hr1
  have hlen1 : xs1.length = len1 := by rw [← hxs1]; simp; omega
  have hlm1 : xs1.length ≤ maxLen := by simpa using hr1.1
  unfold maxLen at hlm1
  clear hz1 hxs1
  have HR1 := Lib.hid hr1
  clear hr1
  subst hlen1
  by_cases hbig0 : (1048576 : Int) < xs0.length
  · go_enter Try.func13, Try.ntmps13
    go_wp2
    go_ret
    exact ⟨rfl, Below.refl _ _⟩
  have hl0 : xs0.length ≤ 1048576 := by omega
  clear hbig0
  by_cases hbig1 : (1048576 : Int) < xs1.length
  · go_enter Try.func13, Try.ntmps13
    go_wp2
    go_ret
    exact ⟨rfl, Below.refl _ _⟩
  have hl1 : xs1.length ≤ 1048576 := by omega
  clear hbig1
  generalize hv0 : eqB xs0 xs1 = r0
  have HV0 := Lib.hid hv0
  clear hv0
  have S0 := Lib.hid (St.start w)
  go_enter Try.func13, Try.ntmps13
  go_wp2_with fail
  refine (toI_any xs0 _ _ (by exact S0.out.old HR0.out) (by omega)).mono ?_
  rintro e w1 ⟨v1, rfl, o, b⟩
  have S1 := Lib.hid (S0.out.new o b)
  clear S0
  clear o b
  go_wp2_with fail
  refine (toI_any xs1 _ _ (by exact S1.out.old HR1.out) (by omega)).mono ?_
  rintro e w2 ⟨v2, rfl, o, b⟩
  have S2 := Lib.hid (S1.out.new o b)
  clear S1
  clear o b
  go_wp2_with fail
  refine (specEqual_any xs0 xs1 v1 v2 _ (by exact S2.out.rd 1 rfl (by unfold maxLen; omega)) (by exact S2.out.rd 0 rfl (by unfold maxLen; omega))).mono ?_
  rintro e w3 ⟨rfl, b⟩
  have S3 := Lib.hid (S2.out.go b)
  clear S2
  clear b
  rw [HV0.out]
  go_wp2_with fail
  refine (toI_any xs0 _ _ (by exact S3.out.old HR0.out) (by omega)).mono ?_
  rintro e w4 ⟨v4, rfl, o, b⟩
  have S4 := Lib.hid (S3.out.new o b)
  clear S3
  clear o b
  go_wp2_with fail
  refine (toI_any xs1 _ _ (by exact S4.out.old HR1.out) (by omega)).mono ?_
  rintro e w5 ⟨v5, rfl, o, b⟩
  have S5 := Lib.hid (S4.out.new o b)
  clear S4
  clear o b
  go_wp2_with fail
  refine (implEqual_any xs0 xs1 v4 v5 _ (by exact S5.out.rd 1 rfl (by unfold maxLen; omega)) (by exact S5.out.rd 0 rfl (by unfold maxLen; omega))).mono ?_
  rintro e w6 ⟨rfl, b⟩
  have S6 := Lib.hid (S5.out.go b)
  clear S5
  clear b
  rw [HV0.out]
  go_wp2_with fail
  refine (toI_any xs0 _ _ (by exact S6.out.old HR0.out) (by omega)).mono ?_
  rintro e w7 ⟨v7, rfl, o, b⟩
  have S7 := Lib.hid (S6.out.new o b)
  clear S6
  clear o b
  go_wp2_with fail
  refine (eqI_any xs0 xs0 _ _ _ (by exact S7.out.rd 2 rfl (by unfold maxLen; omega)) (by exact S7.out.rd 0 rfl (by unfold maxLen; omega))).mono ?_
  rintro e w8 ⟨rfl, q, rfl⟩
  rw [decide_eq_true rfl]
  have S8 := Lib.hid (S7.out.drew q)
  clear S7
  go_wp2_with fail
  refine (toI_any xs1 _ _ (by exact S8.out.old HR1.out) (by omega)).mono ?_
  rintro e w9 ⟨v9, rfl, o, b⟩
  have S9 := Lib.hid (S8.out.new o b)
  clear S8
  clear o b
  go_wp2_with fail
  refine (eqI_any xs1 xs1 _ _ _ (by exact S9.out.rd 2 rfl (by unfold maxLen; omega)) (by exact S9.out.rd 0 rfl (by unfold maxLen; omega))).mono ?_
  rintro e w10 ⟨rfl, q, rfl⟩
  rw [decide_eq_true rfl]
  have S10 := Lib.hid (S9.out.drew q)
  clear S9
  go_wp2
  go_ret
  exact ⟨rfl, S10.out.1⟩
end Go.Proofs.Ytjbpkflladkdnaa
