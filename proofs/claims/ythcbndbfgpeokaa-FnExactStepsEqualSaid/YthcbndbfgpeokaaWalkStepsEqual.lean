/- DERIVED. The walk of the law FnExactStepsEqual, by contracts. -/
import Derived.Test.YthcbndbfgpeokaaStpE
import Derived.Test.YthcbndbfgpeokaaPairs
import Derived.Test.YthcbndbfgpeokaaSt
namespace Go.Proofs.Ythcbndbfgpeokaa
open Go.RowKit
set_option maxRecDepth 100000 in
set_option maxHeartbeats 2000000 in
theorem walkFnExactStepsEqual (c0 : Option Addr) (len0 cap0 : Nat) (zs0 : List (Int × Int)) (c1 : Option Addr) (len1 cap1 : Nat) (zs1 : List (Int × Int)) (w : World) (hz0 : IsPairs w c0 len0 cap0 zs0) (hz1 : IsPairs w c1 len1 cap1 zs1) :
    Calls Try.prog 9 #[.slice c0 len0 cap0, .slice c1 len1 cap1] w fun e w' => e = .returned (.bool true) ∧ Below w.heap.size w w' := by
  have hlz0 := (isPairs_rd hz0).1
  have hr0 := (isPairs_rd hz0).2
  generalize hxs0 : zs0.take len0 = xs0 at hr0
  have hlen0 : xs0.length = len0 := by rw [← hxs0]; simp; omega
  have hlm0 : xs0.length ≤ maxLen := by simpa using hr0.1
  unfold maxLen at hlm0
  clear hz0 hxs0
  have HR0 := Lib.hid hr0
  clear hr0
  subst hlen0
  have hlz1 := (isPairs_rd hz1).1
  have hr1 := (isPairs_rd hz1).2
  generalize hxs1 : zs1.take len1 = xs1 at hr1
  have hlen1 : xs1.length = len1 := by rw [← hxs1]; simp; omega
  have hlm1 : xs1.length ≤ maxLen := by simpa using hr1.1
  unfold maxLen at hlm1
  clear hz1 hxs1
  have HR1 := Lib.hid hr1
  clear hr1
  subst hlen1
  generalize hv0 : decide (xs0 = xs1) = r0
  have HV0 := Lib.hid hv0
  clear hv0
  have S0 := Lib.hid (St.start w)
  go_enter Try.func9, Try.ntmps9
  go_wp2_with fail
  refine (szP_any _ _ _ (1048576) _ (by omega) (by omega) (by omega)).mono ?_
  rintro e wz0 ⟨rfl, hwz⟩
  subst hwz
  by_cases hbig0 : (1048576 : Int) < (xs0.length : Int)
  · rw [if_pos hbig0]
    go_wp2
    go_ret
    exact ⟨rfl, Below.refl _ _⟩
  rw [if_neg hbig0]
  have hl0 : xs0.length ≤ 1048576 := by omega
  go_wp2_with fail
  refine (szP_any _ _ _ (1048576 - (xs0.length : Int)) _ (by omega) (by omega) (by omega)).mono ?_
  rintro e wz1 ⟨rfl, hwz⟩
  subst hwz
  by_cases hbig1 : (1048576 - (xs0.length : Int) : Int) < (xs1.length : Int)
  · rw [if_pos hbig1]
    go_wp2
    go_ret
    exact ⟨rfl, Below.refl _ _⟩
  rw [if_neg hbig1]
  have hl1 : xs1.length ≤ 1048576 := by omega
  go_wp2_with fail
  refine (toP_any xs0 _ _ (by exact S0.out.oldN HR0.out) (by omega)).mono ?_
  rintro e w1 ⟨v1, rfl, o, b⟩
  have S1 := Lib.hid (S0.out.new o b)
  clear S0
  clear o b
  go_wp2_with fail
  refine (toP_any xs1 _ _ (by exact S1.out.oldN HR1.out) (by omega)).mono ?_
  rintro e w2 ⟨v2, rfl, o, b⟩
  have S2 := Lib.hid (S1.out.new o b)
  clear S1
  clear o b
  go_wp2_with fail
  refine (specEqualP_any xs0 xs1 v1 v2 _ (own_rdP (by exact S2.out.own 1 rfl) (by unfold maxLen; omega)) (own_rdP (by exact S2.out.own 0 rfl) (by unfold maxLen; omega))).mono ?_
  rintro e w3 ⟨rfl, b⟩
  have S3 := Lib.hid (S2.out.go b)
  clear S2
  clear b
  rw [HV0.out]
  go_wp2_with fail
  refine (toP_any xs0 _ _ (by exact S3.out.oldN HR0.out) (by omega)).mono ?_
  rintro e w4 ⟨v4, rfl, o, b⟩
  have S4 := Lib.hid (S3.out.new o b)
  clear S3
  clear o b
  go_wp2_with fail
  refine (toP_any xs1 _ _ (by exact S4.out.oldN HR1.out) (by omega)).mono ?_
  rintro e w5 ⟨v5, rfl, o, b⟩
  have S5 := Lib.hid (S4.out.new o b)
  clear S4
  clear o b
  go_wp2_with fail
  refine (implEqualP_any xs0 xs1 v4 v5 _ (own_rdP (by exact S5.out.own 1 rfl) (by unfold maxLen; omega)) (own_rdP (by exact S5.out.own 0 rfl) (by unfold maxLen; omega))).mono ?_
  rintro e w6 ⟨rfl, b⟩
  have S6 := Lib.hid (S5.out.go b)
  clear S5
  clear b
  rw [HV0.out]
  go_wp2_with fail
  refine (toP_any xs0 _ _ (by exact S6.out.oldN HR0.out) (by omega)).mono ?_
  rintro e w7 ⟨v7, rfl, o, b⟩
  have S7 := Lib.hid (S6.out.new o b)
  clear S6
  clear o b
  go_wp2_with fail
  refine (eqP_any xs0 xs0 _ _ _ (own_rdP (by exact S7.out.own 2 rfl) (by unfold maxLen; omega)) (own_rdP (by exact S7.out.own 0 rfl) (by unfold maxLen; omega))).mono ?_
  rintro e w8 ⟨rfl, b⟩
  rw [decide_eq_true rfl]
  have S8 := Lib.hid (S7.out.go b)
  clear S7
  clear b
  go_wp2_with fail
  refine (toP_any xs1 _ _ (by exact S8.out.oldN HR1.out) (by omega)).mono ?_
  rintro e w9 ⟨v9, rfl, o, b⟩
  have S9 := Lib.hid (S8.out.new o b)
  clear S8
  clear o b
  go_wp2_with fail
  refine (eqP_any xs1 xs1 _ _ _ (own_rdP (by exact S9.out.own 2 rfl) (by unfold maxLen; omega)) (own_rdP (by exact S9.out.own 0 rfl) (by unfold maxLen; omega))).mono ?_
  rintro e w10 ⟨rfl, b⟩
  rw [decide_eq_true rfl]
  have S10 := Lib.hid (S9.out.go b)
  clear S9
  clear b
  go_wp2
  go_ret
  exact ⟨rfl, S10.out.1⟩
end Go.Proofs.Ythcbndbfgpeokaa
