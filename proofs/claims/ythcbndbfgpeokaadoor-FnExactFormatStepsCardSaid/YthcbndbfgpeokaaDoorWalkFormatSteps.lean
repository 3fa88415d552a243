/- DERIVED. The walk of the law FnExactFormatSteps, by contracts. -/
import Derived.Test.YthcbndbfgpeokaaDoorStpF
import Derived.Test.YthcbndbfgpeokaaDoorStpS
import Derived.Test.YthcbndbfgpeokaaDoorPairs
import Derived.Test.YthcbndbfgpeokaaDoorSt
namespace Go.Proofs.YthcbndbfgpeokaaDoor
open Go.RowKit
set_option maxRecDepth 100000 in
set_option maxHeartbeats 2000000 in
theorem walkFnExactFormatSteps (c0 : Option Addr) (len0 cap0 : Nat) (zs0 : List (Int × Int)) (w : World) (hz0 : IsPairs w c0 len0 cap0 zs0) (ht : TB w) :
    Calls Tryd.prog 4 #[.slice c0 len0 cap0] w fun e w' => e = .returned (.bool true) ∧ Below w.heap.size w w' := by
  have hlz0 := (isPairs_rd hz0).1
  have hr0 := (isPairs_rd hz0).2
  generalize hxs0 : zs0.take len0 = xs0 at hr0
  have hlen0 : xs0.length = len0 := by rw [← hxs0]; simp; omega
  have hlm0 : xs0.length ≤ maxLen := by simpa using hr0.1
  unfold maxLen at hlm0
  clear hz0 hxs0
  have HR0 := Lib.hid hr0
  clear hr0
  subst hlen0
  have T0 := Lib.hid ht
  clear ht
  generalize hv0 : fmtSteps xs0 = r0
  have HV0 := Lib.hid hv0
  clear hv0
  have S0 := Lib.hid (St.start w)
  go_enter Tryd.func4, Tryd.ntmps4
  go_wp2_with fail
  refine (szP_any _ _ _ (1048576) _ (by omega) (by omega) (by omega)).mono ?_
  rintro e wz0 ⟨rfl, hwz⟩
  subst hwz
  by_cases hbig0 : (1048576 : Int) < (xs0.length : Int)
  · rw [if_pos hbig0]
    go_wp2
    go_ret
    exact ⟨rfl, Below.refl _ _⟩
  rw [if_neg hbig0]
  have hl0 : xs0.length ≤ 1048576 := by omega
  go_wp2_with fail
  refine (toP_any xs0 _ _ (by exact S0.out.oldN HR0.out) (by omega)).mono ?_
  rintro e w1 ⟨v1, rfl, o, b⟩
  have S1 := Lib.hid (S0.out.new o b)
  clear S0
  clear o b
  go_wp2_with fail
  refine (specFmtP_any xs0 v1 _ (own_rdP (by exact S1.out.own 0 rfl) (by unfold maxLen; omega))).mono ?_
  rintro e w2 ⟨rfl, b⟩
  have S2 := Lib.hid (S1.out.go b)
  clear S1
  clear b
  rw [HV0.out]
  go_wp2_with fail
  refine (toP_any xs0 _ _ (by exact S2.out.oldN HR0.out) (by omega)).mono ?_
  rintro e w3 ⟨v3, rfl, o, b⟩
  have S3 := Lib.hid (S2.out.new o b)
  clear S2
  clear o b
  go_wp2_with fail
  refine (implFmtP_any xs0 v3 _ (own_rdP (by exact S3.out.own 0 rfl) (by unfold maxLen; omega)) (by exact T0.out.below S3.out.1 (Nat.le_refl _))).mono ?_
  rintro e w4 ⟨rfl, b⟩
  have S4 := Lib.hid (S3.out.go b)
  clear S3
  clear b
  rw [HV0.out]
  go_wp2_with fail
  refine (toP_any xs0 _ _ (by exact S4.out.oldN HR0.out) (by omega)).mono ?_
  rintro e w5 ⟨v5, rfl, o, b⟩
  have S5 := Lib.hid (S4.out.new o b)
  clear S4
  clear o b
  go_wp2_with fail
  refine (eqP_any xs0 xs0 _ _ _ (own_rdP (by exact S5.out.own 1 rfl) (by unfold maxLen; omega)) (own_rdP (by exact S5.out.own 0 rfl) (by unfold maxLen; omega))).mono ?_
  rintro e w6 ⟨rfl, b⟩
  rw [decide_eq_true rfl]
  have S6 := Lib.hid (S5.out.go b)
  clear S5
  clear b
  go_wp2
  go_ret
  exact ⟨rfl, S6.out.1⟩
end Go.Proofs.YthcbndbfgpeokaaDoor
