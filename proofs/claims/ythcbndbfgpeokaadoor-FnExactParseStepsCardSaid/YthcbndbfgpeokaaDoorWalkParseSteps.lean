/- DERIVED. The walk of the law FnExactParseSteps, by contracts. -/
import Derived.Test.YthcbndbfgpeokaaDoorStpQ
import Derived.Test.YthcbndbfgpeokaaDoorStpS
import Derived.Test.YthcbndbfgpeokaaDoorSt
namespace Go.Proofs.YthcbndbfgpeokaaDoor
open Go.RowKit
set_option maxRecDepth 100000 in
set_option maxHeartbeats 2000000 in
theorem walkFnExactParseSteps (a0 : ByteArray) (w : World) (hs0 : a0.size ≤ maxLen) (ht : TB w) :
    Calls Tryd.prog 5 #[.string a0] w fun e w' => e = .returned (.bool true) ∧ Below w.heap.size w w' := by
  have hs0' := hs0
  unfold maxLen at hs0'
  have HSz0 := Lib.hid hs0
  clear hs0
  have T0 := Lib.hid ht
  clear ht
  by_cases hbig0 : (1048576 : Int) < a0.size
  · go_enter Tryd.func5, Tryd.ntmps5
    go_wp2
    go_ret
    exact ⟨rfl, Below.refl _ _⟩
  have hl0 : a0.size ≤ 1048576 := by omega
  clear hbig0
  have hn0 : ((parSteps a0).1).length ≤ a0.size + 1 := parSteps_len _
  generalize hv0 : (parSteps a0).1 = ys0 at hn0
  have HV0 := Lib.hid hv0
  clear hv0
  generalize hv1 : (parSteps a0).2 = r1
  have HV1 := Lib.hid hv1
  clear hv1
  have S0 := Lib.hid (St.start w)
  go_enter Tryd.func5, Tryd.ntmps5
  go_wp2_with fail
  refine (specParP_any a0 _ (by omega)).mono ?_
  rintro e w1 ⟨v1, rfl, o, b⟩
  rw [HV0.out] at o
  have S1 := Lib.hid (S0.out.new o b)
  clear S0
  clear o b
  rw [HV1.out]
  go_wp2_with fail
  refine (implParP_any a0 _ (by omega) (by exact T0.out.below S1.out.1 (Nat.le_refl _))).mono ?_
  rintro e w2 ⟨v2, rfl, o, b⟩
  rw [HV0.out] at o
  have S2 := Lib.hid (S1.out.new o b)
  clear S1
  clear o b
  rw [HV1.out]
  go_wp2_with fail
  refine (eqP_any ys0 ys0 _ _ _ (own_rdP (by exact S2.out.own 0 rfl) (by unfold maxLen; omega)) (own_rdP (by exact S2.out.own 1 rfl) (by unfold maxLen; omega))).mono ?_
  rintro e w3 ⟨rfl, b⟩
  rw [decide_eq_true rfl]
  have S3 := Lib.hid (S2.out.go b)
  clear S2
  clear b
  go_wp2_with fail
  refine (markP_any 1 ys0.length _ _ _ _ (by exact S3.out.own 0 rfl) (by omega) (by omega)).mono ?_
  rintro e w4 ⟨rfl, o, g⟩
  have S4 := Lib.hid (S3.out.mark 0 rfl o g)
  clear S3
  clear o g
  go_wp2_with fail
  refine (heldP_any 1 ys0.length _ _ (own_rdP (by exact S4.out.own 0 rfl) (by unfold maxLen; omega)) (by omega) (by omega)).mono ?_
  rintro e w5 ⟨rfl, b⟩
  have S5 := Lib.hid (S4.out.go b)
  clear S4
  clear b
  go_wp2_with fail
  refine (implParP_any a0 _ (by omega) (by exact T0.out.below S5.out.1 (Nat.le_refl _))).mono ?_
  rintro e w6 ⟨v6, rfl, o, b⟩
  rw [HV0.out] at o
  have S6 := Lib.hid (S5.out.new o b)
  clear S5
  clear o b
  rw [HV1.out]
  go_wp2_with fail
  refine (eqP_any ys0 ys0 _ _ _ (own_rdP (by exact S6.out.own 0 rfl) (by unfold maxLen; omega)) (own_rdP (by exact S6.out.own 2 rfl) (by unfold maxLen; omega))).mono ?_
  rintro e w7 ⟨rfl, b⟩
  rw [decide_eq_true rfl]
  have S7 := Lib.hid (S6.out.go b)
  clear S6
  clear b
  go_wp2_with fail
  refine (heldP_any 1 ys0.length _ _ (own_rdP (by exact S7.out.own 1 rfl) (by unfold maxLen; omega)) (by omega) (by omega)).mono ?_
  rintro e w8 ⟨rfl, b⟩
  have S8 := Lib.hid (S7.out.go b)
  clear S7
  clear b
  go_wp2
  go_ret
  exact ⟨rfl, S8.out.1⟩
end Go.Proofs.YthcbndbfgpeokaaDoor
