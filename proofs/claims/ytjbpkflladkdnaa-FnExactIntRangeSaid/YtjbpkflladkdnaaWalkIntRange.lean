/- DERIVED. The walk of the law FnExactIntRange, by contracts. -/
import Derived.Test.YtjbpkflladkdnaaSetF
import Derived.Test.YtjbpkflladkdnaaSt
namespace Go.Proofs.Ytjbpkflladkdnaa
open Go.RowKit
set_option maxRecDepth 100000 in
set_option maxHeartbeats 2000000 in
theorem walkFnExactIntRange (a0 : Int) (w : World) (hw0 : (Lit.int .i64 a0).wf = true) :
    Calls Try.prog 14 #[.int .i64 a0] w fun e w' => e = .returned (.bool true) ∧ Below w.heap.size w w' := by
  have HW0 := Lib.hid hw0
  clear hw0
  have hn0 : (rangeB a0).length ≤ 200 := by unfold rangeB; split <;> simp [upB] <;> omega
  generalize hv0 : rangeB a0 = ys0 at hn0
  have HV0 := Lib.hid hv0
  clear hv0
  have S0 := Lib.hid (St.start w)
  go_enter Try.func14, Try.ntmps14
  go_wp2_with fail
  refine (specRange_any a0 _).mono ?_
  rintro e w1 ⟨v1, rfl, o, b⟩
  rw [HV0.out] at o
  have S1 := Lib.hid (S0.out.new o b)
  clear S0
  clear o b
  go_wp2_with fail
  refine (implRange_any a0 _).mono ?_
  rintro e w2 ⟨v2, rfl, o, b⟩
  rw [HV0.out] at o
  have S2 := Lib.hid (S1.out.new o b)
  clear S1
  clear o b
  go_wp2_with fail
  refine (eqI_any ys0 ys0 _ _ _ (by exact S2.out.rd 0 rfl (by unfold maxLen; omega)) (by exact S2.out.rd 1 rfl (by unfold maxLen; omega))).mono ?_
  rintro e w3 ⟨rfl, q, rfl⟩
  rw [decide_eq_true rfl]
  have S3 := Lib.hid (S2.out.drew q)
  clear S2
  go_wp2_with fail
  refine (markI_any 1 ys0.length _ _ _ _ (by exact S3.out.own 0 rfl) (by omega) (by omega)).mono ?_
  rintro e w4 ⟨rfl, o, g⟩
  have S4 := Lib.hid (S3.out.mark 0 rfl o g)
  clear S3
  clear o g
  go_wp2_with fail
  refine (heldI_any 1 ys0.length _ _ (by exact S4.out.rd 0 rfl (by unfold maxLen; omega)) (by omega) (by omega)).mono ?_
  rintro e w5 ⟨rfl, b⟩
  have S5 := Lib.hid (S4.out.go b)
  clear S4
  clear b
  go_wp2_with fail
  refine (implRange_any a0 _).mono ?_
  rintro e w6 ⟨v6, rfl, o, b⟩
  rw [HV0.out] at o
  have S6 := Lib.hid (S5.out.new o b)
  clear S5
  clear o b
  go_wp2_with fail
  refine (eqI_any ys0 ys0 _ _ _ (by exact S6.out.rd 0 rfl (by unfold maxLen; omega)) (by exact S6.out.rd 2 rfl (by unfold maxLen; omega))).mono ?_
  rintro e w7 ⟨rfl, q, rfl⟩
  rw [decide_eq_true rfl]
  have S7 := Lib.hid (S6.out.drew q)
  clear S6
  go_wp2_with fail
  refine (heldI_any 1 ys0.length _ _ (by exact S7.out.rd 1 rfl (by unfold maxLen; omega)) (by omega) (by omega)).mono ?_
  rintro e w8 ⟨rfl, b⟩
  have S8 := Lib.hid (S7.out.go b)
  clear S7
  clear b
  go_wp2
  go_ret
  exact ⟨rfl, S8.out.1⟩
end Go.Proofs.Ytjbpkflladkdnaa
