/- DERIVED. The walk of the law FnExactSetRemove, by contracts. -/
import Derived.Test.YtjbpkflladkdnaaSetE
import Derived.Test.YtjbpkflladkdnaaSetF
import Derived.Test.YtjbpkflladkdnaaSt
namespace Go.Proofs.Ytjbpkflladkdnaa
open Go.RowKit
set_option maxRecDepth 100000 in
set_option maxHeartbeats 2000000 in
theorem walkFnExactSetRemove (c0 : Option Addr) (len0 cap0 : Nat) (zs0 : List Int) (a1 : Int) (w : World) (hz0 : IsInts w c0 len0 cap0 zs0) (hw1 : (Lit.int .i64 a1).wf = true) :
    Calls Try.prog 8 #[.slice c0 len0 cap0, .int .i64 a1] w fun e w' => e = .returned (.bool true) ∧ Below w.heap.size w w' := by
  have hlz0 := (isInts_rd hz0).1
  have hr0 := (isInts_rd hz0).2
  generalize hxs0 : zs0.take len0 = xs0 at hr0
  have hlen0 : xs0.length = len0 := by rw [← hxs0]; simp; omega
  have hlm0 : xs0.length ≤ maxLen := by simpa using hr0.1
  unfold maxLen at hlm0
  clear hz0 hxs0
  have HR0 := Lib.hid hr0
  clear hr0
  subst hlen0
  have HW1 := Lib.hid hw1
  clear hw1
  by_cases hbig0 : (1048576 : Int) < xs0.length
  · go_enter Try.func8, Try.ntmps8
    go_wp2
    go_ret
    exact ⟨rfl, Below.refl _ _⟩
  have hl0 : xs0.length ≤ 1048576 := by omega
  clear hbig0
  have hn0 : (pickB (neB a1) xs0).length ≤ xs0.length := List.length_filter_le _ _
  generalize hv0 : pickB (neB a1) xs0 = ys0 at hn0
  have HV0 := Lib.hid hv0
  clear hv0
  have S0 := Lib.hid (St.start w)
  go_enter Try.func8, Try.ntmps8
  go_wp2_with fail
  refine (toI_any xs0 _ _ (by exact S0.out.old HR0.out) (by omega)).mono ?_
  rintro e w1 ⟨v1, rfl, o, b⟩
  have S1 := Lib.hid (S0.out.new o b)
  clear S0
  clear o b
  go_wp2_with fail
  refine (specRemove_any xs0 a1 v1 _ (by exact S1.out.rd 0 rfl (by unfold maxLen; omega)) (by omega)).mono ?_
  rintro e w2 ⟨v2, rfl, o, b⟩
  rw [HV0.out] at o
  have S2 := Lib.hid (S1.out.new o b)
  clear S1
  clear o b
  go_wp2_with fail
  refine (toI_any xs0 _ _ (by exact S2.out.old HR0.out) (by omega)).mono ?_
  rintro e w3 ⟨v3, rfl, o, b⟩
  have S3 := Lib.hid (S2.out.new o b)
  clear S2
  clear o b
  go_wp2_with fail
  refine (implRemove_any xs0 a1 v3 _ (by exact S3.out.rd 0 rfl (by unfold maxLen; omega)) (by omega)).mono ?_
  rintro e w4 ⟨v4, rfl, o, b⟩
  rw [HV0.out] at o
  have S4 := Lib.hid (S3.out.new o b)
  clear S3
  clear o b
  go_wp2_with fail
  refine (eqI_any ys0 ys0 _ _ _ (by exact S4.out.rd 0 rfl (by unfold maxLen; omega)) (by exact S4.out.rd 2 rfl (by unfold maxLen; omega))).mono ?_
  rintro e w5 ⟨rfl, q, rfl⟩
  rw [decide_eq_true rfl]
  have S5 := Lib.hid (S4.out.drew q)
  clear S4
  go_wp2_with fail
  refine (toI_any xs0 _ _ (by exact S5.out.old HR0.out) (by omega)).mono ?_
  rintro e w6 ⟨v6, rfl, o, b⟩
  have S6 := Lib.hid (S5.out.new o b)
  clear S5
  clear o b
  go_wp2_with fail
  refine (eqI_any xs0 xs0 _ _ _ (by exact S6.out.rd 2 rfl (by unfold maxLen; omega)) (by exact S6.out.rd 0 rfl (by unfold maxLen; omega))).mono ?_
  rintro e w7 ⟨rfl, q, rfl⟩
  rw [decide_eq_true rfl]
  have S7 := Lib.hid (S6.out.drew q)
  clear S6
  go_wp2_with fail
  refine (markI_any 1 xs0.length _ _ _ _ (by exact S7.out.own 2 rfl) (by omega) (by omega)).mono ?_
  rintro e w8 ⟨rfl, o, g⟩
  have S8 := Lib.hid (S7.out.mark 2 rfl o g)
  clear S7
  clear o g
  go_wp2_with fail
  refine (eqI_any ys0 ys0 _ _ _ (by exact S8.out.rd 1 rfl (by unfold maxLen; omega)) (by exact S8.out.rd 3 rfl (by unfold maxLen; omega))).mono ?_
  rintro e w9 ⟨rfl, q, rfl⟩
  rw [decide_eq_true rfl]
  have S9 := Lib.hid (S8.out.drew q)
  clear S8
  go_wp2_with fail
  refine (markI_any 1 ys0.length _ _ _ _ (by exact S9.out.own 1 rfl) (by omega) (by omega)).mono ?_
  rintro e w10 ⟨rfl, o, g⟩
  have S10 := Lib.hid (S9.out.mark 1 rfl o g)
  clear S9
  clear o g
  go_wp2_with fail
  refine (heldI_any 1 ys0.length _ _ (by exact S10.out.rd 1 rfl (by unfold maxLen; omega)) (by omega) (by omega)).mono ?_
  rintro e w11 ⟨rfl, b⟩
  have S11 := Lib.hid (S10.out.go b)
  clear S10
  clear b
  go_wp2_with fail
  refine (toI_any xs0 _ _ (by exact S11.out.old HR0.out) (by omega)).mono ?_
  rintro e w12 ⟨v12, rfl, o, b⟩
  have S12 := Lib.hid (S11.out.new o b)
  clear S11
  clear o b
  go_wp2_with fail
  refine (implRemove_any xs0 a1 v12 _ (by exact S12.out.rd 0 rfl (by unfold maxLen; omega)) (by omega)).mono ?_
  rintro e w13 ⟨v13, rfl, o, b⟩
  rw [HV0.out] at o
  have S13 := Lib.hid (S12.out.new o b)
  clear S12
  clear o b
  go_wp2_with fail
  refine (eqI_any ys0 ys0 _ _ _ (by exact S13.out.rd 0 rfl (by unfold maxLen; omega)) (by exact S13.out.rd 5 rfl (by unfold maxLen; omega))).mono ?_
  rintro e w14 ⟨rfl, q, rfl⟩
  rw [decide_eq_true rfl]
  have S14 := Lib.hid (S13.out.drew q)
  clear S13
  go_wp2_with fail
  refine (heldI_any 1 ys0.length _ _ (by exact S14.out.rd 3 rfl (by unfold maxLen; omega)) (by omega) (by omega)).mono ?_
  rintro e w15 ⟨rfl, b⟩
  have S15 := Lib.hid (S14.out.go b)
  clear S14
  clear b
  go_wp2
  go_ret
  exact ⟨rfl, S15.out.1⟩
end Go.Proofs.Ytjbpkflladkdnaa
