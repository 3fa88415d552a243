/- DERIVED. The walk of the law FnExactFormatInts, by contracts. -/
import Derived.Test.YtllbhbilgmjbjaaDoorFmts
import Derived.Test.YtllbhbilgmjbjaaDoorIntS
namespace Go.Proofs.YtllbhbilgmjbjaaDoor
open Go.RowKit

theorem wf_range {n : Int} (hn : (Lit.int .i64 n).wf = true) : -9223372036854775808 ≤ n ∧ n ≤ 9223372036854775807 := by
  have h1 : IntKind.i64.min = -9223372036854775808 := rfl
  have h2 : IntKind.i64.max = 9223372036854775807 := rfl
  simp only [Lit.wf, Bool.and_eq_true, decide_eq_true_eq] at hn
  omega

set_option maxRecDepth 100000 in
set_option maxHeartbeats 2000000 in
theorem walkFnExactFormatInts (a : Option Addr) (len cap : Nat) (zs : List Int) (w : World) (hz : IsInts w a len cap zs) (ht : TB w) :
    Calls Tryd.prog 5 #[.slice a len cap] w fun e w' => e = .returned (.bool true) ∧ Below w.heap.size w w' := by
  have hlz := (isInts_rd hz).1
  have hr := (isInts_rd hz).2
  have hsz : ∀ x ∈ zs.take len, -9223372036854775808 ≤ x ∧ x ≤ 9223372036854775807 := by
    rcases hz with ⟨rfl, rfl, rfl, rfl⟩ | ⟨_, _, _, _, _, _, _, h⟩
    · simp
    · exact fun x hx => wf_range (h x (List.mem_of_mem_take hx))
  generalize hxs : zs.take len = xs at hr hsz
  have hlen : xs.length = len := by rw [← hxs]; simp; omega
  have hlm : xs.length ≤ maxLen := by simpa using hr.1
  unfold maxLen at hlm
  clear hz hxs
  have HR := Lib.hid hr
  have HS := Lib.hid hsz
  have T0 := Lib.hid ht
  clear hr hsz ht
  subst hlen
  by_cases hbig : (1048576 : Int) < xs.length
  · go_enter Tryd.func5, Tryd.ntmps5
    go_wp2
    go_ret
    exact ⟨rfl, Below.refl _ _⟩
  have hl1 : xs.length ≤ 1048576 := by omega
  go_enter Tryd.func5, Tryd.ntmps5
  go_wp2_with fail
  refine (toI_any xs _ _ HR.out (by omega)).mono ?_
  rintro e w1 ⟨v1, rfl, o1, b1⟩
  have R1 := Lib.hid (own_rd o1 (by unfold maxLen; omega)); clear o1
  have A1 := Lib.hid (HR.out.below b1 (Nat.le_refl _))
  have B1 := Lib.hid b1; clear b1
  go_wp2_with fail
  refine (specFmts_any xs _ _ R1.out hl1 HS.out).mono ?_
  rintro e w2 ⟨rfl, b2⟩
  have A2 := Lib.hid (A1.out.below b2 (Nat.le_refl _))
  have B2 := Lib.hid (B1.out.trans (b2.mono B1.out.size)); clear b2
  generalize hj : fmtsB xs = jb
  have HJ := Lib.hid hj
  clear hj
  go_wp2_with fail
  refine (toI_any xs _ _ A2.out (by omega)).mono ?_
  rintro e w3 ⟨v3, rfl, o3, b3⟩
  have R3 := Lib.hid (own_rd o3 (by unfold maxLen; omega)); clear o3
  have A3 := Lib.hid (A2.out.below b3 (Nat.le_refl _))
  have B3 := Lib.hid (B2.out.trans (b3.mono B2.out.size)); clear b3
  have T3 := Lib.hid (T0.out.below B3.out (Nat.le_refl _))
  go_wp2_with fail
  refine (implFmts_any xs _ _ R3.out hl1 HS.out T3.out).mono ?_
  rintro e w4 ⟨rfl, b4⟩
  rw [HJ.out]
  have R4 := Lib.hid (R3.out.below b4 (Nat.le_refl _))
  have A4 := Lib.hid (A3.out.below b4 (Nat.le_refl _))
  have B4 := Lib.hid (B3.out.trans (b4.mono B3.out.size)); clear b4
  go_wp2_with fail
  refine (toI_any xs _ _ A4.out (by omega)).mono ?_
  rintro e w5 ⟨v5, rfl, o5, b5⟩
  have R5 := Lib.hid (own_rd o5 (by unfold maxLen; omega)); clear o5
  have R6 := Lib.hid (R4.out.below b5 (Nat.le_refl _))
  have B5 := Lib.hid (B4.out.trans (b5.mono B4.out.size)); clear b5
  go_wp2_with fail
  refine (eqI_any xs xs _ _ _ R6.out R5.out).mono ?_
  rintro e w6 ⟨rfl, n6, rfl⟩
  rw [decide_eq_true rfl]
  have B6 := Lib.hid (below_drewN B5.out n6)
  go_wp2
  go_ret
  exact ⟨rfl, B6.out⟩
end Go.Proofs.YtllbhbilgmjbjaaDoor
