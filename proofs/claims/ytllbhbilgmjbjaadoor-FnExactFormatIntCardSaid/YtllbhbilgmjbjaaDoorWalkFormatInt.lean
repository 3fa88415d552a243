/- DERIVED. The walk of the law FnExactFormatInt, by contracts. -/
import Derived.Test.YtllbhbilgmjbjaaDoorFmt
namespace Go.Proofs.YtllbhbilgmjbjaaDoor
open Go.RowKit
set_option maxHeartbeats 400000 in
theorem walkFnExactFormatInt (n : Int) (w : World) (hn : (Lit.int .i64 n).wf = true) (ht : TB w) :
    Calls Tryd.prog 3 #[.int .i64 n] w fun e w' => e = .returned (.bool true) ∧ Below w.heap.size w w' := by
  have hb : -9223372036854775808 ≤ n ∧ n ≤ 9223372036854775807 := by
    have h1 : IntKind.i64.min = -9223372036854775808 := rfl
    have h2 : IntKind.i64.max = 9223372036854775807 := rfl
    simp only [Lit.wf, Bool.and_eq_true, decide_eq_true_eq] at hn
    omega
  have HB := Lib.hid hb
  have HT := Lib.hid ht
  clear hb ht hn
  go_enter Tryd.func3, Tryd.ntmps3
  go_wp2_with fail
  refine (specFmt_any n _ HB.out.1 HB.out.2).mono ?_
  rintro e w1 ⟨rfl, b1⟩
  have HT1 := Lib.hid (HT.out.below b1 (Nat.le_refl _))
  go_wp2_with fail
  refine (implFmt_any n _ HB.out.1 HB.out.2 HT1.out).mono ?_
  rintro e w2 ⟨rfl, b2⟩
  generalize fmtB n = f
  go_wp2
  go_ret
  exact ⟨rfl, b1.trans (b2.mono b1.size)⟩
end Go.Proofs.YtllbhbilgmjbjaaDoor
