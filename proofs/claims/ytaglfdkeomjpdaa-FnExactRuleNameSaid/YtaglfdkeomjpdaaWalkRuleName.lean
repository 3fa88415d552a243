/- DERIVED. The walk of the law FnExactRuleName, by contracts. -/
import Derived.Test.YtaglfdkeomjpdaaRuN
namespace Go.Proofs.Ytaglfdkeomjpdaa
open Go.RowKit
set_option linter.unusedVariables false
set_option maxHeartbeats 400000 in
theorem walkFnExactRuleName (n : Int) (w : World) (hn : (Lit.int .i64 n).wf = true) :
    Calls Try.prog 3 #[.int .i64 n] w fun e w' => e = .returned (.bool true) ∧ Below w.heap.size w w' := by
  clear hn
  go_enter Try.func3, Try.ntmps3
  go_wp2_with fail
  refine (specRuleName_any n _).mono ?_
  rintro e w1 ⟨rfl, b1⟩
  go_wp2_with fail
  refine (implRuleName_any n _).mono ?_
  rintro e w2 ⟨rfl, b2⟩
  generalize ruNm n = f
  go_wp2
  go_ret
  exact ⟨rfl, b1.trans (b2.mono b1.size)⟩
end Go.Proofs.Ytaglfdkeomjpdaa
