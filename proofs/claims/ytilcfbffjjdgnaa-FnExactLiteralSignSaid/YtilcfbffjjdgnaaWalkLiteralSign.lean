/- DERIVED. The walk of the law FnExactLiteralSign, by contracts. -/
import Derived.Test.YtilcfbffjjdgnaaLtN
namespace Go.Proofs.Ytilcfbffjjdgnaa
open Go.RowKit
set_option linter.unusedVariables false
set_option maxHeartbeats 400000 in
theorem walkFnExactLiteralSign (n : Int) (w : World) (hn : (Lit.int .i64 n).wf = true) :
    Calls Try.prog 7 #[.int .i64 n] w fun e w' => e = .returned (.bool true) ∧ Below w.heap.size w w' := by
  clear hn
  go_enter Try.func7, Try.ntmps7
  go_wp2_with fail
  refine (specLiteralSign_any n _).mono ?_
  rintro e w1 ⟨rfl, b1⟩
  go_wp2_with fail
  refine (implLiteralSign_any n _).mono ?_
  rintro e w2 ⟨rfl, b2⟩
  generalize ltSg n = f
  go_wp2
  go_ret
  exact ⟨rfl, b1.trans (b2.mono b1.size)⟩
end Go.Proofs.Ytilcfbffjjdgnaa
