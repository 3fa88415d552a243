/- DERIVED. CONTRACTS of chapter 13: bounds brought into their range. -/
import Derived.Test.YtdbnhdiboemmiaaDmM
import Derived.Test.YtdbnhdiboemmiaaTDomain
import Derived.Test.YtdbnhdiboemmiaaDats
import Derived.Test.YtdbnhdiboemmiaaSum
import Derived.Lib.MinMax
namespace Go.Proofs.Ytdbnhdiboemmiaa
open Go.RowKit Go.Shelf
set_option linter.unusedVariables false

theorem ret_intI {a b : Int} (h : a = b) : Ending.returned (.int .i64 a) = Ending.returned (.int .i64 b) := by rw [h]
set_option maxRecDepth 100000 in
set_option maxHeartbeats 8000000 in
theorem clampT_any (n : Int) (w : World) : Calls Try.prog 97 #[.int .i64 n] w fun e w' => e = .returned (.int .i64 (brT n)) ∧ w = w' := by
  go_enter Try.func97, Try.ntmps97
  go_wp2
  go_ret
  exact ⟨ret_intI (by unfold brT; omega), rfl⟩
set_option maxRecDepth 100000 in
set_option maxHeartbeats 8000000 in
theorem brought_any (n : Int) (w : World) : Calls Try.prog 68 #[.int .i64 n] w fun e w' => e = .returned (.int .i64 (brT n)) ∧ w = w' := by
  go_enter Try.func68, Try.ntmps68
  go_wp2_with fail
  refine (min_any 62 n _).mono ?_
  rintro e w1 ⟨rfl, rfl⟩
  go_wp2_with fail
  refine (max_any (-2) (min 62 n) _).mono ?_
  rintro e w1 ⟨rfl, rfl⟩
  go_wp2
  go_ret
  exact ⟨ret_intI rfl, rfl⟩
end Go.Proofs.Ytdbnhdiboemmiaa
