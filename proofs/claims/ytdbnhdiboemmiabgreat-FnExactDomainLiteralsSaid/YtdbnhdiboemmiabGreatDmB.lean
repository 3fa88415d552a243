/- DERIVED. CONTRACTS of chapter 13: bounds brought into their range. -/
import Derived.Test.YtdbnhdiboemmiabGreatDmM
import Derived.Test.YtdbnhdiboemmiabGreatTDomain
import Derived.Test.YtdbnhdiboemmiabGreatDats
import Derived.Test.YtdbnhdiboemmiabGreatSum
import Derived.Lib.MinMax
namespace Go.Proofs.YtdbnhdiboemmiabGreat
open Go.RowKit Go.Shelf
set_option linter.unusedVariables false

theorem ret_intI {a b : Int} (h : a = b) : Ending.returned (.int .i64 a) = Ending.returned (.int .i64 b) := by rw [h]
set_option maxRecDepth 100000 in
set_option maxHeartbeats 8000000 in
theorem clampT_any (n : Int) (w : World) : Calls Tryz.prog 88 #[.int .i64 n] w fun e w' => e = .returned (.int .i64 (brT n)) ∧ w = w' := by
  go_enter Tryz.func88, Tryz.ntmps88
  go_wp2
  go_ret
  exact ⟨ret_intI (by unfold brT; omega), rfl⟩
end Go.Proofs.YtdbnhdiboemmiabGreat
