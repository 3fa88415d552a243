/- DERIVED. CONTRACTS of chapter 13: bounds brought into their range. -/
import Derived.Test.YtdbnhdiboemmiabDmM
import Derived.Test.YtdbnhdiboemmiabTDomain
import Derived.Test.YtdbnhdiboemmiabDats
import Derived.Test.YtdbnhdiboemmiabSum
import Derived.Lib.MinMax
namespace Go.Proofs.Ytdbnhdiboemmiab
open Go.RowKit Go.Shelf
set_option linter.unusedVariables false

theorem ret_intI {a b : Int} (h : a = b) : Ending.returned (.int .i64 a) = Ending.returned (.int .i64 b) := by rw [h]
end Go.Proofs.Ytdbnhdiboemmiab
