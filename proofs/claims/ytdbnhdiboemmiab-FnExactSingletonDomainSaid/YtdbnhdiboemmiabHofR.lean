/- DERIVED. CONTRACTS over function values: upto:int, upto:Int. -/
import Derived.Test.YtdbnhdiboemmiabHof
import Derived.Test.YtdbnhdiboemmiabDats
import Derived.Test.YtdbnhdiboemmiabTPj
namespace Go.Proofs.Ytdbnhdiboemmiab
open Go.RowKit
set_option linter.unusedVariables false

end Go.Proofs.Ytdbnhdiboemmiab
