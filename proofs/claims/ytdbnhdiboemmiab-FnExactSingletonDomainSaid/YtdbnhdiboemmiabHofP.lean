/- DERIVED. CONTRACTS over function values: upto:Activity, upto:Resource, upto:Link, index:Activity. -/
import Derived.Test.YtdbnhdiboemmiabHof
import Derived.Test.YtdbnhdiboemmiabTPj
namespace Go.Proofs.Ytdbnhdiboemmiab
open Go.RowKit
set_option linter.unusedVariables false

end Go.Proofs.Ytdbnhdiboemmiab
