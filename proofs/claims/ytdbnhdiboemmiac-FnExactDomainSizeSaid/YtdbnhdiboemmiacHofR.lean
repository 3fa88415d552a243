/- DERIVED. CONTRACTS over function values: upto:int, upto:Int. -/
import Derived.Test.YtdbnhdiboemmiacHof
import Derived.Test.YtdbnhdiboemmiacDats
import Derived.Test.YtdbnhdiboemmiacTPj
namespace Go.Proofs.Ytdbnhdiboemmiac
open Go.RowKit
set_option linter.unusedVariables false

end Go.Proofs.Ytdbnhdiboemmiac
