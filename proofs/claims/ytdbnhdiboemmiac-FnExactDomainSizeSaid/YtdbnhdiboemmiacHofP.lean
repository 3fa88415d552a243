/- DERIVED. CONTRACTS over function values: upto:Activity, upto:Resource, upto:Link, index:Activity. -/
import Derived.Test.YtdbnhdiboemmiacHof
import Derived.Test.YtdbnhdiboemmiacTPj
namespace Go.Proofs.Ytdbnhdiboemmiac
open Go.RowKit
set_option linter.unusedVariables false

end Go.Proofs.Ytdbnhdiboemmiac
