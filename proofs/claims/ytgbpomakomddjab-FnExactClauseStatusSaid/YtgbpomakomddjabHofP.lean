/- DERIVED. CONTRACTS over function values: upto:Activity, upto:Resource, upto:Link, index:Activity. -/
import Derived.Test.YtgbpomakomddjabHof
import Derived.Test.YtgbpomakomddjabTPj
namespace Go.Proofs.Ytgbpomakomddjab
open Go.RowKit
set_option linter.unusedVariables false

end Go.Proofs.Ytgbpomakomddjab
