/- DERIVED. CONTRACTS over function values: equal:Int, equal:Activity, equal:Resource. -/
import Derived.Test.YtgbpomakomddjabHof
import Derived.Test.YtgbpomakomddjabTPj
namespace Go.Proofs.Ytgbpomakomddjab
open Go.RowKit
set_option linter.unusedVariables false

end Go.Proofs.Ytgbpomakomddjab
