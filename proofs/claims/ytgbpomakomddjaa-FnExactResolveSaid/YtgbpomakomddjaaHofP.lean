/- DERIVED. CONTRACTS over function values: upto:Activity, upto:Resource, upto:Link, index:Activity. -/
import Derived.Test.YtgbpomakomddjaaHof
import Derived.Test.YtgbpomakomddjaaTPj
namespace Go.Proofs.Ytgbpomakomddjaa
open Go.RowKit
set_option linter.unusedVariables false

end Go.Proofs.Ytgbpomakomddjaa
