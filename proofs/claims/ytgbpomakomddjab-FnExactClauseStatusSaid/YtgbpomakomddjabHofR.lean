/- DERIVED. CONTRACTS over function values: upto:int, upto:Int. -/
import Derived.Test.YtgbpomakomddjabHof
import Derived.Test.YtgbpomakomddjabDats
import Derived.Test.YtgbpomakomddjabTPj
namespace Go.Proofs.Ytgbpomakomddjab
open Go.RowKit
set_option linter.unusedVariables false

end Go.Proofs.Ytgbpomakomddjab
