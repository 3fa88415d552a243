/- DERIVED. CONTRACTS over function values: upto:int, upto:Int. -/
import Derived.Test.YtgbpomakomddjaaHof
import Derived.Test.YtgbpomakomddjaaDats
import Derived.Test.YtgbpomakomddjaaTPj
namespace Go.Proofs.Ytgbpomakomddjaa
open Go.RowKit
set_option linter.unusedVariables false

end Go.Proofs.Ytgbpomakomddjaa
