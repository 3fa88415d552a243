/- DERIVED. CONTRACTS of chapter 13: DomainForm, of the program and of the model. -/
import Derived.Test.YtgbpomakomddjabDmG
import Derived.Test.YtgbpomakomddjabLtO
import Derived.Test.YtgbpomakomddjabPrG3
import Derived.Test.YtgbpomakomddjabActF
import Derived.Test.YtgbpomakomddjabRegZ
namespace Go.Proofs.Ytgbpomakomddjab
open Go.RowKit Go.Shelf
set_option linter.unusedVariables false

end Go.Proofs.Ytgbpomakomddjab
