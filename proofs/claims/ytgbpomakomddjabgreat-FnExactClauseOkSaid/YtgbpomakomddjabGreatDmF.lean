/- DERIVED. CONTRACTS of chapter 13: DomainForm, of the program and of the model. -/
import Derived.Test.YtgbpomakomddjabGreatDmG
import Derived.Test.YtgbpomakomddjabGreatLtO
import Derived.Test.YtgbpomakomddjabGreatPrG3
import Derived.Test.YtgbpomakomddjabGreatActF
import Derived.Test.YtgbpomakomddjabGreatRegZ
namespace Go.Proofs.YtgbpomakomddjabGreat
open Go.RowKit Go.Shelf
set_option linter.unusedVariables false

end Go.Proofs.YtgbpomakomddjabGreat
