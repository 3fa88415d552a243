/- DERIVED. CONTRACTS of chapter 13: DomainForm, of the program and of the model. -/
import Derived.Test.YtgbpomakomddjaaDmG
import Derived.Test.YtgbpomakomddjaaLtO
import Derived.Test.YtgbpomakomddjaaPrG3
import Derived.Test.YtgbpomakomddjaaActF
import Derived.Test.YtgbpomakomddjaaRegZ
namespace Go.Proofs.Ytgbpomakomddjaa
open Go.RowKit Go.Shelf
set_option linter.unusedVariables false

end Go.Proofs.Ytgbpomakomddjaa
