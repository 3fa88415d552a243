/- DERIVED. CONTRACTS of chapter 13: DomainForm, of the program and of the model. -/
import Derived.Test.YtgbpomakomddjabGreatDoorDmG
import Derived.Test.YtgbpomakomddjabGreatDoorLtO
import Derived.Test.YtgbpomakomddjabGreatDoorPrG3
import Derived.Test.YtgbpomakomddjabGreatDoorActF
import Derived.Test.YtgbpomakomddjabGreatDoorRegZ
namespace Go.Proofs.YtgbpomakomddjabGreatDoor
open Go.RowKit Go.Shelf
set_option linter.unusedVariables false

end Go.Proofs.YtgbpomakomddjabGreatDoor
