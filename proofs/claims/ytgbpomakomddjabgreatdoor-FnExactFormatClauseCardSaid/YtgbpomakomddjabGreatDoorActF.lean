/- DERIVED. CONTRACTS: ModeIndexes, of the model and of the program. -/
import Derived.Test.YtgbpomakomddjabGreatDoorDats
import Derived.Test.YtgbpomakomddjabGreatDoorSets
namespace Go.Proofs.YtgbpomakomddjabGreatDoor
open Go.RowKit

end Go.Proofs.YtgbpomakomddjabGreatDoor
