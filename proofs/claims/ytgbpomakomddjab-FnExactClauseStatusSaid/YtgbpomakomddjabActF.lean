/- DERIVED. CONTRACTS: ModeIndexes, of the model and of the program. -/
import Derived.Test.YtgbpomakomddjabDats
import Derived.Test.YtgbpomakomddjabSets
namespace Go.Proofs.Ytgbpomakomddjab
open Go.RowKit

end Go.Proofs.Ytgbpomakomddjab
