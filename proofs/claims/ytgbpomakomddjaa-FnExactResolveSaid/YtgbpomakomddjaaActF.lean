/- DERIVED. CONTRACTS: ModeIndexes, of the model and of the program. -/
import Derived.Test.YtgbpomakomddjaaDats
import Derived.Test.YtgbpomakomddjaaSets
namespace Go.Proofs.Ytgbpomakomddjaa
open Go.RowKit

end Go.Proofs.Ytgbpomakomddjaa
