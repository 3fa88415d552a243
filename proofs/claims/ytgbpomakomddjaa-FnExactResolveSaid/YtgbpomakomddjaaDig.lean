/- DERIVED. CONTRACTS: isDigit. -/
import Derived.Test.YtgbpomakomddjaaChecked
import Derived.Test.YtgbpomakomddjaaMaths
import Derived.WalkKit
import Derived.Lib.Hide
import Derived.BigQuiet
import Derived.Outline
import Derived.Deep.QuietTactic
namespace Go.Proofs.Ytgbpomakomddjaa
open Go.RowKit

end Go.Proofs.Ytgbpomakomddjaa
