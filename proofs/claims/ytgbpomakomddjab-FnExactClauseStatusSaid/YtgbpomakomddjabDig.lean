/- DERIVED. CONTRACTS: isDigit. -/
import Derived.Test.YtgbpomakomddjabChecked
import Derived.Test.YtgbpomakomddjabMaths
import Derived.WalkKit
import Derived.Lib.Hide
import Derived.BigQuiet
import Derived.Outline
import Derived.Deep.QuietTactic
namespace Go.Proofs.Ytgbpomakomddjab
open Go.RowKit

end Go.Proofs.Ytgbpomakomddjab
