/- DERIVED. CONTRACTS: isDigit. -/
import Derived.Test.YtdbnhdiboemmiabChecked
import Derived.Test.YtdbnhdiboemmiabMaths
import Derived.WalkKit
import Derived.Lib.Hide
import Derived.BigQuiet
import Derived.Outline
import Derived.Deep.QuietTactic
namespace Go.Proofs.Ytdbnhdiboemmiab
open Go.RowKit

end Go.Proofs.Ytdbnhdiboemmiab
