/- DERIVED. CONTRACTS: isDigit. -/
import Derived.Test.YtdbnhdiboemmiacChecked
import Derived.Test.YtdbnhdiboemmiacMaths
import Derived.WalkKit
import Derived.Lib.Hide
import Derived.BigQuiet
import Derived.Outline
import Derived.Deep.QuietTactic
namespace Go.Proofs.Ytdbnhdiboemmiac
open Go.RowKit

end Go.Proofs.Ytdbnhdiboemmiac
