/- DERIVED. CONTRACTS: isDigit. -/
import Derived.Test.YtilcfbffjjdgnabChecked
import Derived.Test.YtilcfbffjjdgnabMaths
import Derived.WalkKit
import Derived.Lib.Hide
import Derived.BigQuiet
import Derived.Outline
import Derived.Deep.QuietTactic
namespace Go.Proofs.Ytilcfbffjjdgnab
open Go.RowKit

end Go.Proofs.Ytilcfbffjjdgnab
