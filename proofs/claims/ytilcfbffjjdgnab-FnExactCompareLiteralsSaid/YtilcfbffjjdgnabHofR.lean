/- DERIVED. CONTRACTS over function values: upto:int, upto:Int. -/
import Derived.Test.YtilcfbffjjdgnabHof
import Derived.Test.YtilcfbffjjdgnabDats
import Derived.Test.YtilcfbffjjdgnabTPj
namespace Go.Proofs.Ytilcfbffjjdgnab
open Go.RowKit
set_option linter.unusedVariables false

end Go.Proofs.Ytilcfbffjjdgnab
