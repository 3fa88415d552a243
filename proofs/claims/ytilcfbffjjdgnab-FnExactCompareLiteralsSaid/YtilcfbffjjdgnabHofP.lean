/- DERIVED. CONTRACTS over function values: upto:Activity, upto:Resource, upto:Link, index:Activity. -/
import Derived.Test.YtilcfbffjjdgnabHof
import Derived.Test.YtilcfbffjjdgnabTPj
namespace Go.Proofs.Ytilcfbffjjdgnab
open Go.RowKit
set_option linter.unusedVariables false

end Go.Proofs.Ytilcfbffjjdgnab
