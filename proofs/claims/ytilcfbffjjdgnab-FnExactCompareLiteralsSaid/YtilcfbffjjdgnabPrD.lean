/- DERIVED. CONTRACT: ProjectOk of the model. -/
import Derived.Test.YtilcfbffjjdgnabPrC
namespace Go.Proofs.Ytilcfbffjjdgnab
open Go.RowKit Go.Shelf
set_option linter.unusedVariables false

end Go.Proofs.Ytilcfbffjjdgnab
