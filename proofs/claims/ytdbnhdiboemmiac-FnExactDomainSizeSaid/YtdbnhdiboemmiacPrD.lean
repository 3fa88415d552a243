/- DERIVED. CONTRACT: ProjectOk of the model. -/
import Derived.Test.YtdbnhdiboemmiacPrC
namespace Go.Proofs.Ytdbnhdiboemmiac
open Go.RowKit Go.Shelf
set_option linter.unusedVariables false

end Go.Proofs.Ytdbnhdiboemmiac
