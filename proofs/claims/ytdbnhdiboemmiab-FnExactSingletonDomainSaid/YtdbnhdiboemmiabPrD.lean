/- DERIVED. CONTRACT: ProjectOk of the model. -/
import Derived.Test.YtdbnhdiboemmiabPrC
namespace Go.Proofs.Ytdbnhdiboemmiab
open Go.RowKit Go.Shelf
set_option linter.unusedVariables false

end Go.Proofs.Ytdbnhdiboemmiab
