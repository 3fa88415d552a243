/- DERIVED. CONTRACT: the program's CriticalActivities. -/
import Derived.Test.YtoggakfkpeloiaaGreatDsJ
namespace Go.Proofs.YtoggakfkpeloiaaGreat
open Go.RowKit Go.Shelf
set_option linter.unusedVariables false

end Go.Proofs.YtoggakfkpeloiaaGreat
