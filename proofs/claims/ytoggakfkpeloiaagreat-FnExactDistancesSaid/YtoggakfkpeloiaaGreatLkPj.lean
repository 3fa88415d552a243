/- DERIVED. CONTRACT: PositiveCycle of the program, put together. -/
import Derived.Test.YtoggakfkpeloiaaGreatLkQ
import Derived.Test.YtoggakfkpeloiaaGreatLkPi
namespace Go.Proofs.YtoggakfkpeloiaaGreat
open Go.RowKit Go.Shelf
set_option linter.unusedVariables false
end Go.Proofs.YtoggakfkpeloiaaGreat
