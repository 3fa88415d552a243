/- DERIVED. The walk of the law FnExactTailLength, by contracts. -/
import Derived.Test.YtoggakfkpeloiaaGreatDsU
import Derived.Test.YtoggakfkpeloiaaGreatTProject
import Derived.Deep.RegionWith
namespace Go.Proofs.YtoggakfkpeloiaaGreat
open Go.RowKit
set_option linter.unusedVariables false
end Go.Proofs.YtoggakfkpeloiaaGreat
