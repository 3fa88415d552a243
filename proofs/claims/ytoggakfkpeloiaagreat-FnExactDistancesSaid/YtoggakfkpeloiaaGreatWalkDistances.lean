/- DERIVED. The walk of the law FnExactDistances, by contracts. -/
import Derived.Test.YtoggakfkpeloiaaGreatDsN
import Derived.Test.YtoggakfkpeloiaaGreatDsD
import Derived.Test.YtoggakfkpeloiaaGreatTProject
import Derived.Test.YtoggakfkpeloiaaGreatTIntS
import Derived.Deep.RegionWith
namespace Go.Proofs.YtoggakfkpeloiaaGreat
open Go.RowKit
set_option linter.unusedVariables false
end Go.Proofs.YtoggakfkpeloiaaGreat
