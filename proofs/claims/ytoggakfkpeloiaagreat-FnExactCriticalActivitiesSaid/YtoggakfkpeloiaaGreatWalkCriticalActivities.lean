/- DERIVED. The walk of the law FnExactCriticalActivities, by contracts. -/
import Derived.Test.YtoggakfkpeloiaaGreatDsN
import Derived.Test.YtoggakfkpeloiaaGreatDsV
import Derived.Test.YtoggakfkpeloiaaGreatDsK
import Derived.Test.YtoggakfkpeloiaaGreatTProject
import Derived.Test.YtoggakfkpeloiaaGreatDats
import Derived.Deep.RegionWith
namespace Go.Proofs.YtoggakfkpeloiaaGreat
open Go.RowKit
set_option linter.unusedVariables false
end Go.Proofs.YtoggakfkpeloiaaGreat
