/- FnExactCriticalActivities at the commit in COMMIT: the law returns true for every input, and each argument reads behind the call as it read before. No condition. -/
import Derived.Test.YtoggakfkpeloiaaGreatRows
import Derived.Test.YtoggakfkpeloiaaGreatCore
import Derived.Test.YtoggakfkpeloiaaGreatWalkCriticalActivities
import Derived.Test.YtoggakfkpeloiaaGreatOpenAll
import Derived.WalkKit
import Derived.ProofKit
import Derived.OpenShut
import Derived.ShutString
import Derived.ChangeOld
import Derived.SliceStrings
namespace Go.Proofs.YtoggakfkpeloiaaGreat.fnExactCriticalActivities
open Go.ChangeShapes Go.WideShapes Go.ChangeAt Go.RowKit
open Go.ChangeMaps (open_string shut_string)
set_option linter.unusedVariables false

theorem own : ownKnob Tryz.prog.godebug = none := by kernel_rfl
theorem laidOut : laidOutB Tryz.prog = true := by kernel_rfl

end Go.Proofs.YtoggakfkpeloiaaGreat.fnExactCriticalActivities
