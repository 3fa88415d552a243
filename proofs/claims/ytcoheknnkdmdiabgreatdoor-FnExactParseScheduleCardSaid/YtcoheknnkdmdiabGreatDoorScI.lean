/- DERIVED. CONTRACTS of chapter 10: the mode and the end of an activity of a schedule, of the program and of the model. -/
import Derived.Test.YtcoheknnkdmdiabGreatDoorScM
import Derived.Test.YtcoheknnkdmdiabGreatDoorTSchedule
import Derived.Test.YtcoheknnkdmdiabGreatDoorTProject
import Derived.Test.YtcoheknnkdmdiabGreatDoorDats
import Derived.Test.YtcoheknnkdmdiabGreatDoorRegZ
namespace Go.Proofs.YtcoheknnkdmdiabGreatDoor
open Go.RowKit Go.Shelf
set_option linter.unusedVariables false

theorem field_mode0 (x y z : Value) (w : World) : (Instr.field 139 (.agg #[x, y, z]) 0).run Tryz.prog w = .ok x w := by kernel_rfl
theorem field_mode1 (x y z : Value) (w : World) : (Instr.field 139 (.agg #[x, y, z]) 1).run Tryz.prog w = .ok y w := by kernel_rfl
theorem field_mode2 (x y z : Value) (w : World) : (Instr.field 139 (.agg #[x, y, z]) 2).run Tryz.prog w = .ok z w := by kernel_rfl
end Go.Proofs.YtcoheknnkdmdiabGreatDoor
