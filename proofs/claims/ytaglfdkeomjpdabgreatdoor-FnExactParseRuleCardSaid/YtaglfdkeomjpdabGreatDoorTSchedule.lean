/- DERIVED. CONTRACTS of the laws' helpers over Schedule and slices of it, by trees. -/
import Derived.Test.YtaglfdkeomjpdabGreatDoorDats
import Derived.Test.YtaglfdkeomjpdabGreatDoorModT
import Derived.Deep.RegionWith
import Derived.Deep.RegionHeld3
namespace Go.Proofs.YtaglfdkeomjpdabGreatDoor
open Go.RowKit
set_option linter.unusedVariables false

theorem thin_ScheduleL (d : Sc) : thinL (cellsSc d) := ⟨thin_ints _, thin_ints _, trivial⟩
theorem thin_ScheduleS (xs : List Sc) : (trScs xs).thins := thin_rows cellsSc_len (by omega) thin_ScheduleL xs

theorem infoSchedule_t : (Tryz.prog.info? 211).map (fun i => (i.zero, i.size, i.bytes)) = some (some (.agg #[.slice none 0 0, .slice none 0 0]), 2, 48) := by kernel_rfl

end Go.Proofs.YtaglfdkeomjpdabGreatDoor
