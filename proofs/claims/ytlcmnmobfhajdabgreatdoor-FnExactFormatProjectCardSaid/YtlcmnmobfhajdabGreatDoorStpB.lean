/- DERIVED. CONTRACTS: spec.l03At, CapacityAt, l03Span, MinCapacity, TotalCapacity. -/
import Derived.Test.YtlcmnmobfhajdabGreatDoorStpA
import Derived.Test.YtlcmnmobfhajdabGreatDoorSum
namespace Go.Proofs.YtlcmnmobfhajdabGreatDoor
open Go.RowKit

theorem ret_num {k : IntKind} {a b : Int} (h : a = b) : Ending.returned (.int k a) = .returned (.int k b) := by rw [h]

end Go.Proofs.YtlcmnmobfhajdabGreatDoor
