/- DERIVED. CONTRACTS: spec.l03At, CapacityAt, l03Span, MinCapacity, TotalCapacity. -/
import Derived.Test.YtdbnhdiboemmiacGreatStpA
import Derived.Test.YtdbnhdiboemmiacGreatSum
namespace Go.Proofs.YtdbnhdiboemmiacGreat
open Go.RowKit

theorem ret_num {k : IntKind} {a b : Int} (h : a = b) : Ending.returned (.int k a) = .returned (.int k b) := by rw [h]

end Go.Proofs.YtdbnhdiboemmiacGreat
