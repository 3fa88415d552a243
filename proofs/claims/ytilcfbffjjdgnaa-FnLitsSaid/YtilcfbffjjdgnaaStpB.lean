/- DERIVED. CONTRACTS: spec.l03At, CapacityAt, l03Span, MinCapacity, TotalCapacity. -/
import Derived.Test.YtilcfbffjjdgnaaStpA
import Derived.Test.YtilcfbffjjdgnaaSum
namespace Go.Proofs.Ytilcfbffjjdgnaa
open Go.RowKit

theorem ret_num {k : IntKind} {a b : Int} (h : a = b) : Ending.returned (.int k a) = .returned (.int k b) := by rw [h]

end Go.Proofs.Ytilcfbffjjdgnaa
