/- DERIVED. PLAIN LEMMAS: the sum of the sizes of strings. -/
import Derived.WalkKit
namespace Go.Proofs.YtgbpomakomddjabGreatDoor
open Go.RowKit

def tot (xs : List ByteArray) : Nat := (xs.map (·.size)).sum
theorem tot_take {xs : List ByteArray} {k : Nat} (h : k < xs.length) : tot (xs.take (k + 1)) = tot (xs.take k) + xs[k].size := by
  unfold tot
  rw [List.take_succ_eq_append_getElem h, List.map_append, List.sum_append]
  simp only [List.map_cons, List.map_nil, List.sum_cons, List.sum_nil, Nat.add_zero]
theorem tot_le (xs : List ByteArray) (k : Nat) : tot (xs.take k) ≤ tot xs := by
  unfold tot
  conv => rhs; rw [← List.take_append_drop k xs, List.map_append, List.sum_append]
  omega
end Go.Proofs.YtgbpomakomddjabGreatDoor
