/- DERIVED. CONTRACTS: slices.Concat at []int. -/
import Derived.Test.YtjbpkflladkdnaaDoorApp
import Derived.Test.YtjbpkflladkdnaaDoorSetB
import Derived.Test.YtjbpkflladkdnaaDoorShelf
import Derived.Shelf.Spec.SlicesGrow
namespace Go.Proofs.YtjbpkflladkdnaaDoor
open Go.RowKit Go.Shelf

def catB (Ls : List (List Int)) : List Int := Ls.flatten
theorem flat_take {Ls : List (List Int)} {k : Nat} (h : k < Ls.length) : (catB (Ls.take (k + 1))) = (catB (Ls.take k)) ++ Ls[k] := by
  unfold catB
  rw [List.take_succ_eq_append_getElem h, List.flatten_append]; simp
theorem flat_le (Ls : List (List Int)) (k : Nat) : (catB (Ls.take k)).length ≤ (catB Ls).length := by
  unfold catB
  conv => rhs; rw [← List.take_append_drop k Ls, List.flatten_append, List.length_append]
  omega

end Go.Proofs.YtjbpkflladkdnaaDoor
