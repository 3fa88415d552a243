/- DERIVED. CONTRACTS: the filters of the sets, spec and impl. Written by tools/gen_filter.py. -/
import Derived.Test.YtjbpkflladkdnaaDoorSetC
import Derived.Test.YtjbpkflladkdnaaDoorShelf
namespace Go.Proofs.YtjbpkflladkdnaaDoor
open Go.RowKit

def pickB (p : Int → Bool) (l : List Int) : List Int := l.filter p
def neB (n x : Int) : Bool := x != n
def nhasB (l : List Int) (x : Int) : Bool := !hasB l x
theorem pickB_yes {p : Int → Bool} {xs : List Int} {k : Nat} (h : k < xs.length) (hp : p xs[k] = true) : pickB p (xs.take (k + 1)) = pickB p (xs.take k) ++ [xs[k]] := by
  unfold pickB
  rw [List.take_succ_eq_append_getElem h, List.filter_append]; simp [hp]
theorem pickB_no {p : Int → Bool} {xs : List Int} {k : Nat} (h : k < xs.length) (hp : p xs[k] = false) : pickB p (xs.take (k + 1)) = pickB p (xs.take k) := by
  unfold pickB
  rw [List.take_succ_eq_append_getElem h, List.filter_append]; simp [hp]
theorem pickB_len (p : Int → Bool) (xs : List Int) (k : Nat) : (pickB p (xs.take k)).length ≤ xs.length :=
  Nat.le_trans (List.length_filter_le _ _) (by simp; omega)
theorem inter_pick (a b : List Int) : setB (pickB (hasB b) a) = interB a b := rfl
theorem diff_pick (a b : List Int) : setB (pickB (nhasB b) a) = diffB a b := rfl
theorem inter_pick2 (a b : List Int) : pickB (hasB (setB b)) (setB a) = interB a b := inter_eq a b
theorem diff_pick2 (a b : List Int) : pickB (nhasB (setB b)) (setB a) = diffB a b := diff_eq a b
theorem asc_le {l : List Int} (h : l.Pairwise (· < ·)) : l.Pairwise (· ≤ ·) := h.imp Int.le_of_lt

end Go.Proofs.YtjbpkflladkdnaaDoor
