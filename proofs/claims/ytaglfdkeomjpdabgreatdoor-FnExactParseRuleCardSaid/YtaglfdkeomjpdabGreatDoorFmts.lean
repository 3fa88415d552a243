/- DERIVED. CONTRACTS: spec.FormatInts, impl.FormatInts. -/
import Derived.Test.YtaglfdkeomjpdabGreatDoorTxtMaths
import Derived.Test.YtaglfdkeomjpdabGreatDoorFmt
import Derived.Test.YtaglfdkeomjpdabGreatDoorJoin
import Derived.Test.YtaglfdkeomjpdabGreatDoorSplit
import Derived.OwnWalk
namespace Go.Proofs.YtaglfdkeomjpdabGreatDoor
open Go.RowKit

theorem map_take_snoc {α β : Type} (f : α → β) {l : List α} {k : Nat} (h : k < l.length) : (l.take (k + 1)).map f = (l.take k).map f ++ [f l[k]] := by
  rw [List.take_succ_eq_append_getElem h, List.map_append]; rfl

def mkF (xs : List Int) (i : Nat) : Value := .string (fmtB (xs.getD i 0))
theorem mkF_all (xs : List Int) : (List.range xs.length).map (mkF xs) = (xs.map fmtB).map .string := by
  apply List.ext_getElem
  · simp
  · intro i h1 h2
    simp [mkF] at h1 ⊢
    rw [List.getElem?_eq_getElem h1]; rfl
theorem mkF_at {xs : List Int} {k : Nat} (h : k < xs.length) : mkF xs k = .string (fmtB xs[k]) := by
  simp [mkF, List.getD, List.getElem?_eq_getElem h]

end Go.Proofs.YtaglfdkeomjpdabGreatDoor
