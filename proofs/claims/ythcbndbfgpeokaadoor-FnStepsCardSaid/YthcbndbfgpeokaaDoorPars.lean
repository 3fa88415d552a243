/- DERIVED. CONTRACTS: spec.ParseInts, impl.ParseInts. -/
import Derived.Test.YthcbndbfgpeokaaDoorParsMath
import Derived.Test.YthcbndbfgpeokaaDoorPar
import Derived.Test.YthcbndbfgpeokaaDoorSplit
import Derived.Test.YthcbndbfgpeokaaDoorIntS
import Derived.OwnWalk
namespace Go.Proofs.YthcbndbfgpeokaaDoor
open Go.RowKit

theorem str_ne1 {x : ByteArray} {c : UInt8} (h : x ≠ ⟨#[c]⟩) : (x.toList == [c]) = false := by
  have := str_ne h
  rwa [ByteArray.toList_eq ⟨#[c]⟩] at this
theorem pars_take {s : ByteArray} {k : Nat} (h : k < (partsB s).length) : ((partsB s).take (k + 1)).map parN = ((partsB s).take k).map parN ++ [parN (partsB s)[k]] := by
  rw [List.take_succ_eq_append_getElem h, List.map_append]; rfl
theorem map_snocI (l : List Int) (x : Int) : (l ++ [x]).map (Value.int .i64) = l.map (Value.int .i64) ++ [.int .i64 x] := by simp

end Go.Proofs.YthcbndbfgpeokaaDoor
