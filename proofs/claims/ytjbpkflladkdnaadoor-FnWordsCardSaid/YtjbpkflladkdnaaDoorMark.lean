/- DERIVED. CONTRACTS: markText. -/
import Derived.Test.YtjbpkflladkdnaaDoorChecked
import Derived.Test.YtjbpkflladkdnaaDoorRd
import Derived.WalkKit
import Derived.Lib.Hide
import Derived.Laws.BytesArg
import Derived.OwnWalk
import Derived.BigQuiet
import Derived.Deep.QuietTactic
import Derived.Outline
import Derived.Deep.RegionWith
namespace Go.Proofs.YtjbpkflladkdnaaDoor
open Go.RowKit

def mtDig (k : Nat) : ByteArray := strOfNums [48 + (k : Int) % 10]
theorem mtDig_size (k : Nat) : (mtDig k).size = 1 := by simp [mtDig, strOfNums, ByteArray.size]
def mtGo : Nat → Nat → ByteArray → ByteArray
  | 0, _, acc => acc
  | f + 1, k, acc => if k = 0 then acc else mtGo f (k / 10) (mtDig k ++ acc)
/-- What markText answers at k > 0. -/
def mtxt (k : Nat) : ByteArray := ⟨#[109]⟩ ++ mtGo k k ByteArray.empty

def mkS (k : Nat) (i : Nat) : Value := .string (mtxt (k + i))
def marksS (k n : Nat) : List Value := (List.range n).map (mkS k)
theorem marksS_len (k n : Nat) : (marksS k n).length = n := by simp [marksS]

end Go.Proofs.YtjbpkflladkdnaaDoor
