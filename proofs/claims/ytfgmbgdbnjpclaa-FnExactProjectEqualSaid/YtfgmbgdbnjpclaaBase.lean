/- DERIVED. What a walk is told of a slice that came in. -/
import Derived.Test.YtfgmbgdbnjpclaaChecked
import Derived.WalkKit
import Derived.ProofKit
import Derived.Below
namespace Go.Proofs.Ytfgmbgdbnjpclaa
open Go.RowKit

/-- A slice of ints that came in: nil, or a row of 'cap' cells below the heap's size; the first 'len' are its elements. -/
def IsInts (w : World) (a : Option Addr) (len cap : Nat) (zs : List Int) : Prop :=
  (a = none ∧ len = 0 ∧ cap = 0 ∧ zs = []) ∨
  ∃ x, a = some x ∧ len ≤ cap ∧ cap ≤ maxLen ∧ zs.length = cap ∧ (0 < cap → x.block < w.heap.size) ∧ (∀ i, i < zs.length → w.cell? (x.add i) = some (.int .i64 (zs.getD i 0))) ∧ ∀ n ∈ zs, (Lit.int .i64 n).wf = true

def IsStrs (w : World) (a : Option Addr) (len cap : Nat) (zs : List ByteArray) : Prop :=
  (a = none ∧ len = 0 ∧ cap = 0 ∧ zs = []) ∨
  ∃ x, a = some x ∧ len ≤ cap ∧ cap ≤ maxLen ∧ zs.length = cap ∧ (0 < cap → x.block < w.heap.size) ∧ (∀ i, i < zs.length → w.cell? (x.add i) = some (.string (zs.getD i ByteArray.empty))) ∧ ∀ s ∈ zs, s.size ≤ maxLen

theorem mem_row_self {x : Addr} (n : Nat) (h : 0 < n) : MemPlace.cell x.block x.off ∈ MemPlace.row x n := MemPlace.mem_row.2 ⟨0, h, by simp⟩
end Go.Proofs.Ytfgmbgdbnjpclaa
