/- DERIVED. CONTRACTS: spec.MakeNum. -/
import Derived.Test.YtdbnhdiboemmiacGreatCur
namespace Go.Proofs.YtdbnhdiboemmiacGreat
open Go.RowKit

theorem grown_then {a b c : World} {row row' : Option Nat} (h : a.grownBy b row) (k : b.grownBy c row') (hr : ∀ j, row' = some j → a.heap.size ≤ j ∨ row = some j) : a.grownBy c row :=
  ⟨k.os.trans h.os, k.tape.trans h.tape, k.output.trans h.output, Nat.le_trans h.size k.size, fun i hi hne => (k.block i (by have := h.size; omega) (fun e => by
    rcases hr i e.symm with h1 | h1
    · omega
    · exact hne h1.symm)).trans (h.block i hi hne)⟩

end Go.Proofs.YtdbnhdiboemmiacGreat
