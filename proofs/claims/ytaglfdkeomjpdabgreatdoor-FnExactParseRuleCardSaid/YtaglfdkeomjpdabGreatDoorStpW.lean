/- DERIVED. THE ITERATOR over the parts of the steps in an interval: impl.stepsWithin and its closure. -/
import Derived.RangeFuncNested
import Derived.RangeFuncBound
import Derived.RangeFuncBox
import Derived.RangeFuncCalls
import Derived.RangeFuncLeaves
import Derived.Shelf.Abstract
import Derived.Shelf.RegionOpen
import Derived.WalkKit
import Derived.OwnWalkIn
import Derived.TacticsInMore
import Derived.LoopNIn
import Derived.LoopIn
import Derived.RegionIn
import Derived.Sort.QuietIn
import Derived.Lib.Hide
import Derived.Outline
import Derived.Test.YtaglfdkeomjpdabGreatDoorChecked
import Derived.Test.YtaglfdkeomjpdabGreatDoorCore
import Derived.Test.YtaglfdkeomjpdabGreatDoorMaths
namespace Go.Proofs.YtaglfdkeomjpdabGreatDoor
open Go.RowKit Go.Shelf
attribute [local go_sem] Oper.semAt_some

abbrev encsP (q : Pr × Int) : Array Value := #[.agg #[.int .i64 q.1.1, .int .i64 q.1.2], .int .i64 q.2]

/-- What a round keeps for the iterator: what lay below n₀, and its three boxes. -/
def KpS (n₀ Bl : Nat) (W W' : World) : Prop := Below n₀ W W' ∧ ∀ i, Bl ≤ i → i < Bl + 3 → W'.heap[i]? = W.heap[i]?
theorem KpS.refl (n₀ Bl : Nat) (W : World) : KpS n₀ Bl W W := ⟨Below.refl _ _, fun _ _ _ => rfl⟩
theorem KpS.trans {n₀ Bl : Nat} {A B C : World} (h : KpS n₀ Bl A B) (k : KpS n₀ Bl B C) : KpS n₀ Bl A C := ⟨h.1.trans k.1, fun i h1 h2 => (k.2 i h1 h2).trans (h.2 i h1 h2)⟩
theorem KpS.drewN {n₀ Bl : Nat} {A B : World} (h : KpS n₀ Bl A B) (n : Nat) : KpS n₀ Bl A (B.drewN n) := ⟨below_drewN h.1 n, h.2⟩
theorem KpS.alloc {n₀ Bl : Nat} {A B : World} (h : KpS n₀ Bl A B) (hn : n₀ ≤ B.heap.size) (hb : Bl + 3 ≤ B.heap.size) (o : Obj) : KpS n₀ Bl A (B.alloc o) :=
  ⟨h.1.alloc hn o, fun i h1 h2 => (Below.heap_alloc B o i (by omega)).trans (h.2 i h1 h2)⟩
theorem KpS.setCell {n₀ Bl : Nat} {A B : World} (h : KpS n₀ Bl A B) {p : Addr} (hn : n₀ ≤ p.block) (hb : p.block < Bl ∨ Bl + 3 ≤ p.block) (u : Value) : KpS n₀ Bl A (B.setCell p u) :=
  ⟨h.1.setCell hn u, fun i h1 h2 => (Below.heap_setCell B p u i (by omega)).trans (h.2 i h1 h2)⟩
theorem KpS.grown {n₀ Bl : Nat} {A B C : World} {row : Option Nat} (h : KpS n₀ Bl A B) (hg : B.grownBy C row) (hn : n₀ ≤ B.heap.size) (hb : Bl + 3 ≤ B.heap.size) (hr : ∀ k, row = some k → n₀ ≤ k ∧ (k < Bl ∨ Bl + 3 ≤ k)) : KpS n₀ Bl A C :=
  ⟨h.1.grown hg hn (fun k e => (hr k e).1), fun i h1 h2 => (hg.block i (by omega) (fun e => by have := hr i e.symm; omega)).trans (h.2 i h1 h2)⟩
theorem KpS.cell {n₀ Bl : Nat} {A B : World} (h : KpS n₀ Bl A B) {i : Nat} (h1 : Bl ≤ i) (h2 : i < Bl + 3) (o : Nat) : B.cell? ⟨i, o, none⟩ = A.cell? ⟨i, o, none⟩ := World.cell?_of_block (h.2 i h1 h2)
theorem kpS_b {n₀ Bl : Nat} {w : World} (hn : n₀ ≤ w.heap.size) (hb : Bl + 3 ≤ w.heap.size) (W : World) (l : Nat) (o o' : Obj) (hl : w.heap.size ≤ l) (h : W.heap[l]? = some o) (hc : o.isCells = false) (hw : o.isWalk = false) : KpS n₀ Bl W (W.putObj l o') :=
  ⟨belowK_b hn W l o o' hl h hc hw, fun i _ _ => (grownBy_putObj' W l o').block i (by have := (Array.getElem?_eq_some_iff.1 h).1; omega) (fun e => by cases e; omega)⟩

theorem grown_drewN {a w : World} {row : Option Nat} (h : a.grownBy w row) (n : Nat) : a.grownBy (w.drewN n) row := ⟨h.os, h.tape, h.output, h.size, h.block⟩
theorem uptoP_len (xs : List Pr) (x y : Int) (k : Nat) : (uptoP xs x y k).length ≤ k := by
  induction k with
  | zero => simp [uptoP]
  | succ k ih =>
    rw [uptoP_succ, List.length_append]
    have : (partP xs x y k).length ≤ 1 := by unfold partP; split <;> simp
    omega

end Go.Proofs.YtaglfdkeomjpdabGreatDoor
