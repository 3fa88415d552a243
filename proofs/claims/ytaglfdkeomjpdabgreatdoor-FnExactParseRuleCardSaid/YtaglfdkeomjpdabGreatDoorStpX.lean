/- DERIVED. CONTRACTS: impl.CapacityAt, MinCapacity, TotalCapacity: loops over the iterator. -/
import Derived.Test.YtaglfdkeomjpdabGreatDoorStpW
import Derived.Test.YtaglfdkeomjpdabGreatDoorStpA
namespace Go.Proofs.YtaglfdkeomjpdabGreatDoor
open Go.RowKit Go.Shelf
attribute [local go_sem] Oper.semAt_some

theorem ret_num0 {a b : Int} (h : a = b) : Ending.returned (.int .i64 a) = .returned (.int .i64 b) := by rw [h]

/-- A box of two cells: a step's. -/
def Boxed2 (W : World) (B : Nat) (t : TypeId) (x y : Value) : Prop := W.heap[B]? = some (.cells #[x, y] t (0, 0))
theorem Boxed2.new (W : World) (t : TypeId) (x y : Value) : Boxed2 (W.alloc (.cells #[x, y] t)) W.heap.size t x y := World.alloc_heap_new W _
theorem Boxed2.lt {W : World} {B : Nat} {t : TypeId} {x y : Value} (h : Boxed2 W B t x y) : B < W.heap.size := (Array.getElem?_eq_some_iff.1 h).1
theorem Boxed2.cell0 {W : World} {B : Nat} {t : TypeId} {x y : Value} (h : Boxed2 W B t x y) : W.cell? ⟨B, 0, none⟩ = some x := by simp [World.cell?, show W.heap[B]? = _ from h]
theorem Boxed2.cell1 {W : World} {B : Nat} {t : TypeId} {x y : Value} (h : Boxed2 W B t x y) : W.cell? ⟨B, 1, none⟩ = some y := by simp [World.cell?, show W.heap[B]? = _ from h]
theorem Boxed2.kept {W W' : World} {row : Option Nat} {B : Nat} {t : TypeId} {x y : Value} (h : Boxed2 W B t x y) (hg : W.grownBy W' row) (hr : ∀ r, row = some r → ∃ o : Obj, W.heap[r]? = some o ∧ o.isCells = false) : Boxed2 W' B t x y :=
  (hg.block B h.lt (fun e => by obtain ⟨o, ho, hc⟩ := hr B e.symm; rw [show W.heap[B]? = _ from h] at ho; cases ho; cases hc)).trans h

end Go.Proofs.YtaglfdkeomjpdabGreatDoor
