/- DERIVED. Blocks that are known whole: the boxes of structs. No dump. -/
import Derived.Test.YtfgmbgdbnjpclaaTr
namespace Go.Proofs.Ytfgmbgdbnjpclaa
open Go.RowKit

/-- Block g is just the cells cs. -/
def Bk (w : World) (g : Nat) (t : TypeId) (cs : Array Value) : Prop := w.heap[g]? = some (.cells cs t (0, 0))
section
variable {w w' : World} {g : Nat} {t : TypeId} {cs : Array Value}
theorem Bk.lt (h : Bk w g t cs) : g < w.heap.size := (Array.getElem?_eq_some_iff.1 h).1
theorem Bk.cell (h : Bk w g t cs) (i : Nat) : w.cell? ⟨g, i, none⟩ = cs[i]? := cell_of_row w g i cs t (0, 0) h
theorem Bk.frozen (h : Bk w g t cs) (i : Nat) : w.frozen? ⟨g, i, none⟩ = false := by unfold Bk at h; simp [World.frozen?, h]
theorem Bk.new (w : World) (t : TypeId) (cs : Array Value) : Bk (w.alloc (.cells cs t)) w.heap.size t cs := heap_alloc_new w _
theorem Bk.alloc (h : Bk w g t cs) (o : Obj) : Bk (w.alloc o) g t cs := (Below.heap_alloc w o g h.lt).trans h
theorem Bk.drewN (h : Bk w g t cs) (n : Nat) : Bk (w.drewN n) g t cs := h
theorem Bk.set (h : Bk w g t cs) (i : Nat) (u : Value) : Bk (w.setCell ⟨g, i, none⟩ u) g t (cs.setIfInBounds i u) := by
  unfold Bk at h ⊢
  simp [World.setCell, Array.getElem?_modify, h]
theorem Bk.far (h : Bk w g t cs) {p : Addr} (hp : g ≠ p.block) (u : Value) : Bk (w.setCell p u) g t cs := (Below.heap_setCell w p u g hp).trans h
theorem Bk.below {B : Nat} (h : Bk w g t cs) (hb : Below B w w') (hB : w.heap.size ≤ B) : Bk w' g t cs := (hb.block g (by have := h.lt; omega)).trans h
theorem Bk.wr {F : List Nat} (h : Bk w g t cs) (hb : Wr F w w') (hg : g ∉ F) : Bk w' g t cs := (hb.block g h.lt hg).trans h
/-- The cells of a small block, to lay before a walk. -/
theorem Bk.c1 {a : Value} (h : Bk w g t #[a]) : w.cell? ⟨g, 0, none⟩ = some a ∧ ∀ i, w.frozen? ⟨g, i, none⟩ = false := ⟨h.cell 0, h.frozen⟩
theorem Bk.c2 {a b : Value} (h : Bk w g t #[a, b]) : w.cell? ⟨g, 0, none⟩ = some a ∧ w.cell? ⟨g, 1, none⟩ = some b ∧ ∀ i, w.frozen? ⟨g, i, none⟩ = false := ⟨h.cell 0, h.cell 1, h.frozen⟩
theorem Bk.c3 {a b c : Value} (h : Bk w g t #[a, b, c]) : w.cell? ⟨g, 0, none⟩ = some a ∧ w.cell? ⟨g, 1, none⟩ = some b ∧ w.cell? ⟨g, 2, none⟩ = some c ∧ ∀ i, w.frozen? ⟨g, i, none⟩ = false := ⟨h.cell 0, h.cell 1, h.cell 2, h.frozen⟩
end
theorem boxes1 (w : World) (t1 : TypeId) (a : Array Value) :
    Below w.heap.size w (w.alloc (.cells a t1)) ∧ Bk (w.alloc (.cells a t1)) w.heap.size t1 a ∧ (w.alloc (.cells a t1)).heap.size = w.heap.size + 1 :=
  ⟨(Below.refl _ _).alloc (Nat.le_refl _) _, Bk.new _ _ _, by simp⟩
theorem boxes2 (w : World) (t1 t2 : TypeId) (a b : Array Value) :
    Below w.heap.size w ((w.alloc (.cells a t1)).alloc (.cells b t2)) ∧ Bk ((w.alloc (.cells a t1)).alloc (.cells b t2)) w.heap.size t1 a ∧ Bk ((w.alloc (.cells a t1)).alloc (.cells b t2)) (w.heap.size + 1) t2 b ∧
      ((w.alloc (.cells a t1)).alloc (.cells b t2)).heap.size = w.heap.size + 1 + 1 := by
  have h2 := Bk.new (w.alloc (.cells a t1)) t2 b
  simp only [World.size_alloc] at h2
  exact ⟨((Below.refl _ _).alloc (Nat.le_refl _) _).alloc (by simp) _, (Bk.new _ _ _).alloc _, h2, by simp⟩
theorem boxes3 (w : World) (t1 t2 t3 : TypeId) (a b c : Array Value) :
    Below w.heap.size w (((w.alloc (.cells a t1)).alloc (.cells b t2)).alloc (.cells c t3)) ∧ Bk (((w.alloc (.cells a t1)).alloc (.cells b t2)).alloc (.cells c t3)) w.heap.size t1 a ∧
      Bk (((w.alloc (.cells a t1)).alloc (.cells b t2)).alloc (.cells c t3)) (w.heap.size + 1) t2 b ∧ Bk (((w.alloc (.cells a t1)).alloc (.cells b t2)).alloc (.cells c t3)) (w.heap.size + 1 + 1) t3 c ∧
      (((w.alloc (.cells a t1)).alloc (.cells b t2)).alloc (.cells c t3)).heap.size = w.heap.size + 1 + 1 + 1 := by
  obtain ⟨h1, k1, k2, hs⟩ := boxes2 w t1 t2 a b
  have h3 := Bk.new ((w.alloc (.cells a t1)).alloc (.cells b t2)) t3 c
  rw [hs] at h3
  exact ⟨h1.alloc (by omega) _, k1.alloc _, k2.alloc _, h3, by rw [World.size_alloc, hs]⟩
end Go.Proofs.Ytfgmbgdbnjpclaa
