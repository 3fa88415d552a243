/- DERIVED. CONTRACTS: orderedOf and the operations that rest on it. -/
import Derived.Test.YtjbpkflladkdnaaDoorConcat
import Derived.Test.YtjbpkflladkdnaaDoorSetD
import Derived.Lib.OwnBridge
import Derived.Sort.Grow
namespace Go.Proofs.YtjbpkflladkdnaaDoor
open Go.RowKit Go.Shelf Go.Sort Go.Lib

theorem below_grow {B : Nat} {a w : World} (h : Below B a w) (os : Array Obj) (hB : B ≤ w.heap.size) : Below B a (grow w os) :=
  ⟨h.os, h.tape, h.output, by have := h.size; simp [grow]; omega, fun k hk => by
    rw [← h.block k hk]
    have hk' : k < w.heap.size := by omega
    simp [grow, Array.getElem?_append, hk']⟩

/-- What the library's sort and compact leave of an own row of ints. -/
theorem sorted_left {w w1 : World} {base g cap nn q : Nat} {e : TypeId} {os : Array Obj} {zs s : List Int} (hs : s.length = zs.length) (hown : w1.ownsRow base e 1 (.slice (some ⟨g, 0, none⟩) zs.length cap) zs.length (zs.map (.int .i64))) (hbel : Below base w w1) (hb : base ≤ g) :
    (putRow (Value.int .i64) (Sort.ahead (grow (putRow (Value.int .i64) (Sort.ahead w1 nn) g 0 s.toArray) os) q) g 0 (compact s ++ List.replicate (s.length - (compact s).length) 0).toArray).ownsRow base e 1 (.slice (some ⟨g, 0, none⟩) (compact s).length cap) (compact s).length ((compact s).map (.int .i64)) ∧
    Below base w (putRow (Value.int .i64) (Sort.ahead (grow (putRow (Value.int .i64) (Sort.ahead w1 nn) g 0 s.toArray) os) q) g 0 (compact s ++ List.replicate (s.length - (compact s).length) 0).toArray) := by
  have hle := compact_length_le s
  have h1 := ownsRow_putRow (q := nn) (k := zs.length) (ys := s) hown hs (Nat.le_refl _)
  rw [← hs, List.take_length, hs] at h1
  have hb1 : Below base w (putRow (Value.int .i64) (Sort.ahead w1 nn) g 0 s.toArray) := below_putRow hbel hb
  have hg1 : g < (putRow (Value.int .i64) (Sort.ahead w1 nn) g 0 s.toArray).heap.size := (h1.lt g rfl).2
  have h2 : (grow (putRow (Value.int .i64) (Sort.ahead w1 nn) g 0 s.toArray) os).ownsRow base e 1 (.slice (some ⟨g, 0, none⟩) zs.length cap) zs.length (s.map (.int .i64)) :=
    own_below h1 (below_grow (Below.refl _ _) os (Nat.le_refl _)) (Nat.le_refl _)
  have hb2 : Below base w (grow (putRow (Value.int .i64) (Sort.ahead w1 nn) g 0 s.toArray) os) := below_grow hb1 os (by omega)
  have h3 := ownsRow_putRow (q := q) (k := (compact s).length) (ys := compact s ++ List.replicate (s.length - (compact s).length) 0) h2 (by simp; omega) (by omega)
  rw [List.take_left] at h3
  exact ⟨h3, below_putRow hb2 hb⟩

end Go.Proofs.YtjbpkflladkdnaaDoor
