/- DERIVED. CONTRACTS: impl.SetHas, SetOf, SetAdd, SetUnion, SetIntersection, SetDifference, SetSubset, SetEqual. -/
import Derived.Test.YtgbpomakomddjabGreatDoorDats
import Derived.Test.YtgbpomakomddjabGreatDoorSets
import Derived.Test.YtgbpomakomddjabGreatDoorShelf
import Derived.Shelf.Spec.SlicesGrow
import Derived.Lib.OwnBridge
import Derived.Sort.Grow

section
namespace Go.Proofs.YtgbpomakomddjabGreatDoor
open Go.RowKit Go.Shelf

def catB (Ls : List (List Int)) : List Int := Ls.flatten
theorem cat_take {Ls : List (List Int)} {k : Nat} (h : k < Ls.length) : (catB (Ls.take (k + 1))) = (catB (Ls.take k)) ++ Ls[k] := by
  unfold catB
  rw [List.take_succ_eq_append_getElem h, List.flatten_append]; simp
theorem flat_le (Ls : List (List Int)) (k : Nat) : (catB (Ls.take k)).length ≤ (catB Ls).length := by
  unfold catB
  conv => rhs; rw [← List.take_append_drop k Ls, List.flatten_append, List.length_append]
  omega

end Go.Proofs.YtgbpomakomddjabGreatDoor
end

section
namespace Go.Proofs.YtgbpomakomddjabGreatDoor
open Go.RowKit

def pickB (p : Int → Bool) (l : List Int) : List Int := l.filter p
def neB (n x : Int) : Bool := x != n
def nhasB (l : List Int) (x : Int) : Bool := !hasB l x
theorem pickB_yes {p : Int → Bool} {xs : List Int} {k : Nat} (h : k < xs.length) (hp : p xs[k] = true) : pickB p (xs.take (k + 1)) = pickB p (xs.take k) ++ [xs[k]] := by
  unfold pickB
  rw [List.take_succ_eq_append_getElem h, List.filter_append]; simp [hp]
theorem pickB_no {p : Int → Bool} {xs : List Int} {k : Nat} (h : k < xs.length) (hp : p xs[k] = false) : pickB p (xs.take (k + 1)) = pickB p (xs.take k) := by
  unfold pickB
  rw [List.take_succ_eq_append_getElem h, List.filter_append]; simp [hp]
theorem pickB_len (p : Int → Bool) (xs : List Int) (k : Nat) : (pickB p (xs.take k)).length ≤ xs.length :=
  Nat.le_trans (List.length_filter_le _ _) (by simp; omega)
theorem inter_pick (a b : List Int) : setB (pickB (hasB b) a) = interB a b := rfl
theorem diff_pick (a b : List Int) : setB (pickB (nhasB b) a) = diffB a b := rfl
theorem inter_pick2 (a b : List Int) : pickB (hasB (setB b)) (setB a) = interB a b := inter_eq a b
theorem diff_pick2 (a b : List Int) : pickB (nhasB (setB b)) (setB a) = diffB a b := diff_eq a b
theorem asc_le {l : List Int} (h : l.Pairwise (· < ·)) : l.Pairwise (· ≤ ·) := h.imp Int.le_of_lt

end Go.Proofs.YtgbpomakomddjabGreatDoor
end

section
namespace Go.Proofs.YtgbpomakomddjabGreatDoor
open Go.RowKit Go.Shelf Go.Sort Go.Lib

theorem below_grow {B : Nat} {a w : World} (h : Below B a w) (os : Array Obj) (hB : B ≤ w.heap.size) : Below B a (grow w os) :=
  ⟨h.os, h.tape, h.output, by have := h.size; simp [grow]; omega, fun k hk => by
    rw [← h.block k hk]
    have hk' : k < w.heap.size := by omega
    simp [grow, Array.getElem?_append, hk']⟩

/-- What the library's sort and compact leave of an own row of ints. -/
theorem sorted_left {w w1 : World} {base g cap nn q : Nat} {e : TypeId} {os : Array Obj} {zs s : List Int} (hs : s.length = zs.length) (hown : w1.ownsRow base e 1 (.slice (some ⟨g, 0, none⟩) zs.length cap) zs.length (zs.map (.int .i64))) (hbel : Below base w w1) (hb : base ≤ g) :
    (putRow (Value.int .i64) (Sort.ahead (grow (putRow (Value.int .i64) (Sort.ahead w1 nn) g 0 s.toArray) os) q) g 0 (compact s ++ List.replicate (s.length - (compact s).length) 0).toArray).ownsRow base e 1 (.slice (some ⟨g, 0, none⟩) (compact s).length cap) (compact s).length ((compact s).map (.int .i64)) ∧
    Below base w (putRow (Value.int .i64) (Sort.ahead (grow (putRow (Value.int .i64) (Sort.ahead w1 nn) g 0 s.toArray) os) q) g 0 (compact s ++ List.replicate (s.length - (compact s).length) 0).toArray) := by
  have hle := compact_length_le s
  have h1 := ownsRow_putRow (q := nn) (k := zs.length) (ys := s) hown hs (Nat.le_refl _)
  rw [← hs, List.take_length, hs] at h1
  have hb1 : Below base w (putRow (Value.int .i64) (Sort.ahead w1 nn) g 0 s.toArray) := below_putRow hbel hb
  have hg1 : g < (putRow (Value.int .i64) (Sort.ahead w1 nn) g 0 s.toArray).heap.size := (h1.lt g rfl).2
  have h2 : (grow (putRow (Value.int .i64) (Sort.ahead w1 nn) g 0 s.toArray) os).ownsRow base e 1 (.slice (some ⟨g, 0, none⟩) zs.length cap) zs.length (s.map (.int .i64)) :=
    own_below h1 (below_grow (Below.refl _ _) os (Nat.le_refl _)) (Nat.le_refl _)
  have hb2 : Below base w (grow (putRow (Value.int .i64) (Sort.ahead w1 nn) g 0 s.toArray) os) := below_grow hb1 os (by omega)
  have h3 := ownsRow_putRow (q := q) (k := (compact s).length) (ys := compact s ++ List.replicate (s.length - (compact s).length) 0) h2 (by simp; omega) (by omega)
  rw [List.take_left] at h3
  exact ⟨h3, below_putRow hb2 hb⟩

end Go.Proofs.YtgbpomakomddjabGreatDoor
end

section
namespace Go.Proofs.YtgbpomakomddjabGreatDoor
open Go.RowKit

theorem rd_cellsE (w : World) (us : List Value) (t : TypeId) (hl : us.length ≤ 1000000) : Rd (w.alloc (.cells us.toArray t)) (.slice (some ⟨w.heap.size, 0, none⟩) us.length us.length) us :=
  ⟨by unfold maxLen; omega, _, _, rfl, .inr ⟨w.heap.size, 0, rfl, by simp, fun j hj => by
    rw [World.cell?_alloc_at _ _ _ _ rfl]
    simp [List.getElem?_eq_getElem hj]⟩⟩

theorem rd_sl {w : World} {v : Value} {xs : List Int} (h : Rd w v (xs.map (.int .i64))) : ∃ A c, v = .slice A xs.length c := by
  obtain ⟨_, A, c, rfl, _⟩ := h
  exact ⟨A, c, by rw [List.length_map]⟩

end Go.Proofs.YtgbpomakomddjabGreatDoor
end
