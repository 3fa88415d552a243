/- DERIVED. CONTRACTS: slices.Concat and slices.Clone at []Literal. -/
import Derived.Test.YtgbpomakomddjabGreatDoorDats
import Derived.Test.YtgbpomakomddjabGreatDoorRowV
import Derived.Test.YtgbpomakomddjabGreatDoorRwT
import Derived.Test.YtgbpomakomddjabGreatDoorShelf
import Derived.Shelf.Spec.SlicesGrow
namespace Go.Proofs.YtgbpomakomddjabGreatDoor
open Go.RowKit Go.Shelf

def catT (Ls : List (List Lt)) : List Lt := Ls.flatten
theorem catT_take {Ls : List (List Lt)} {k : Nat} (h : k < Ls.length) : (catT (Ls.take (k + 1))) = (catT (Ls.take k)) ++ Ls[k] := by
  unfold catT
  rw [List.take_succ_eq_append_getElem h, List.flatten_append]; simp
theorem flatT_le (Ls : List (List Lt)) (k : Nat) : (catT (Ls.take k)).length ≤ (catT Ls).length := by
  unfold catT
  conv => rhs; rw [← List.take_append_drop k Ls, List.flatten_append, List.length_append]
  omega

theorem newVT_any (w : World) (T : TypeId) (l : List Value) (hl : l.length ≤ maxLen) : Rd (w.alloc (.cells ⟨l⟩ T)) (.slice (some ⟨w.heap.size, 0, none⟩) l.length l.length) l :=
  ⟨hl, _, _, rfl, .inr ⟨w.heap.size, 0, rfl, by simp, fun j hj => by
    rw [World.cell?_alloc_at _ _ _ _ rfl]
    simp [hj]⟩⟩
theorem two_allT {W : World} {x y : Value} {xs ys : List Lt} (hx : (trLts xs).rd W x ∧ NilOk x) (hy : (trLts ys).rd W y ∧ NilOk y) :
    ∀ i, (h : i < [x, y].length) → (trLts ([xs, ys][i]'h)).rd W ([x, y][i]) ∧ NilOk ([x, y][i]) := fun i h => by
  match i, h with
  | 0, _ => exact hx
  | 1, _ => exact hy
theorem catT_two (x y : List Lt) : catT [x, y] = x ++ y := by simp [catT]
theorem cloneT_any (l : List Lt) (v : Value) (w : World) {B : Nat} (ho : w.ownsRow B 55 3 v l.length (cells3 l)) (hlen : l.length ≤ 1073741824) :
    Calls Tryz.prog 91 #[v] w fun e w' => ∃ v', e = .returned v' ∧ w'.ownsRow w.heap.size 55 3 v' l.length (cells3 l) ∧ Below w.heap.size w w' := by
  rcases ownsT_cases ho with ⟨rfl, h0⟩ | ⟨g, c, rfl, _, _, _⟩
  · have hz : l = [] := List.eq_nil_of_length_eq_zero h0
    subst hz
    refine (AnyE.slices_Clone_nil Tryz.laysClone_91 0 0 w).mono ?_
    rintro e w1 ⟨rfl, rfl⟩
    exact ⟨_, rfl, World.ownsRow_nil _ _ _ _, Below.refl _ _⟩
  · obtain ⟨i0, hi, hz0, hz1, hz2⟩ := info_parts infoLiteral_t
    refine (AnyE.slices_Clone Tryz.laysClone_91 i0 _ 3 24 hi hz0 hz1 hz2 rfl (by decide) Tryz.sizeOf55 g 0 l.length c (cells3 l) w (cells3_len l) (by unfold maxLen; omega) (by omega) (fun j u hj => by rw [Nat.zero_add]; exact cellN_at ho hj) (cells3_one l)).mono ?_
    rintro e w1 ⟨v', rfl, o, _, b⟩
    exact ⟨v', rfl, o, b⟩
end Go.Proofs.YtgbpomakomddjabGreatDoor
