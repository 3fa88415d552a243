/- DERIVED. CONTRACTS of chapter 13: DomainLiterals of the program. -/
import Derived.Test.YtgbpomakomddjabGreatDoorDmG
import Derived.Test.YtgbpomakomddjabGreatDoorRowV
import Derived.Test.YtgbpomakomddjabGreatDoorTFl
import Derived.Test.YtgbpomakomddjabGreatDoorDmF
import Derived.Test.YtgbpomakomddjabGreatDoorActF
import Derived.Test.YtgbpomakomddjabGreatDoorRegZ
import Derived.Maps.AppendAt

section
namespace Go.Proofs.YtgbpomakomddjabGreatDoor
open Go.RowKit Go.Shelf
set_option linter.unusedVariables false

def cells3 (l : List Lt) : List Value := l.flatMap fun r => [.int .i64 r.ki, .int .i64 r.ac, .int .i64 r.va]
theorem flat_lt : ∀ xs : List Lt, xs.flatMap cellsLt = (cells3 xs).map .one
  | [] => rfl
  | r :: xs => by rw [List.flatMap_cons, flat_lt xs]; rfl
theorem cells3_app (l m : List Lt) : cells3 (l ++ m) = cells3 l ++ cells3 m := by simp [cells3]
def rowT (l : List Lt) : Tr := flatN 55 3 l.length (cells3 l)
theorem rowT_tr (l : List Lt) : rowT l = trLts l := by unfold rowT trLts rows flatN; rw [flat_lt]
section
variable {w0 W W1 w6 : World} {L : List Item} {l : List Lt} {v v' : Value} {F : List Nat}
theorem Sn.ownT (h : Sn w0 W (⟨rowT l, v, F⟩ :: L)) : W.ownsRow w0.heap.size 55 3 v l.length (cells3 l) := h.ownN
theorem Sn.appT {n : Nat} (c : Lt) (h : Sn w0 W (⟨rowT l, v, F⟩ :: L)) (hW : Below W.heap.size W W1) (hown : w6.ownsRow w0.heap.size 55 3 v' n (cells3 l ++ [.int .i64 c.ki, .int .i64 c.ac, .int .i64 c.va]))
    (hn : n = l.length + 1) (hg : W1.grownBy w6 v.ownBlock) (hat : v'.ownBlock = v.ownBlock ∨ v'.ownBlock = some W1.heap.size) : ∃ F', Sn w0 w6 (⟨rowT (l ++ [c]), v', F'⟩ :: L) := by
  obtain ⟨F', h'⟩ := Sn.appN h hW hown hg hat
  refine ⟨F', ?_⟩
  have e : rowT (l ++ [c]) = flatN 55 3 n (cells3 l ++ [.int .i64 c.ki, .int .i64 c.ac, .int .i64 c.va]) := by
    unfold rowT
    rw [cells3_app, hn, List.length_append]
    rfl
  rw [e]
  exact h'
theorem Sn.nilT (h : Sn w0 W L) : Sn w0 W (⟨rowT [], .slice none 0 0, []⟩ :: L) := h.nilN 55 3
theorem Sn.emptyT (h : Sn w0 W L) : Sn w0 (W.alloc (.cells #[] 55)) (⟨rowT [], .slice (some ⟨W.heap.size, 0, none⟩) 0 0, [W.heap.size]⟩ :: L) := h.emptyN 55 3
end
theorem three_cells (w : World) (x y z : Value) (t : TypeId) : ∀ j q, [x, y, z][j]? = some q → (w.alloc (.cells #[x, y, z] t)).cell? ((⟨w.heap.size, 0, none⟩ : Addr).add j) = some q := fun j q h => by
  obtain ⟨c0, c1, c2, _⟩ := (Bk.new w t #[x, y, z]).c3
  have hj : j < 3 := by simpa using (List.getElem?_eq_some_iff.1 h).1
  rcases (by omega : j = 0 ∨ j = 1 ∨ j = 2) with rfl | rfl | rfl
  · rw [show (⟨w.heap.size, 0, none⟩ : Addr).add 0 = ⟨w.heap.size, 0, none⟩ from by simp [Addr.add], c0]; exact h
  · rw [show (⟨w.heap.size, 0, none⟩ : Addr).add 1 = ⟨w.heap.size, 1, none⟩ from by simp [Addr.add], c1]; exact h
  · rw [show (⟨w.heap.size, 0, none⟩ : Addr).add 2 = ⟨w.heap.size, 2, none⟩ from by simp [Addr.add], c2]; exact h
theorem diff_len (a b : List Int) : (diffB a b).length ≤ a.length := Nat.le_trans (len_setB _) (List.length_filter_le _ _)
theorem range_le (n : Nat) : (rangeB (n : Int)).length ≤ n := by
  unfold rangeB
  split
  · rw [upB_len]; omega
  · simp
theorem litsA_len (p : Pj) (d : Dm) (a : Nat) : (litsA p d a).length ≤ 2 + (acA p a).length := by
  have h1 := diff_len (rangeB ((acA p a).length : Int)) (mdD d a)
  have h2 := range_le (acA p a).length
  unfold litsA
  rw [List.length_append, List.length_append, List.length_map]
  split <;> split <;> simp <;> omega
theorem litsK_len {p : Pj} {d : Dm} : ∀ {k : Nat}, (∀ a, a < k → (acA p a).length ≤ 3) → (litsK p d k).length ≤ 5 * k
  | 0, _ => by simp [litsK]
  | k + 1, h => by
    have h1 := litsK_len (p := p) (d := d) (k := k) (fun a ha => h a (by omega))
    have h2 := litsA_len p d k
    have h3 := h k (by omega)
    simp only [litsK, List.length_append]
    omega
theorem acA_le {p : Pj} (h : pokB p = true) (a : Nat) : (acA p a).length ≤ 3 := by
  unfold acA
  split
  next x hx => exact (aok_modes ((pok_acts h).2 x (List.mem_of_getElem? hx))).1
  next => simp
theorem szL_lt : ∀ l : List Lt, szL (l.flatMap cellsLt) = 0
  | [] => rfl
  | x :: l => by rw [List.flatMap_cons, szL_app, szL_lt l]; simp [cellsLt, szL, Tr.sz]
theorem lits_sz (p : Pj) (d : Dm) : (trLts (litsD p d)).sz ≤ 30 := by
  have e : (trLts (litsD p d)).sz = (litsD p d).length + szL ((litsD p d).flatMap cellsLt) := rfl
  rw [e, szL_lt]
  rcases h : dformB p d with _ | _
  · rw [lits_no h]; simp
  · rw [lits_yes h]
    have hf := dform_of h
    have h1 := litsK_len (p := p) (d := d) (k := p.acts.length) (fun a _ => acA_le hf.ok a)
    have := hf.n6
    omega
theorem pok_dl2 {p : Pj} (h : pokB p = true) : inB p.dl 1 60 = true := by
  simp only [pokB, Bool.and_eq_true] at h
  exact h.1
theorem take_map_snoc2 {α β : Type} {f : α → β} {l : List α} {k : Nat} (h : k < l.length) : (l.take k).map f ++ [f l[k]] = (l.take (k + 1)).map f := take_map_snoc h
end Go.Proofs.YtgbpomakomddjabGreatDoor
end

section
namespace Go.Proofs.YtgbpomakomddjabGreatDoor
open Go.RowKit Go.Shelf
set_option linter.unusedVariables false

end Go.Proofs.YtgbpomakomddjabGreatDoor
end
