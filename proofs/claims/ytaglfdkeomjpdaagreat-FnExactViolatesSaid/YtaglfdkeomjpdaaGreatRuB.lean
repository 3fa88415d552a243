/- DERIVED. Rows of rules in the walk's state. -/
import Derived.Test.YtaglfdkeomjpdaaGreatRuV
import Derived.Test.YtaglfdkeomjpdaaGreatSnV
namespace Go.Proofs.YtaglfdkeomjpdaaGreat
open Go.RowKit Go.Shelf
set_option linter.unusedVariables false

def cells4 (l : List Ru) : List Value := l.flatMap fun r => [.int .i64 r.ki, .int .i64 r.a, .int .i64 r.b, .int .i64 r.c]
theorem flat_ru : ∀ xs : List Ru, xs.flatMap cellsRu = (cells4 xs).map .one
  | [] => rfl
  | r :: xs => by rw [List.flatMap_cons, flat_ru xs]; rfl
theorem cells4_app (l m : List Ru) : cells4 (l ++ m) = cells4 l ++ cells4 m := by simp [cells4]
theorem trRus_eq (xs : List Ru) : trRus xs = flatN 38 4 xs.length (cells4 xs) := by unfold trRus rows flatN; rw [flat_ru]
/-- A slice of the rules of conditions. -/
def rowR (l : List Cd) : Tr := flatN 38 4 l.length (cells4 (l.map Cd.ru))
theorem rowR_tr (l : List Cd) : rowR l = trRus (l.map Cd.ru) := by rw [trRus_eq, List.length_map]; rfl
section
variable {w0 W W1 w6 : World} {L : List Item} {l : List Cd} {v v' : Value} {F : List Nat}
theorem Sn.ownR (h : Sn w0 W (⟨rowR l, v, F⟩ :: L)) : W.ownsRow w0.heap.size 38 4 v l.length (cells4 (l.map Cd.ru)) := h.ownN
theorem Sn.appR {n : Nat} (c : Cd) (h : Sn w0 W (⟨rowR l, v, F⟩ :: L)) (hW : Below W.heap.size W W1) (hown : w6.ownsRow w0.heap.size 38 4 v' n (cells4 (l.map Cd.ru) ++ [.int .i64 c.ru.ki, .int .i64 c.ru.a, .int .i64 c.ru.b, .int .i64 c.ru.c]))
    (hn : n = l.length + 1) (hg : W1.grownBy w6 v.ownBlock) (hat : v'.ownBlock = v.ownBlock ∨ v'.ownBlock = some W1.heap.size) : ∃ F', Sn w0 w6 (⟨rowR (l ++ [c]), v', F'⟩ :: L) := by
  obtain ⟨F', h'⟩ := Sn.appN h hW hown hg hat
  refine ⟨F', ?_⟩
  have e : rowR (l ++ [c]) = flatN 38 4 n (cells4 (l.map Cd.ru) ++ [.int .i64 c.ru.ki, .int .i64 c.ru.a, .int .i64 c.ru.b, .int .i64 c.ru.c]) := by
    unfold rowR
    rw [List.map_append, cells4_app, hn, List.length_append]
    rfl
  rw [e]
  exact h'
theorem Sn.nilRu (h : Sn w0 W L) : Sn w0 W (⟨rowR [], .slice none 0 0, []⟩ :: L) := h.nilN 38 4
theorem Sn.emptyRu (h : Sn w0 W L) : Sn w0 (W.alloc (.cells #[] 38)) (⟨rowR [], .slice (some ⟨W.heap.size, 0, none⟩) 0 0, [W.heap.size]⟩ :: L) := h.emptyN 38 4
end
/-- A slice of plain cells opened at its indices. -/
theorem rdV {α : Type} {f : α → Value} {w : World} {A : Option Addr} {n c : Nat} {xs : List α} (h : Rd w (.slice A n c) (xs.map f)) : n = xs.length ∧ ∀ k, k < xs.length → ∃ b o, A = some ⟨b, o, none⟩ ∧ b < w.heap.size ∧ ∀ j, (hj : j < xs.length) → w.cell? ⟨b, o + j, none⟩ = some (f xs[j]) := by
  obtain ⟨_, A', c', he, h⟩ := h
  injection he with h1 h2 h3
  subst h1 h2
  simp only [List.length_map] at *
  refine ⟨trivial, fun k hk => ?_⟩
  rcases h with h | ⟨b, o, rfl, hb, hc⟩
  · have : xs = [] := by simpa using h
    subst this
    exact absurd hk (by simp)
  · exact ⟨b, o, rfl, hb, fun j hj => by simpa using hc j hj⟩
end Go.Proofs.YtaglfdkeomjpdaaGreat
