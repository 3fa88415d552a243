/- DERIVED. OWN ROWS KEPT SIDE BY SIDE while a law's walk goes on: the newest first. No dump. -/
import Derived.Test.YtfgmbgdbnjpclaaRd
namespace Go.Proofs.Ytfgmbgdbnjpclaa
open Go.RowKit

structure ORow where
  e : TypeId
  s : Nat
  v : Value
  n : Nat
  xs : List Value

/-- Each row is owned from B on, and no two lie in one block. -/
def ORows (w : World) (B : Nat) : List ORow → Prop
  | [] => True
  | r :: rs => w.ownsRow B r.e r.s r.v r.n r.xs ∧ (∀ s ∈ rs, ∀ k, r.v.ownBlock = some k → s.v.ownBlock ≠ some k) ∧ ORows w B rs

theorem ORows.below {w w' : World} {B : Nat} : ∀ {L : List ORow}, ORows w B L → Below w.heap.size w w' → ORows w' B L
  | [], _, _ => trivial
  | _ :: _, h, hb => ⟨own_below h.1 hb (Nat.le_refl _), h.2.1, h.2.2.below hb⟩
theorem ORows.lt {w : World} {B : Nat} : ∀ {L : List ORow}, ORows w B L → ∀ r ∈ L, ∀ k, r.v.ownBlock = some k → k < w.heap.size
  | _ :: _, h, r, hr, k, hk => by
    rcases List.mem_cons.1 hr with rfl | hr
    · exact (h.1.lt k hk).2
    · exact h.2.2.lt r hr k hk
theorem ORows.at {w : World} {B : Nat} : ∀ {L : List ORow} {i : Nat} {r : ORow}, ORows w B L → L[i]? = some r → w.ownsRow B r.e r.s r.v r.n r.xs
  | _ :: _, 0, _, h, hr => by simp at hr; subst hr; exact h.1
  | _ :: _, _ + 1, _, h, hr => h.2.2.at (by simpa using hr)
theorem ORows.grown {w w' : World} {B : Nat} {row : Option Nat} : ∀ {L : List ORow}, ORows w B L → w.grownBy w' row → (∀ s ∈ L, ∀ k, row = some k → s.v.ownBlock ≠ some k) → ORows w' B L
  | [], _, _, _ => trivial
  | _ :: _, h, hg, hd => ⟨own_grown h.1 hg (fun k hk => .inr (hd _ (by simp) k hk)), h.2.1, h.2.2.grown hg (fun s hs => hd s (by simp [hs]))⟩
theorem ORows.mark {w w' : World} {B : Nat} {e : TypeId} {z : Nat} {v : Value} {n : Nat} {xs ys : List Value} : ∀ {L : List ORow} {i : Nat}, ORows w B L → L[i]? = some ⟨e, z, v, n, xs⟩ → w'.ownsRow B e z v n ys → w.grownBy w' v.ownBlock → ORows w' B (L.set i ⟨e, z, v, n, ys⟩)
  | r :: rs, 0, h, hr, ho, hg => by
    simp at hr; subst hr
    exact ⟨ho, h.2.1, h.2.2.grown hg h.2.1⟩
  | r :: rs, i + 1, h, hr, ho, hg => by
    have hr' : rs[i]? = some ⟨e, z, v, n, xs⟩ := by simpa using hr
    have hmem := List.mem_of_getElem? hr'
    refine ⟨own_grown h.1 hg (fun k hk => .inr (fun hk2 => h.2.1 _ hmem k hk2 hk)), ?_, h.2.2.mark hr' ho hg⟩
    intro s hs k hk
    rcases List.mem_or_eq_of_mem_set hs with hs | rfl
    · exact h.2.1 s hs k hk
    · exact h.2.1 _ hmem k hk

theorem own_base1 {w : World} {base base' : Nat} {e : TypeId} {size : Nat} {v : Value} {n : Nat} {xs : List Value} (h : w.ownsRow base e size v n xs) (hb : base' ≤ base) : w.ownsRow base' e size v n xs := by
  refine ⟨h.1, ?_⟩
  rcases h.2 with h | ⟨g, cap, cur, h1, h2, h3⟩
  · exact .inl h
  · exact .inr ⟨g, cap, cur, h1, Nat.le_trans hb h2, h3⟩

/-- From w0 the walk came to w: below w0's size nothing changed, and the rows L are the walk's own. -/
def St (w0 w : World) (L : List ORow) : Prop := Below w0.heap.size w0 w ∧ ORows w w0.heap.size L

theorem St.start (w : World) : St w w [] := ⟨Below.refl _ _, trivial⟩
theorem St.go {w0 w w' : World} {L : List ORow} (h : St w0 w L) (hb : Below w.heap.size w w') : St w0 w' L := ⟨h.1.trans (hb.mono h.1.size), h.2.below hb⟩
theorem St.drew {w0 w : World} {L : List ORow} (h : St w0 w L) (n : Nat) : St w0 (w.drewN n) L := h.go (below_drewN' w n)
theorem St.new {w0 w w' : World} {L : List ORow} {e : TypeId} {z : Nat} {v : Value} {n : Nat} {xs : List Value} (h : St w0 w L) (o : w'.ownsRow w.heap.size e z v n xs) (hb : Below w.heap.size w w') : St w0 w' (⟨e, z, v, n, xs⟩ :: L) :=
  ⟨h.1.trans (hb.mono h.1.size), own_base1 o h.1.size, fun s hs k hk hk2 => by
    have h1 := (o.lt k hk).1
    have h2 := h.2.lt s hs k hk2
    omega, h.2.below hb⟩
theorem St.own {w0 w : World} {L : List ORow} {e : TypeId} {z : Nat} {v : Value} {n : Nat} {xs : List Value} (h : St w0 w L) (i : Nat) (hr : L[i]? = some ⟨e, z, v, n, xs⟩) : w.ownsRow w0.heap.size e z v n xs := h.2.at hr
theorem St.rd {w0 w : World} {L : List ORow} {e : TypeId} {v : Value} {n : Nat} {xs : List Value} (h : St w0 w L) (i : Nat) (hr : L[i]? = some ⟨e, 1, v, n, xs⟩) (hm : n ≤ maxLen) : Rd w v xs := own_rd (h.own i hr) hm
theorem St.mark {w0 w w' : World} {L : List ORow} {e : TypeId} {z : Nat} {v : Value} {n : Nat} {xs ys : List Value} (h : St w0 w L) (i : Nat) (hr : L[i]? = some ⟨e, z, v, n, xs⟩) (ho : w'.ownsRow w0.heap.size e z v n ys) (hg : w.grownBy w' v.ownBlock) : St w0 w' (L.set i ⟨e, z, v, n, ys⟩) :=
  ⟨h.1.grown hg h.1.size (own_mem1 (h.own i hr)), h.2.mark hr ho hg⟩
where own_mem1 {w : World} {base : Nat} {e : TypeId} {size : Nat} {v : Value} {n : Nat} {xs : List Value} (h : w.ownsRow base e size v n xs) : ∀ i, v.ownBlock = some i → base ≤ i := fun i hi => (h.lt i hi).1
/-- A slice that came in stays as it was. -/
theorem St.old {w0 w : World} {L : List ORow} {v : Value} {xs : List Value} (h : St w0 w L) (hr : Rd w0 v xs) : Rd w v xs := hr.below h.1 (Nat.le_refl _)
end Go.Proofs.Ytfgmbgdbnjpclaa
