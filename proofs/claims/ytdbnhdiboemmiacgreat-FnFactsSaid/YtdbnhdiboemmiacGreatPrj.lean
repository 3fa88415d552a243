/- DERIVED. Projects as data, and their trees; appends in the drawing state. -/
import Derived.Test.YtdbnhdiboemmiacGreatDr4
import Derived.Test.YtdbnhdiboemmiacGreatStpM
import Derived.Test.YtdbnhdiboemmiacGreatDats
namespace Go.Proofs.YtdbnhdiboemmiacGreat
open Go.RowKit

theorem flat_pairs : ∀ xs : List (Int × Int), xs.flatMap cellsPt = (cellsP xs).map .one
  | [] => rfl
  | p :: xs => by rw [List.flatMap_cons, flat_pairs xs]; rfl
theorem own_pairs {w : World} {B : Nat} {v : Value} {n : Nat} {xs : List (Int × Int)} (h : w.ownsRow B 100 2 v n (cellsP xs)) : (trSt xs).own w B v v.ownBlock.toList ∧ v.ownBlock.toList.Nodup := by
  have hl := ownP_len h
  refine ⟨⟨cellsP xs, [], hl ▸ h, ?_, by simp⟩, by cases v.ownBlock <;> simp⟩
  rw [flat_pairs]
  exact ownL_ones.2 ⟨rfl, rfl⟩

section
variable {W0 w W W' : World} {g : Nat} {A : Option Addr} {c : Nat} {bs : List Int} {L : List Item}
theorem Sd.merge2 {a d : Item} (h : Sd W0 w g A c bs (a :: d :: L) W) : Sd W0 w g A c bs (⟨.agg [d.t, a.t], .agg ⟨[d.v, a.v]⟩, d.F ++ (a.F ++ [])⟩ :: L) W := by
  obtain ⟨oa, na, pa, od, nd, pd, rest⟩ := h.items
  refine ⟨h.wr, ⟨⟨_, rfl, d.v, _, d.F, _, rfl, od, ⟨a.v, _, a.F, _, rfl, oa, ⟨rfl, rfl⟩, rfl⟩, rfl⟩, ?_, fun s hs k hk => ?_, rest⟩, h.drw, h.lt, h.le⟩
  · exact List.nodup_append.2 ⟨nd, by simpa using na, fun p hp q hq e => pa d (by simp) q (by simpa using hq) (e ▸ hp)⟩
  · rcases List.mem_append.1 hk with hk | hk
    · exact pd s hs k hk
    · exact pa s (by simp [hs]) k (by simpa using hk)
theorem Sd.wrap {t : Tr} {v : Value} {F : List Nat} (h : Sd W0 w g A c bs (⟨t, v, F⟩ :: L) W) : Sd W0 w g A c bs (⟨.agg [t], .agg ⟨[v]⟩, F ++ []⟩ :: L) W := by
  obtain ⟨oa, na, pa, rest⟩ := h.items
  exact ⟨h.wr, ⟨⟨_, rfl, v, _, F, _, rfl, oa, ⟨rfl, rfl⟩, rfl⟩, by simpa using na, fun s hs k hk => pa s hs k (by simpa using hk), rest⟩, h.drw, h.lt, h.le⟩
/-- The box between the newest two is let go. -/
theorem Sd.drop1 {a b : Item} (h : Sd W0 w g A c bs (a :: b :: L) W) : Sd W0 w g A c bs (a :: L) W := by
  obtain ⟨oa, na, pa, ob, nb, pb, rest⟩ := h.items
  exact ⟨h.wr, ⟨oa, na, fun s hs k hk => pa s (by simp [hs]) k hk, rest⟩, h.drw, h.lt, h.le⟩
theorem Sd.swap {a b : Item} (h : Sd W0 w g A c bs (a :: b :: L) W) : Sd W0 w g A c bs (b :: a :: L) W := by
  obtain ⟨oa, na, pa, ob, nb, pb, rest⟩ := h.items
  refine ⟨h.wr, ⟨ob, nb, fun s hs k hk hk2 => ?_, oa, na, fun s hs k hk => pa s (by simp [hs]) k hk, rest⟩, h.drw, h.lt, h.le⟩
  rcases List.mem_cons.1 hs with rfl | hs
  · exact pa b (by simp) k hk2 hk
  · exact pb s hs k hk hk2
/-- Plain cells as an item. -/
theorem Sd.plain (xs : List Value) (h : Sd W0 w g A c bs L W) : Sd W0 w g A c bs (⟨.agg (xs.map .one), .agg ⟨xs⟩, []⟩ :: L) W :=
  ⟨h.wr, ⟨⟨_, rfl, ownL_ones.2 ⟨rfl, rfl⟩⟩, by simp, fun _ _ _ hk => by simp at hk, h.items⟩, h.drw, h.lt, h.le⟩
/-- An element, the newest tree, appended to the row behind it. -/
theorem Sd.appG {α : Type} {e : TypeId} {s : Nat} {f : α → List Tr} {xs : List α} {x : α} {v v' : Value} {F EF G : List Nat} {us vs : List Value} {w8 : World} {o : Obj} {n : Nat} (hn : n = xs.length + 1)
    (h : Sd W0 w g A c bs (⟨.agg (f x), .agg ⟨us⟩, EF⟩ :: ⟨rows e s f xs, v, F⟩ :: L) W) (ol : ownL W w.heap.size (xs.flatMap f) vs G) (hF : F = v.ownBlock.toList ++ G)
    (hown : w8.ownsRow w.heap.size e s v' n (vs ++ us)) (hg : (W.alloc o).grownBy w8 v.ownBlock) (hat : v'.ownBlock = v.ownBlock ∨ v'.ownBlock = some (W.heap.size + 1)) :
    ∃ F', Sd W0 w g A c bs (⟨rows e s f (xs ++ [x]), v', F'⟩ :: L) w8 := by
  have hal := (Below.refl W.heap.size W).alloc (Nat.le_refl _) o
  have h1 := h.merge2.go hal
  obtain ⟨vs', hvs, oe⟩ := (h.own 0 rfl).1
  have hvs' : us = vs' := by injection hvs with hvs; injection hvs
  subst hvs'
  have ap := h.items.apart (i := 0) (j := 1) rfl rfl (by omega)
  have lol := ownL_lt _ _ _ ol
  have loe := ownL_lt _ _ _ oe
  obtain ⟨F', h2, h3, h4⟩ := rows_app (e := e) (f := f) (xs := xs) (x := x) (n := n) (by simp [hn]) hown (ownL_keep _ _ _ ol (fun k hk => hal.block k (lol k hk).2)) (ownL_keep _ _ _ oe (fun k hk => hal.block k (loe k hk).2)) (hF ▸ (h.own 1 rfl).2) (h.own 0 rfl).2 (fun p hp hq => ap p hq (by rw [← hF] at hp; exact hp)) hg (by rw [World.size_alloc]; exact hat)
  refine ⟨F', h1.turn h2 h3 (fun p hp => ?_) ((Wr.of_grown hg).sub (fun p hp => ?_))⟩
  · rcases h4 p hp with h5 | h5 | h5
    · left; rw [← hF] at h5; exact List.mem_append.2 (.inl h5)
    · left; show p ∈ F ++ (EF ++ []); rw [List.append_nil]; exact List.mem_append.2 (.inr h5)
    · right; omega
  · show p ∈ F ++ (EF ++ [])
    rw [hF]
    exact List.mem_append.2 (.inl (List.mem_append.2 (.inl hp)))
theorem Sd.appI2 {w6 : World} {us : List Int} {v v' : Value} {F : List Nat} {r : Int} {n : Nat} {o : Obj}
    (h : Sd W0 w g A c bs (⟨trI us, v, F⟩ :: L) W) (hown : w6.ownsRow w.heap.size 3 1 v' n (us.map (.int .i64) ++ [.int .i64 r]))
    (hg : (W.alloc o).grownBy w6 v.ownBlock) (hat : v'.ownBlock = v.ownBlock ∨ v'.ownBlock = some (W.heap.size + 1)) : ∃ F', Sd W0 w g A c bs (⟨trI (us ++ [r]), v', F'⟩ :: L) w6 := by
  have h1 := h.go ((Below.refl W.heap.size W).alloc (Nat.le_refl _) o)
  have hF : F = v.ownBlock.toList := (own_flat h1.items.1).2
  have hw : Wr F (W.alloc o) w6 := hF ▸ Wr.of_grown hg
  refine ⟨_, h1.turn (t' := trI (us ++ [r])) (flat_own (by simpa using hown)).1 (flat_own (by simpa using hown)).2 (fun k hk => ?_) hw⟩
  rcases hat with h2 | h2
  · left; show k ∈ F; rw [hF, ← h2]; exact hk
  · right
    rw [h2] at hk
    simp at hk
    rw [World.size_alloc]; omega
theorem Sd.empty {α : Type} (e : TypeId) (s : Nat) (f : α → List Tr) (h : Sd W0 w g A c bs L W) : Sd W0 w g A c bs (⟨rows e s f [], .slice (some ⟨W.heap.size, 0, none⟩) 0 0, [W.heap.size]⟩ :: L) (W.alloc (.cells #[] e)) := by
  have h2 := h.go ((Below.refl W.heap.size W).alloc (Nat.le_refl _) (.cells #[] e))
  exact ⟨h2.wr, ⟨⟨[], [], ⟨by simp, .inr ⟨W.heap.size, 0, #[], rfl, h.wr.size, heap_alloc_new W _, Nat.le_refl _, by unfold maxLen; omega, by simp, by simp⟩⟩, ⟨rfl, rfl⟩, rfl⟩, by simp, fun s hs k hk hk2 => by
    have h4 := (h.items.lt s hs k hk2).2
    simp at hk
    omega, h2.items⟩, h2.drw, h.lt, h.le⟩
theorem Sd.emptyI (e : TypeId) (h : Sd W0 w g A c bs L W) : Sd W0 w g A c bs (⟨flat e [], .slice (some ⟨W.heap.size, 0, none⟩) 0 0, [W.heap.size]⟩ :: L) (W.alloc (.cells #[] e)) := h.empty (α := Nat) e 1 (fun _ => [])
theorem Sd.row1 (r : Int) (h : Sd W0 w g A c bs L W) : Sd W0 w g A c bs (⟨trI [r], .slice (some ⟨W.heap.size, 0, none⟩) 1 1, [W.heap.size]⟩ :: L) (W.alloc (.cells #[.int .i64 r] 3)) := by
  have h2 := h.go ((Below.refl W.heap.size W).alloc (Nat.le_refl _) (.cells #[.int .i64 r] 3))
  exact ⟨h2.wr, ⟨⟨[.int .i64 r], [], ⟨by simp, .inr ⟨W.heap.size, 1, #[.int .i64 r], rfl, h.wr.size, heap_alloc_new W _, Nat.le_refl _, by unfold maxLen; omega, by simp, by simp⟩⟩, ownL_ones.2 ⟨rfl, rfl⟩, rfl⟩, by simp, fun s hs k hk hk2 => by
    have h4 := (h.items.lt s hs k hk2).2
    simp at hk
    omega, h2.items⟩, h2.drw, h.lt, h.le⟩
end
end Go.Proofs.YtdbnhdiboemmiacGreat
