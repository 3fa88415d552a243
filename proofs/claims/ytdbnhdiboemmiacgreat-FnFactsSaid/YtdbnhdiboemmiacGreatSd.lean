/- DERIVED. The state of a walk that draws from a cursor: own trees and boxes beside it; an element appended to an own row of trees. -/
import Derived.Test.YtdbnhdiboemmiacGreatCore
import Derived.Test.YtdbnhdiboemmiacGreatCur
namespace Go.Proofs.YtdbnhdiboemmiacGreat
open Go.RowKit

theorem Drw.wr {W0 w w' : World} {g : Nat} {A : Option Addr} {c : Nat} {bs : List Int} {F : List Nat} (h : Drw W0 w g A c bs) (hw : Wr F w w') (hF : ∀ k ∈ F, W0.heap.size ≤ k) (hg : g ∉ F) : Drw W0 w' g A c bs := by
  have hb : w'.heap[g]? = w.heap[g]? := hw.block g h.cur.lt hg
  have hc : ∀ i, w'.cell? ⟨g, i, none⟩ = w.cell? ⟨g, i, none⟩ := fun i => World.cell?_of_block (a := ⟨g, i, none⟩) hb
  have hf : ∀ i, w'.frozen? ⟨g, i, none⟩ = w.frozen? ⟨g, i, none⟩ := fun i => World.frozen?_of_block (a := ⟨g, i, none⟩) hb
  refine ⟨⟨(hc 0).trans h.cur.buf, ?_, ?_, ⟨(hf 1).trans h.cur.fr.1, (hf 2).trans h.cur.fr.2⟩, Nat.lt_of_lt_of_le h.cur.lt hw.size⟩, h.rd, hw.below h.bel h.bel.size hF, h.le, h.by8, h.len⟩
  · obtain ⟨i, h1, h2⟩ := h.cur.pos
    exact ⟨i, h1, (hc 1).trans h2⟩
  · obtain ⟨x, h2⟩ := h.cur.seed
    exact ⟨x, (hc 2).trans h2⟩

/-- From w the walk came to W: but for the cursor's block, what lay at w is as it was; the trees L are the walk's own; the cursor can be drawn from. -/
structure Sd (W0 w : World) (g : Nat) (A : Option Addr) (c : Nat) (bs : List Int) (L : List Item) (W : World) : Prop where
  wr : Wr [g] w W
  items : Items W w.heap.size L
  drw : Drw W0 W g A c bs
  lt : g < w.heap.size
  le : W0.heap.size ≤ w.heap.size
section
variable {W0 w W W' : World} {g : Nat} {A : Option Addr} {c : Nat} {bs : List Int} {L : List Item}
theorem Sd.start (h : Drw W0 w g A c bs) : Sd W0 w g A c bs [] w := ⟨Wr.refl _ _, trivial, h, h.cur.lt, h.bel.size⟩
theorem Sd.go (h : Sd W0 w g A c bs L W) (hb : Below W.heap.size W W') : Sd W0 w g A c bs L W' :=
  ⟨h.wr.trans (Wr.of_below hb (Nat.le_refl _)), h.items.keep (fun s hs k hk => hb.block k (h.items.lt s hs k hk).2), h.drw.below hb, h.lt, h.le⟩
theorem Sd.drew (h : Sd W0 w g A c bs L W) : Sd W0 w g A c bs L W.drew := h.go (Below.refl _ _).drew
theorem Sd.call (h : Sd W0 w g A c bs L W) (hd : Drw W0 W' g A c bs) (hg : W.grownBy W' (some g)) : Sd W0 w g A c bs L W' :=
  ⟨h.wr.trans (Wr.of_grown hg), h.items.keep (fun s hs k hk => hg.block k (h.items.lt s hs k hk).2 (fun e => by injection e with e; have := (h.items.lt s hs k hk).1; have := h.lt; omega)), hd, h.lt, h.le⟩
theorem Sd.new {t : Tr} {v : Value} {F : List Nat} (h : Sd W0 w g A c bs L W) (o : t.own W' W.heap.size v F) (hn : F.Nodup) (hd : Drw W0 W' g A c bs) (hg : W.grownBy W' (some g)) : Sd W0 w g A c bs (⟨t, v, F⟩ :: L) W' := by
  have h2 := h.call hd hg
  exact ⟨h2.wr, ⟨t.own_base h.wr.size _ _ o, hn, fun s hs k hk hk2 => by
    have h3 := (t.own_lt _ _ o k hk).1
    have h4 := (h.items.lt s hs k hk2).2
    omega, h2.items⟩, hd, h.lt, h.le⟩
theorem Sd.box (h : Sd W0 w g A c bs L W) (t : TypeId) (cs : List Value) : Sd W0 w g A c bs (boxI W.heap.size t cs :: L) (W.alloc (.cells ⟨cs⟩ t)) := by
  have h2 := h.go ((Below.refl W.heap.size W).alloc (Nat.le_refl _) (.cells ⟨cs⟩ t))
  exact ⟨h2.wr, ⟨Bk.own (Bk.new W t ⟨cs⟩) h.wr.size, by simp [boxI], fun s hs k hk hk2 => by
    have h4 := (h.items.lt s hs k hk2).2
    simp [boxI] at hk
    omega, h2.items⟩, h2.drw, h.lt, h.le⟩
theorem Sd.own {t : Tr} {v : Value} {F : List Nat} (h : Sd W0 w g A c bs L W) (i : Nat) (hr : L[i]? = some ⟨t, v, F⟩) : t.own W w.heap.size v F ∧ F.Nodup := h.items.at hr
theorem Sd.rd {t : Tr} {v : Value} {F : List Nat} (h : Sd W0 w g A c bs L W) (i : Nat) (hr : L[i]? = some ⟨t, v, F⟩) : t.rd W v := t.own_rd _ _ (h.own i hr).1
theorem Sd.bk {b : Nat} {t : TypeId} {cs : List Value} (h : Sd W0 w g A c bs L W) (i : Nat) (hr : L[i]? = some (boxI b t cs)) : Bk W b t ⟨cs⟩ := own_bk (h.own i hr).1
theorem Sd.mark {t t' : Tr} {v v' : Value} {F F' : List Nat} (h : Sd W0 w g A c bs L W) (i : Nat) (hr : L[i]? = some ⟨t, v, F⟩) (ho : t'.own W' w.heap.size v' F') (hn : F'.Nodup) (hs : ∀ k ∈ F', k ∈ F) (hw : Wr F W W') : Sd W0 w g A c bs (L.set i ⟨t', v', F'⟩) W' := by
  have hlt := Tr.own_lt _ _ _ (h.own i hr).1
  refine ⟨⟨hw.os.trans h.wr.os, hw.tape.trans h.wr.tape, hw.output.trans h.wr.output, Nat.le_trans h.wr.size hw.size, fun k hk hne => (hw.block k (by have := h.wr.size; omega) (fun e => by have := (hlt k e).1; omega)).trans (h.wr.block k hk hne)⟩, h.items.mark ho hn hs hw hr, ?_, h.lt, h.le⟩
  exact h.drw.wr hw (fun k hk => by have := (hlt k hk).1; have := h.le; omega) (fun e => by have := (hlt g e).1; have := h.lt; omega)
theorem Sd.boxSet {b : Nat} {t : TypeId} {cs : List Value} (h : Sd W0 w g A c bs L W) (i : Nat) (hr : L[i]? = some (boxI b t cs)) (k : Nat) (x : Value) :
    Sd W0 w g A c bs (L.set i (boxI b t (cs.set k x))) (W.setCell ⟨b, k, none⟩ x) := by
  have ho := h.own i hr
  have hb := own_bk ho.1
  have hB : w.heap.size ≤ b := (Tr.own_lt _ _ _ ho.1 b (by simp)).1
  have hn : Bk (W.setCell ⟨b, k, none⟩ x) b t ⟨cs.set k x⟩ := by
    have := hb.set k x
    simpa using this
  have hm := h.mark i hr (Bk.own hn hB) (by simp [boxI]) (fun k hk => hk) (Wr.setCell W ⟨b, k, none⟩ (by simp) x)
  exact hm
theorem Sd.drop {r : Item} (h : Sd W0 w g A c bs (r :: L) W) : Sd W0 w g A c bs L W := ⟨h.wr, h.items.2.2.2, h.drw, h.lt, h.le⟩
theorem Sd.nil {α : Type} (e : TypeId) (s : Nat) (f : α → List Tr) (h : Sd W0 w g A c bs L W) : Sd W0 w g A c bs (⟨rows e s f [], .slice none 0 0, []⟩ :: L) W :=
  ⟨h.wr, ⟨⟨[], [], ⟨by simp, .inl ⟨rfl, rfl⟩⟩, ⟨rfl, rfl⟩, rfl⟩, by simp, fun _ _ _ hk => by simp at hk, h.items⟩, h.drw, h.lt, h.le⟩
theorem Sd.nilF (e : TypeId) (h : Sd W0 w g A c bs L W) : Sd W0 w g A c bs (⟨flat e [], .slice none 0 0, []⟩ :: L) W :=
  ⟨h.wr, ⟨⟨[], [], ⟨by simp, .inl ⟨rfl, rfl⟩⟩, ⟨rfl, rfl⟩, rfl⟩, by simp, fun _ _ _ hk => by simp at hk, h.items⟩, h.drw, h.lt, h.le⟩
/-- The newest tree's place taken by one whose blocks are its own or new. -/
theorem Sd.turn {r : Item} {t' : Tr} {v' : Value} {F' : List Nat} (h : Sd W0 w g A c bs (r :: L) W) (ho : t'.own W' w.heap.size v' F') (hn : F'.Nodup) (hs : ∀ k ∈ F', k ∈ r.F ∨ W.heap.size ≤ k) (hw : Wr r.F W W') : Sd W0 w g A c bs (⟨t', v', F'⟩ :: L) W' := by
  have hlt := Tr.own_lt _ _ _ h.items.1
  have hl2 := h.items.2.2.2.lt
  have hap := h.items.2.2.1
  refine ⟨⟨hw.os.trans h.wr.os, hw.tape.trans h.wr.tape, hw.output.trans h.wr.output, Nat.le_trans h.wr.size hw.size, fun k hk hne => (hw.block k (by have := h.wr.size; omega) (fun e => by have := (hlt k e).1; omega)).trans (h.wr.block k hk hne)⟩,
    ⟨ho, hn, fun s hs' k hk hk2 => ?_, h.items.2.2.2.keep (fun s hs' k hk => hw.block k (hl2 s hs' k hk).2 (fun e => hap s hs' k e hk))⟩, ?_, h.lt, h.le⟩
  · rcases hs k hk with h1 | h1
    · exact hap s hs' k h1 hk2
    · have := (hl2 s hs' k hk2).2; omega
  · exact h.drw.wr hw (fun k hk => by have := (hlt k hk).1; have := h.le; omega) (fun e => by have := (hlt g e).1; have := h.lt; omega)
/-- Three own trees become one, a box between them is let go. -/
theorem Sd.merge3 {a b x d : Item} (h : Sd W0 w g A c bs (a :: b :: x :: d :: L) W) : Sd W0 w g A c bs (⟨.agg [d.t, b.t, a.t], .agg ⟨[d.v, b.v, a.v]⟩, d.F ++ (b.F ++ (a.F ++ []))⟩ :: L) W := by
  obtain ⟨oa, na, pa, ob, nb, pb, ox, nx, px, od, nd, pd, rest⟩ := h.items
  refine ⟨h.wr, ⟨⟨_, rfl, d.v, _, d.F, _, rfl, od, ⟨b.v, _, b.F, _, rfl, ob, ⟨a.v, _, a.F, _, rfl, oa, ⟨rfl, rfl⟩, rfl⟩, rfl⟩, rfl⟩, ?_, fun s hs k hk => ?_, rest⟩, h.drw, h.lt, h.le⟩
  · have n1 : (b.F ++ (a.F ++ [])).Nodup := List.nodup_append.2 ⟨nb, by simpa using na, fun p hp q hq e => pa b (by simp) q (by simpa using hq) (e ▸ hp)⟩
    refine List.nodup_append.2 ⟨nd, n1, fun p hp q hq e => ?_⟩
    rcases List.mem_append.1 hq with hq | hq
    · exact pb d (by simp) q hq (e ▸ hp)
    · exact pa d (by simp) q (by simpa using hq) (e ▸ hp)
  · rcases List.mem_append.1 hk with hk | hk
    · exact pd s hs k hk
    · rcases List.mem_append.1 hk with hk | hk
      · exact pb s (by simp [hs]) k hk
      · exact pa s (by simp [hs]) k (by simpa using hk)
end

/-- Own rows of trees, opened for an append. -/
theorem rows_raw {α : Type} {w : World} {B : Nat} {e : TypeId} {s : Nat} {f : α → List Tr} {xs : List α} {v : Value} {F : List Nat} (h : (rows e s f xs).own w B v F) : ∃ vs G, w.ownsRow B e s v xs.length vs ∧ ownL w B (xs.flatMap f) vs G ∧ F = v.ownBlock.toList ++ G := h
/-- An element appended: the row's blocks and the element's are the new row's, but for a block that the row may have left for a new one. -/
theorem rows_app {α : Type} {w w' : World} {B : Nat} {e : TypeId} {s : Nat} {f : α → List Tr} {xs : List α} {x : α} {v v' : Value} {vs us : List Value} {G H : List Nat} {n : Nat} (hn : n = (xs ++ [x]).length)
    (o : w'.ownsRow B e s v' n (vs ++ us)) (h1 : ownL w B (xs.flatMap f) vs G) (h2 : ownL w B (f x) us H) (hN : (v.ownBlock.toList ++ G).Nodup) (hH : H.Nodup) (hd : ∀ k ∈ v.ownBlock.toList ++ G, k ∉ H) (hg : w.grownBy w' v.ownBlock) (hv : v'.ownBlock = v.ownBlock ∨ v'.ownBlock = some w.heap.size) :
    ∃ F', (rows e s f (xs ++ [x])).own w' B v' F' ∧ F'.Nodup ∧ (∀ k ∈ F', k ∈ v.ownBlock.toList ++ G ∨ k ∈ H ∨ k = w.heap.size) := by
  have l1 := ownL_lt _ _ _ h1
  have l2 := ownL_lt _ _ _ h2
  obtain ⟨n1, n2, n3⟩ := List.nodup_append.1 hN
  have k1 := ownL_keep _ _ _ h1 (w' := w') (fun k hk => hg.block k (l1 k hk).2 (fun e => n3 k (mem_own.2 e.symm) k hk rfl))
  have k2 := ownL_keep _ _ _ h2 (w' := w') (fun k hk => hg.block k (l2 k hk).2 (fun e => hd k (List.mem_append.2 (.inl (mem_own.2 e.symm))) hk))
  have happ : ∀ {ts us : List Tr} {ps qs : List Value} {P Q : List Nat}, ownL w' B ts ps P → ownL w' B us qs Q → ownL w' B (ts ++ us) (ps ++ qs) (P ++ Q) := by
    intro ts
    induction ts with
    | nil => intro us ps qs P Q hp hq; rw [hp.1, hp.2]; exact hq
    | cons t ts ih =>
      rintro us ps qs P Q ⟨p, ps', P1, P2, rfl, g1, g2, rfl⟩ hq
      exact ⟨p, ps' ++ qs, P1, P2 ++ Q, rfl, g1, ih g2 hq, by simp⟩
  refine ⟨v'.ownBlock.toList ++ (G ++ H), ⟨vs ++ us, G ++ H, hn ▸ o, by rw [List.flatMap_append]; simpa using happ k1 k2, rfl⟩, ?_, fun k hk => ?_⟩
  · have nGH : (G ++ H).Nodup := List.nodup_append.2 ⟨n2, hH, fun a ha b hb e => hd a (List.mem_append.2 (.inr ha)) (e ▸ hb)⟩
    rcases hv with hv | hv
    · rw [hv]
      refine List.nodup_append.2 ⟨n1, nGH, fun a ha b hb e => ?_⟩
      rcases List.mem_append.1 hb with hb | hb
      · exact n3 a ha b hb e
      · exact hd a (List.mem_append.2 (.inl ha)) (e ▸ hb)
    · rw [hv]
      simp only [Option.toList, List.singleton_append, List.nodup_cons]
      refine ⟨fun e => ?_, nGH⟩
      rcases List.mem_append.1 e with e | e
      · have := (l1 _ e).2; omega
      · have := (l2 _ e).2; omega
  · rcases List.mem_append.1 hk with hk | hk
    · rcases hv with hv | hv
      · rw [hv] at hk; exact .inl (List.mem_append.2 (.inl hk))
      · rw [hv] at hk; simp at hk; exact .inr (.inr hk)
    · rcases List.mem_append.1 hk with hk | hk
      · exact .inl (List.mem_append.2 (.inr hk))
      · exact .inr (.inl hk)
end Go.Proofs.YtdbnhdiboemmiacGreat
