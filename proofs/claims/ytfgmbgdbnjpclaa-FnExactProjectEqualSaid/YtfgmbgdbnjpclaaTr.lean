/- DERIVED. Values that read as trees: plain cells, structs, slices (of structs, of slices); owned trees with their blocks; a walk's state over owned trees. No dump. -/
import Derived.Test.YtfgmbgdbnjpclaaRd
import Derived.Test.YtfgmbgdbnjpclaaStp
namespace Go.Proofs.Ytfgmbgdbnjpclaa
open Go.RowKit

inductive Tr where
  | one (x : Value)
  | agg (ts : List Tr)
  | row (e : TypeId) (s n : Nat) (cs : List Tr)

mutual
/-- The value reads as the tree. -/
def Tr.rd (w : World) : Tr → Value → Prop
  | .one x, v => v = x
  | .agg ts, v => ∃ vs : List Value, v = .agg ⟨vs⟩ ∧ rdL w ts vs
  | .row _ s n cs, v => ∃ vs, RdN s w v n vs ∧ rdL w cs vs
def rdL (w : World) : List Tr → List Value → Prop
  | [], vs => vs = []
  | t :: ts, vs => ∃ v us, vs = v :: us ∧ t.rd w v ∧ rdL w ts us
end
mutual
/-- The value reads as the tree, and the blocks F, from B on, are its own. -/
def Tr.own (w : World) (B : Nat) : Tr → Value → List Nat → Prop
  | .one x, v, F => v = x ∧ F = []
  | .agg ts, v, F => ∃ vs : List Value, v = .agg ⟨vs⟩ ∧ ownL w B ts vs F
  | .row e s n cs, v, F => ∃ vs G, w.ownsRow B e s v n vs ∧ ownL w B cs vs G ∧ F = v.ownBlock.toList ++ G
def ownL (w : World) (B : Nat) : List Tr → List Value → List Nat → Prop
  | [], vs, F => vs = [] ∧ F = []
  | t :: ts, vs, F => ∃ v us G H, vs = v :: us ∧ t.own w B v G ∧ ownL w B ts us H ∧ F = G ++ H
end

mutual
theorem Tr.rd_below {w w' : World} {B : Nat} (hb : Below B w w') (hB : w.heap.size ≤ B) : ∀ (t : Tr) (v : Value), t.rd w v → t.rd w' v
  | .one _, _, h => h
  | .agg ts, _, ⟨vs, h, g⟩ => ⟨vs, h, rdL_below hb hB ts vs g⟩
  | .row _ _ _ cs, _, ⟨vs, h, g⟩ => ⟨vs, h.below hb hB, rdL_below hb hB cs vs g⟩
theorem rdL_below {w w' : World} {B : Nat} (hb : Below B w w') (hB : w.heap.size ≤ B) : ∀ (ts : List Tr) (vs : List Value), rdL w ts vs → rdL w' ts vs
  | [], _, h => h
  | t :: ts, _, ⟨v, us, h, g, k⟩ => ⟨v, us, h, t.rd_below hb hB v g, rdL_below hb hB ts us k⟩
end

theorem own_le {w : World} {B : Nat} {e : TypeId} {s : Nat} {v : Value} {n : Nat} {xs : List Value} (h : w.ownsRow B e s v n xs) : n ≤ maxLen := by
  rcases h.2 with ⟨_, rfl⟩ | ⟨g, cap, cur, _, _, _, hnc, hcm, _⟩
  · unfold maxLen; omega
  · omega
theorem own_keep1 {w w' : World} {B : Nat} {e : TypeId} {s : Nat} {v : Value} {n : Nat} {xs : List Value} (h : w.ownsRow B e s v n xs) (hk : ∀ k, v.ownBlock = some k → w'.heap[k]? = w.heap[k]?) : w'.ownsRow B e s v n xs := by
  refine ⟨h.1, ?_⟩
  rcases h.2 with h | ⟨g, cap, cur, rfl, hg, hh, rest⟩
  · exact .inl h
  · exact .inr ⟨g, cap, cur, rfl, hg, (hk g rfl).trans hh, rest⟩
theorem own_baseN {w : World} {B B' : Nat} {e : TypeId} {s : Nat} {v : Value} {n : Nat} {xs : List Value} (h : w.ownsRow B e s v n xs) (hb : B' ≤ B) : w.ownsRow B' e s v n xs := by
  refine ⟨h.1, ?_⟩
  rcases h.2 with h | ⟨g, cap, cur, h1, h2, h3⟩
  · exact .inl h
  · exact .inr ⟨g, cap, cur, h1, Nat.le_trans hb h2, h3⟩
theorem mem_own {v : Value} {k : Nat} : k ∈ v.ownBlock.toList ↔ v.ownBlock = some k := by
  cases v.ownBlock <;> simp [eq_comm]

mutual
theorem Tr.own_rd {w : World} {B : Nat} : ∀ (t : Tr) (v : Value) (F : List Nat), t.own w B v F → t.rd w v
  | .one _, _, _, h => h.1
  | .agg ts, _, F, ⟨vs, h, g⟩ => ⟨vs, h, ownL_rd ts vs F g⟩
  | .row _ _ _ cs, _, _, ⟨vs, G, h, g, _⟩ => ⟨vs, own_rdN h (own_le h), ownL_rd cs vs G g⟩
theorem ownL_rd {w : World} {B : Nat} : ∀ (ts : List Tr) (vs : List Value) (F : List Nat), ownL w B ts vs F → rdL w ts vs
  | [], _, _, h => h.1
  | t :: ts, _, _, ⟨v, us, G, H, h, g, k, _⟩ => ⟨v, us, h, t.own_rd v G g, ownL_rd ts us H k⟩
end
mutual
theorem Tr.own_lt {w : World} {B : Nat} : ∀ (t : Tr) (v : Value) (F : List Nat), t.own w B v F → ∀ k ∈ F, B ≤ k ∧ k < w.heap.size
  | .one _, _, _, h => by intro k hk; rw [h.2] at hk; simp at hk
  | .agg ts, _, F, ⟨vs, _, g⟩ => ownL_lt ts vs F g
  | .row _ _ _ cs, v, _, ⟨vs, G, h, g, hF⟩ => by
    intro k hk
    rw [hF, List.mem_append, mem_own] at hk
    rcases hk with hk | hk
    · exact h.lt k hk
    · exact ownL_lt cs vs G g k hk
theorem ownL_lt {w : World} {B : Nat} : ∀ (ts : List Tr) (vs : List Value) (F : List Nat), ownL w B ts vs F → ∀ k ∈ F, B ≤ k ∧ k < w.heap.size
  | [], _, _, h => by intro k hk; rw [h.2] at hk; simp at hk
  | t :: ts, _, _, ⟨v, us, G, H, _, g, k', hF⟩ => by
    intro k hk
    rw [hF, List.mem_append] at hk
    rcases hk with hk | hk
    · exact t.own_lt v G g k hk
    · exact ownL_lt ts us H k' k hk
end
mutual
theorem Tr.own_keep {w w' : World} {B : Nat} : ∀ (t : Tr) (v : Value) (F : List Nat), t.own w B v F → (∀ k ∈ F, w'.heap[k]? = w.heap[k]?) → t.own w' B v F
  | .one _, _, _, h, _ => h
  | .agg ts, _, F, ⟨vs, h, g⟩, hk => ⟨vs, h, ownL_keep ts vs F g hk⟩
  | .row _ _ _ cs, v, _, ⟨vs, G, h, g, hF⟩, hk => ⟨vs, G, own_keep1 h (fun k hv => hk k (by rw [hF, List.mem_append, mem_own]; exact .inl hv)), ownL_keep cs vs G g (fun k hG => hk k (by rw [hF, List.mem_append]; exact .inr hG)), hF⟩
theorem ownL_keep {w w' : World} {B : Nat} : ∀ (ts : List Tr) (vs : List Value) (F : List Nat), ownL w B ts vs F → (∀ k ∈ F, w'.heap[k]? = w.heap[k]?) → ownL w' B ts vs F
  | [], _, _, h, _ => h
  | t :: ts, _, _, ⟨v, us, G, H, h, g, k', hF⟩, hk => ⟨v, us, G, H, h, t.own_keep v G g (fun k hG => hk k (by rw [hF, List.mem_append]; exact .inl hG)), ownL_keep ts us H k' (fun k hH => hk k (by rw [hF, List.mem_append]; exact .inr hH)), hF⟩
end
mutual
theorem Tr.own_base {w : World} {B B' : Nat} (hB : B' ≤ B) : ∀ (t : Tr) (v : Value) (F : List Nat), t.own w B v F → t.own w B' v F
  | .one _, _, _, h => h
  | .agg ts, _, F, ⟨vs, h, g⟩ => ⟨vs, h, ownL_base hB ts vs F g⟩
  | .row _ _ _ cs, _, _, ⟨vs, G, h, g, hF⟩ => ⟨vs, G, own_baseN h hB, ownL_base hB cs vs G g, hF⟩
theorem ownL_base {w : World} {B B' : Nat} (hB : B' ≤ B) : ∀ (ts : List Tr) (vs : List Value) (F : List Nat), ownL w B ts vs F → ownL w B' ts vs F
  | [], _, _, h => h
  | t :: ts, _, _, ⟨v, us, G, H, h, g, k', hF⟩ => ⟨v, us, G, H, h, t.own_base hB v G g, ownL_base hB ts us H k', hF⟩
end

theorem rdL_len {w : World} : ∀ {ts : List Tr} {vs : List Value}, rdL w ts vs → vs.length = ts.length
  | [], _, h => by rw [h]; rfl
  | _ :: _, _, ⟨_, _, h, _, k⟩ => by rw [h]; simp [rdL_len k]
theorem rdL_app {w : World} : ∀ {ts us : List Tr} {vs xs : List Value}, rdL w ts vs → rdL w us xs → rdL w (ts ++ us) (vs ++ xs)
  | [], _, _, _, h, k => by rw [h]; exact k
  | _ :: _, _, _, _, ⟨v, vs, h, g, k⟩, k2 => ⟨v, vs ++ _, by rw [h]; rfl, g, rdL_app k k2⟩
theorem rdL_split {w : World} : ∀ {ts us : List Tr} {vs : List Value}, rdL w (ts ++ us) vs → ∃ xs ys, vs = xs ++ ys ∧ rdL w ts xs ∧ rdL w us ys
  | [], _, vs, h => ⟨[], vs, rfl, rfl, h⟩
  | _ :: _, _, _, ⟨v, vs, h, g, k⟩ => by
    obtain ⟨xs, ys, e, h1, h2⟩ := rdL_split k
    exact ⟨v :: xs, ys, by rw [h, e]; rfl, ⟨v, xs, rfl, g, h1⟩, h2⟩
theorem rdL_get {w : World} : ∀ {ts : List Tr} {vs : List Value} {i : Nat} {t : Tr}, rdL w ts vs → ts[i]? = some t → ∃ v, vs[i]? = some v ∧ t.rd w v
  | _ :: _, _, 0, _, ⟨v, _, h, g, _⟩, hi => by simp at hi; subst hi; exact ⟨v, by rw [h]; rfl, g⟩
  | _ :: _, _, i + 1, _, ⟨_, _, h, _, k⟩, hi => by
    obtain ⟨v, h1, h2⟩ := rdL_get k (i := i) (by simpa using hi)
    exact ⟨v, by rw [h]; simpa using h1, h2⟩
theorem ownL_len {w : World} {B : Nat} : ∀ {ts : List Tr} {vs : List Value} {F : List Nat}, ownL w B ts vs F → vs.length = ts.length := fun h => rdL_len (ownL_rd _ _ _ h)

/-- One tree of a list in focus: it may be replaced. -/
theorem ownL_focus {w : World} {B : Nat} : ∀ {ts : List Tr} {vs : List Value} {F : List Nat} {i : Nat} {t : Tr}, ownL w B ts vs F → ts[i]? = some t →
    ∃ v G F1 F2, vs[i]? = some v ∧ t.own w B v G ∧ F = F1 ++ (G ++ F2) ∧ ∀ (w' : World) (t' : Tr) (v' : Value) (G' : List Nat), t'.own w' B v' G' → (∀ k, k ∈ F1 ∨ k ∈ F2 → w'.heap[k]? = w.heap[k]?) → ownL w' B (ts.set i t') (vs.set i v') (F1 ++ (G' ++ F2))
  | _ :: ts, _, _, 0, t, ⟨v, us, G, H, h, g, k, hF⟩, hi => by
    simp at hi
    subst hi
    refine ⟨v, G, [], H, by rw [h]; rfl, g, by simpa using hF, fun w' t' v' G' ho hk => ?_⟩
    exact ⟨v', us, G', H, by rw [h]; rfl, ho, ownL_keep ts us H k (fun j hj => hk j (.inr hj)), by simp⟩
  | t0 :: ts, _, _, i + 1, t, ⟨v, us, G, H, h, g, k, hF⟩, hi => by
    obtain ⟨v1, G1, F1, F2, h1, h2, h3, h4⟩ := ownL_focus k (i := i) (by simpa using hi)
    refine ⟨v1, G1, G ++ F1, F2, by rw [h]; simpa using h1, h2, by rw [hF, h3, List.append_assoc], fun w' t' v' G' ho hk => ?_⟩
    refine ⟨v, us.set i v', G, F1 ++ (G' ++ F2), by rw [h]; rfl, t0.own_keep v G g (fun j hj => hk j (.inl (by simp [hj]))), h4 w' t' v' G' ho (fun j hj => hk j ?_), by simp⟩
    rcases hj with hj | hj
    · exact .inl (by simp [hj])
    · exact .inr hj

/-- Only the blocks F, and what is new, have turned. -/
structure Wr (F : List Nat) (w w' : World) : Prop where
  os : w'.os = w.os
  tape : w'.tape = w.tape
  output : w'.output = w.output
  size : w.heap.size ≤ w'.heap.size
  block : ∀ k, k < w.heap.size → k ∉ F → w'.heap[k]? = w.heap[k]?
theorem Wr.refl (F : List Nat) (w : World) : Wr F w w := ⟨rfl, rfl, rfl, Nat.le_refl _, fun _ _ _ => rfl⟩
theorem Wr.trans {F : List Nat} {a b c : World} (h : Wr F a b) (k : Wr F b c) : Wr F a c :=
  ⟨k.os.trans h.os, k.tape.trans h.tape, k.output.trans h.output, Nat.le_trans h.size k.size, fun i hi hr => (k.block i (by have := h.size; omega) hr).trans (h.block i hi hr)⟩
theorem Wr.sub {F G : List Nat} {a b : World} (h : Wr F a b) (hs : ∀ k ∈ F, k ∈ G) : Wr G a b := ⟨h.os, h.tape, h.output, h.size, fun i hi hr => h.block i hi (fun e => hr (hs i e))⟩
theorem Wr.of_below {F : List Nat} {a b : World} {B : Nat} (h : Below B a b) (hB : a.heap.size ≤ B) : Wr F a b := ⟨h.os, h.tape, h.output, h.size, fun i hi _ => h.block i (by omega)⟩
theorem Wr.of_grown {a b : World} {row : Option Nat} (h : a.grownBy b row) : Wr row.toList a b := ⟨h.os, h.tape, h.output, h.size, fun i hi hr => h.block i hi (fun e => hr (by rw [← e]; simp))⟩
theorem Wr.below {F : List Nat} {w0 a b : World} {B : Nat} (h : Below B w0 a) (hw : Wr F a b) (hB : B ≤ a.heap.size) (hF : ∀ k ∈ F, B ≤ k) : Below B w0 b :=
  ⟨hw.os.trans h.os, hw.tape.trans h.tape, hw.output.trans h.output, Nat.le_trans h.size hw.size, fun i hi => (hw.block i (by omega) (fun e => by have := hF i e; omega)).trans (h.block i hi)⟩
theorem Wr.setCell (w : World) {F : List Nat} (p : Addr) (hp : p.block ∈ F) (u : Value) : Wr F w (w.setCell p u) :=
  ⟨rfl, rfl, rfl, by simp [World.setCell], fun i _ hne => Below.heap_setCell w p u i (fun e => hne (by rw [e]; exact hp))⟩

theorem nodup_mid {F1 G F2 : List Nat} (h : (F1 ++ (G ++ F2)).Nodup) : G.Nodup ∧ (∀ k ∈ G, k ∉ F1 ∧ k ∉ F2) ∧ ∀ G' : List Nat, G'.Nodup → (∀ k ∈ G', k ∉ F1 ∧ k ∉ F2) → (F1 ++ (G' ++ F2)).Nodup := by
  simp only [List.nodup_append, List.mem_append] at h ⊢
  obtain ⟨h1, ⟨h2, h3, h4⟩, h5⟩ := h
  refine ⟨h2, fun k hk => ⟨fun e => h5 k e k (.inl hk) rfl, fun e => h4 k hk k e rfl⟩, fun G' hn hd => ⟨h1, ⟨hn, h3, fun a ha b hb e => (hd a ha).2 (e ▸ hb)⟩, fun a ha b hb e => ?_⟩⟩
  rcases hb with hb | hb
  · exact (hd b hb).1 (e ▸ ha)
  · exact h5 a ha b (.inr hb) e

/-- An own row at an address. -/
abbrev RowAt (w : World) (B : Nat) (e : TypeId) (s n g cap : Nat) (cs : List Tr) (F : List Nat) : Prop := (Tr.row e s n cs).own w B (.slice (some ⟨g, 0, none⟩) n cap) F ∧ F.Nodup

theorem RowAt.len {w : World} {B : Nat} {e : TypeId} {s n g cap : Nat} {cs : List Tr} {F : List Nat} (h : RowAt w B e s n g cap cs F) : cs.length = n * s := by
  obtain ⟨⟨vs, G, h1, h2, _⟩, _⟩ := h
  rw [← ownL_len h2]; exact h1.1
theorem RowAt.lt {w : World} {B : Nat} {e : TypeId} {s n g cap : Nat} {cs : List Tr} {F : List Nat} (h : RowAt w B e s n g cap cs F) : B ≤ g ∧ g < w.heap.size := by
  obtain ⟨⟨vs, G, h1, h2, _⟩, _⟩ := h
  exact h1.lt g rfl
theorem RowAt.mem {w : World} {B : Nat} {e : TypeId} {s n g cap : Nat} {cs : List Tr} {F : List Nat} (h : RowAt w B e s n g cap cs F) : g ∈ F := by
  obtain ⟨⟨vs, G, _, _, hF⟩, _⟩ := h
  rw [hF]; simp [Value.ownBlock]
/-- What a cell of an own row holds. -/
theorem RowAt.cell {w : World} {B : Nat} {e : TypeId} {s n g cap : Nat} {cs : List Tr} {F : List Nat} (h : RowAt w B e s n g cap cs F) {i : Nat} {t : Tr} (hi : cs[i]? = some t) :
    ∃ x H, w.cell? ⟨g, i, none⟩ = some x ∧ w.frozen? ⟨g, i, none⟩ = false ∧ t.own w B x H ∧ H.Nodup ∧ (∀ k ∈ H, k ∈ F ∧ k ≠ g) := by
  have hlen := h.len
  obtain ⟨⟨vs, G, h1, h2, hF⟩, hn⟩ := h
  obtain ⟨x, H, F1, F2, hx, ho, hG, _⟩ := ownL_focus h2 hi
  rw [hF, hG] at hn
  simp only [Value.ownBlock, Option.toList] at hn
  have hn' : (([g] ++ F1) ++ (H ++ F2)).Nodup := by simpa using hn
  obtain ⟨m1, m2, _⟩ := nodup_mid hn'
  have hil : i < cs.length := (List.getElem?_eq_some_iff.1 hi).1
  refine ⟨x, H, ?_, h1.frozenAt i, ho, m1, fun k hk => ⟨?_, fun e => (m2 k hk).1 (by simp [e])⟩⟩
  · rw [h1.cellAt i (by omega), hx]
  · rw [hF, hG]; simp [hk]
/-- A cell of an own row written, with a tree whose blocks are not the row's. -/
theorem RowAt.put {w : World} {B : Nat} {e : TypeId} {s n g cap : Nat} {cs : List Tr} {F : List Nat} (h : RowAt w B e s n g cap cs F) {i : Nat} (hi : i < cs.length) {t' : Tr} {x' : Value} {H' : List Nat}
    (ho : t'.own w B x' H') (hn' : H'.Nodup) (hd : ∀ k ∈ H', k ∉ F) :
    ∃ F', RowAt (w.setCell ⟨g, i, none⟩ x') B e s n g cap (cs.set i t') F' ∧ (∀ k ∈ F', k ∈ F ∨ k ∈ H') := by
  have hgF := h.mem
  obtain ⟨⟨vs, G, h1, h2, hF⟩, hn⟩ := h
  obtain ⟨x, H, F1, F2, hx, _, hG, hback⟩ := ownL_focus h2 (List.getElem?_eq_getElem hi)
  rw [hF, hG] at hn
  simp only [Value.ownBlock, Option.toList] at hn
  have hn2 : (([g] ++ F1) ++ (H ++ F2)).Nodup := by simpa using hn
  obtain ⟨m1, m2, m3⟩ := nodup_mid hn2
  have hsub : ∀ k, k ∈ g :: F1 ∨ k ∈ F2 → k ∈ F := by
    intro k hk; rw [hF, hG]; simp only [Value.ownBlock, Option.toList, List.mem_append, List.mem_cons, List.not_mem_nil] at hk ⊢
    rcases hk with (rfl | hk) | hk
    · exact .inl (.inl rfl)
    · exact .inr (.inl hk)
    · exact .inr (.inr (.inr hk))
  have hm3 := m3 H' hn' (fun k hk => ⟨fun e => hd k hk (hsub k (.inl (by simpa using e))), fun e => hd k hk (hsub k (.inr e))⟩)
  have hgH : g ∉ H' := fun e => hd g e hgF
  have hgF1 : g ∉ F1 ∧ g ∉ F2 := by
    have hn3 := hn
    simp only [List.singleton_append, List.nodup_cons, List.mem_append, not_or] at hn3
    exact ⟨hn3.1.1, hn3.1.2.2⟩
  have hs := (h1.stored i x').1
  refine ⟨([g] ++ F1) ++ (H' ++ F2), ⟨⟨vs.set i x', F1 ++ (H' ++ F2), hs, hback _ t' x' H' ?_ ?_, by simp [Value.ownBlock]⟩, hm3⟩, fun k hk => ?_⟩
  · exact t'.own_keep x' H' ho (fun k hk => Below.heap_setCell w _ _ k (fun e => hgH (by have e' : k = g := e; exact e' ▸ hk)))
  · intro k hk
    refine Below.heap_setCell w _ _ k (fun e => ?_)
    have e' : k = g := e
    subst e'
    rcases hk with hk | hk
    · exact hgF1.1 hk
    · exact hgF1.2 hk
  · simp only [List.mem_append, List.mem_cons, List.not_mem_nil, or_false] at hk
    rcases hk with (rfl | hk) | hk | hk
    · exact .inl hgF
    · exact .inl (hsub k (.inl (by simp [hk])))
    · exact .inr hk
    · exact .inl (hsub k (.inr hk))
/-- A plain cell of an own row written. -/
theorem RowAt.put1 {w : World} {B : Nat} {e : TypeId} {s n g cap : Nat} {cs : List Tr} {F : List Nat} (h : RowAt w B e s n g cap cs F) {i : Nat} (hi : i < cs.length) (y : Value) :
    ∃ F', RowAt (w.setCell ⟨g, i, none⟩ y) B e s n g cap (cs.set i (.one y)) F' ∧ (∀ k ∈ F', k ∈ F) := by
  obtain ⟨F', h1, h2⟩ := h.put hi (t' := .one y) (x' := y) (H' := []) ⟨rfl, rfl⟩ (by simp) (by simp)
  exact ⟨F', h1, fun k hk => by simpa using h2 k hk⟩
/-- What lies behind a cell of an own row has turned. -/
theorem RowAt.turn {w w' : World} {B : Nat} {e : TypeId} {s n g cap : Nat} {cs : List Tr} {F : List Nat} (h : RowAt w B e s n g cap cs F) {i : Nat} {t : Tr} (hi : cs[i]? = some t) :
    ∃ x H, w.cell? ⟨g, i, none⟩ = some x ∧ t.own w B x H ∧ H.Nodup ∧ (∀ k ∈ H, k ∈ F ∧ k ≠ g) ∧ ∀ (t' : Tr) (H' : List Nat), t'.own w' B x H' → H'.Nodup → (∀ k ∈ H', k ∈ H) → Wr H w w' →
      ∃ F', RowAt w' B e s n g cap (cs.set i t') F' ∧ (∀ k ∈ F', k ∈ F) := by
  have hlen := h.len
  have hlt := h.lt
  have hgF := h.mem
  have hall := Tr.own_lt _ _ _ h.1
  obtain ⟨⟨vs, G, h1, h2, hF⟩, hn⟩ := h
  obtain ⟨x, H, F1, F2, hx, ho, hG, hback⟩ := ownL_focus h2 hi
  rw [hF, hG] at hn
  simp only [Value.ownBlock, Option.toList] at hn
  have hn' : (([g] ++ F1) ++ (H ++ F2)).Nodup := by simpa using hn
  obtain ⟨m1, m2, m3⟩ := nodup_mid hn'
  have hil : i < cs.length := (List.getElem?_eq_some_iff.1 hi).1
  have hsub : ∀ k, k ∈ g :: F1 ∨ k ∈ F2 ∨ k ∈ H → k ∈ F := by
    intro k hk; rw [hF, hG]; simp only [Value.ownBlock, Option.toList, List.mem_append, List.mem_cons, List.not_mem_nil] at hk ⊢
    rcases hk with (rfl | hk) | hk | hk
    · exact .inl (.inl rfl)
    · exact .inr (.inl hk)
    · exact .inr (.inr (.inr hk))
    · exact .inr (.inr (.inl hk))
  refine ⟨x, H, by rw [h1.cellAt i (by omega), hx], ho, m1, fun k hk => ⟨hsub k (.inr (.inr hk)), fun e => (m2 k hk).1 (by simp [e])⟩, fun t' H' ho' hn2 hs hw => ?_⟩
  have hkeep : ∀ k, k ∈ g :: F1 ∨ k ∈ F2 → w'.heap[k]? = w.heap[k]? := by
    intro k hk
    refine hw.block k (hall k (hsub k (hk.imp id .inl))).2 (fun e => ?_)
    rcases hk with hk | hk
    · exact (m2 k e).1 (by simpa using hk)
    · exact (m2 k e).2 hk
  refine ⟨([g] ++ F1) ++ (H' ++ F2), ⟨⟨vs, F1 ++ (H' ++ F2), own_keep1 h1 (fun k hk => ?_), ?_, by simp [Value.ownBlock]⟩, m3 H' hn2 (fun k hk => m2 k (hs k hk))⟩, fun k hk => ?_⟩
  · simp only [Value.ownBlock, Option.some.injEq] at hk
    exact hkeep k (.inl (by simp [hk]))
  · have := hback w' t' x H' ho' (fun k hk => hkeep k (hk.imp (fun h => by simp [h]) id))
    rwa [show vs.set i x = vs from by
      obtain ⟨hj, he⟩ := List.getElem?_eq_some_iff.1 hx
      exact he ▸ List.set_getElem_self hj] at this
  · simp only [List.mem_append, List.mem_cons, List.not_mem_nil, or_false] at hk
    rcases hk with (rfl | hk) | hk | hk
    · exact hgF
    · exact hsub k (.inl (by simp [hk]))
    · exact hsub k (.inr (.inr (hs k hk)))
    · exact hsub k (.inr (.inl hk))

/-- A walk's own trees, side by side. -/
structure Item where
  t : Tr
  v : Value
  F : List Nat
def Items (w : World) (B : Nat) : List Item → Prop
  | [] => True
  | r :: rs => r.t.own w B r.v r.F ∧ r.F.Nodup ∧ (∀ s ∈ rs, ∀ k ∈ r.F, k ∉ s.F) ∧ Items w B rs
theorem Items.keep {w w' : World} {B : Nat} : ∀ {L : List Item}, Items w B L → (∀ s ∈ L, ∀ k ∈ s.F, w'.heap[k]? = w.heap[k]?) → Items w' B L
  | [], _, _ => trivial
  | r :: _, h, hk => ⟨r.t.own_keep _ _ h.1 (hk r (by simp)), h.2.1, h.2.2.1, h.2.2.2.keep (fun s hs => hk s (by simp [hs]))⟩
theorem Items.lt {w : World} {B : Nat} : ∀ {L : List Item}, Items w B L → ∀ r ∈ L, ∀ k ∈ r.F, B ≤ k ∧ k < w.heap.size
  | r0 :: _, h, r, hr, k, hk => by
    rcases List.mem_cons.1 hr with rfl | hr
    · exact r.t.own_lt _ _ h.1 k hk
    · exact h.2.2.2.lt r hr k hk
theorem Items.at {w : World} {B : Nat} : ∀ {L : List Item} {i : Nat} {r : Item}, Items w B L → L[i]? = some r → r.t.own w B r.v r.F ∧ r.F.Nodup
  | _ :: _, 0, _, h, hr => by simp at hr; subst hr; exact ⟨h.1, h.2.1⟩
  | _ :: _, _ + 1, _, h, hr => h.2.2.2.at (by simpa using hr)
theorem Items.mark {w w' : World} {B : Nat} {t t' : Tr} {v v' : Value} {F F' : List Nat} (ho : t'.own w' B v' F') (hn : F'.Nodup) (hs : ∀ k ∈ F', k ∈ F) (hw : Wr F w w') : ∀ {L : List Item} {i : Nat}, Items w B L → L[i]? = some ⟨t, v, F⟩ → Items w' B (L.set i ⟨t', v', F'⟩)
  | r :: rs, 0, h, hr => by
    simp at hr; subst hr
    have hlt := h.2.2.2.lt
    exact ⟨ho, hn, fun s hs' k hk => h.2.2.1 s hs' k (hs k hk), h.2.2.2.keep (fun s hs' k hk => hw.block k (hlt s hs' k hk).2 (fun e => h.2.2.1 s hs' k e hk))⟩
  | r :: rs, i + 1, h, hr => by
    have hr' : rs[i]? = some ⟨t, v, F⟩ := by simpa using hr
    have hmem := List.mem_of_getElem? hr'
    have hlt := r.t.own_lt _ _ h.1
    refine ⟨r.t.own_keep _ _ h.1 (fun k hk => hw.block k (hlt k hk).2 (fun e => h.2.2.1 _ hmem k hk e)), h.2.1, ?_, h.2.2.2.mark ho hn hs hw hr'⟩
    intro s hs' k hk
    rcases List.mem_or_eq_of_mem_set hs' with hs' | rfl
    · exact h.2.2.1 s hs' k hk
    · exact fun e => h.2.2.1 _ hmem k hk (hs k e)
theorem Items.base {w : World} {B B' : Nat} (hB : B' ≤ B) : ∀ {L : List Item}, Items w B L → Items w B' L
  | [], _ => trivial
  | r :: _, h => ⟨r.t.own_base hB _ _ h.1, h.2.1, h.2.2.1, h.2.2.2.base hB⟩

/-- From w0 the walk came to w: below w0's size nothing changed, and the trees L are the walk's own. -/
def Sn (w0 w : World) (L : List Item) : Prop := Below w0.heap.size w0 w ∧ Items w w0.heap.size L
theorem Sn.start (w : World) : Sn w w [] := ⟨Below.refl _ _, trivial⟩
theorem Sn.go {w0 w w' : World} {L : List Item} (h : Sn w0 w L) (hb : Below w.heap.size w w') : Sn w0 w' L := ⟨h.1.trans (hb.mono h.1.size), h.2.keep (fun s hs k hk => hb.block k (h.2.lt s hs k hk).2)⟩
theorem Sn.drew {w0 w : World} {L : List Item} (h : Sn w0 w L) (n : Nat) : Sn w0 (w.drewN n) L := h.go (below_drewN' w n)
theorem Sn.new {w0 w w' : World} {L : List Item} {t : Tr} {v : Value} {F : List Nat} (h : Sn w0 w L) (o : t.own w' w.heap.size v F) (hn : F.Nodup) (hb : Below w.heap.size w w') : Sn w0 w' (⟨t, v, F⟩ :: L) :=
  ⟨h.1.trans (hb.mono h.1.size), t.own_base h.1.size _ _ o, hn, fun s hs k hk hk2 => by
    have h1 := (t.own_lt _ _ o k hk).1
    have h2 := (h.2.lt s hs k hk2).2
    omega, h.2.keep (fun s hs k hk => hb.block k (h.2.lt s hs k hk).2)⟩
theorem Sn.own {w0 w : World} {L : List Item} {t : Tr} {v : Value} {F : List Nat} (h : Sn w0 w L) (i : Nat) (hr : L[i]? = some ⟨t, v, F⟩) : t.own w w0.heap.size v F ∧ F.Nodup := h.2.at hr
theorem Sn.rd {w0 w : World} {L : List Item} {t : Tr} {v : Value} {F : List Nat} (h : Sn w0 w L) (i : Nat) (hr : L[i]? = some ⟨t, v, F⟩) : t.rd w v := t.own_rd _ _ (h.own i hr).1
theorem Sn.mark {w0 w w' : World} {L : List Item} {t t' : Tr} {v v' : Value} {F F' : List Nat} (h : Sn w0 w L) (i : Nat) (hr : L[i]? = some ⟨t, v, F⟩) (ho : t'.own w' w0.heap.size v' F') (hn : F'.Nodup) (hs : ∀ k ∈ F', k ∈ F) (hw : Wr F w w') : Sn w0 w' (L.set i ⟨t', v', F'⟩) :=
  ⟨hw.below h.1 h.1.size (fun k hk => ((Tr.own_lt _ _ _ (h.own i hr).1) k hk).1), h.2.mark ho hn hs hw hr⟩
/-- What came in stays as it was. -/
theorem Sn.old {w0 w : World} {L : List Item} {t : Tr} {v : Value} (h : Sn w0 w L) (hr : t.rd w0 v) : t.rd w v := t.rd_below h.1 (Nat.le_refl _) v hr

theorem Tr.own_setCell {w : World} {B : Nat} {t : Tr} {v : Value} {F : List Nat} (h : t.own w B v F) {p : Addr} (hp : p.block < B) (x : Value) : t.own (w.setCell p x) B v F :=
  t.own_keep v F h (fun k hk => Below.heap_setCell w p x k (fun e => by have := (t.own_lt v F h k hk).1; omega))
theorem Tr.own_below {w w' : World} {B K : Nat} {t : Tr} {v : Value} {F : List Nat} (h : t.own w B v F) (hb : Below K w w') (hK : w.heap.size ≤ K) : t.own w' B v F :=
  t.own_keep v F h (fun k hk => hb.block k (by have := (t.own_lt v F h k hk).2; omega))
theorem Tr.own_alloc {w : World} {B : Nat} {t : Tr} {v : Value} {F : List Nat} (h : t.own w B v F) (o : Obj) : t.own (w.alloc o) B v F :=
  Tr.own_below h ((Below.refl w.heap.size w).alloc (Nat.le_refl _) o) (Nat.le_refl _)

theorem nodup_apart {F G : List Nat} {K : Nat} (hF : F.Nodup) (hG : G.Nodup) (h1 : ∀ k ∈ F, k < K) (h2 : ∀ k ∈ G, K ≤ k) : (F ++ G).Nodup :=
  List.nodup_append.2 ⟨hF, hG, fun a ha b hb e => by have := h1 a ha; have := h2 b hb; omega⟩

-- Rows of plain cells.
theorem rdL_ones {w : World} : ∀ {xs vs : List Value}, rdL w (xs.map .one) vs ↔ vs = xs
  | [], _ => Iff.rfl
  | x :: xs, vs => by
    constructor
    · rintro ⟨v, us, rfl, hv, h⟩
      rw [rdL_ones.1 h]; exact congrArg (· :: xs) hv
    · rintro rfl
      exact ⟨x, xs, rfl, rfl, rdL_ones.2 rfl⟩
theorem ownL_ones {w : World} {B : Nat} : ∀ {xs vs : List Value} {F : List Nat}, ownL w B (xs.map .one) vs F ↔ vs = xs ∧ F = []
  | [], _, _ => Iff.rfl
  | x :: xs, vs, F => by
    constructor
    · rintro ⟨v, us, G, H, rfl, hv, h, rfl⟩
      obtain ⟨h1, h2⟩ := ownL_ones.1 h
      exact ⟨by rw [h1]; exact congrArg (· :: xs) hv.1, by rw [hv.2, h2]; rfl⟩
    · rintro ⟨rfl, rfl⟩
      exact ⟨x, xs, [], [], rfl, ⟨rfl, rfl⟩, ownL_ones.2 ⟨rfl, rfl⟩, rfl⟩
/-- A row of plain cells. -/
def flat (e : TypeId) (xs : List Value) : Tr := .row e 1 xs.length (xs.map .one)
theorem rd_flat {w : World} {e : TypeId} {xs : List Value} {v : Value} (h : (flat e xs).rd w v) : Rd w v xs := by
  obtain ⟨vs, ⟨hl, _, A, c, rfl, h⟩, hv⟩ := h
  have hv' := rdL_ones.1 hv
  subst hv'
  refine ⟨hl, A, c, rfl, ?_⟩
  rcases h with h | h
  · exact .inl (List.eq_nil_of_length_eq_zero h)
  · exact .inr h
theorem flat_rd {w : World} {e : TypeId} {xs : List Value} {v : Value} (h : Rd w v xs) : (flat e xs).rd w v := by
  obtain ⟨hl, A, c, rfl, h⟩ := h
  refine ⟨xs, ⟨hl, by simp, A, c, rfl, ?_⟩, rdL_ones.2 rfl⟩
  rcases h with rfl | h
  · exact .inl rfl
  · exact .inr h
theorem flat_own {w : World} {B : Nat} {e : TypeId} {n : Nat} {xs : List Value} {v : Value} (h : w.ownsRow B e 1 v n xs) : (flat e xs).own w B v v.ownBlock.toList ∧ v.ownBlock.toList.Nodup := by
  obtain rfl := own_len h
  exact ⟨⟨xs, [], h, ownL_ones.2 ⟨rfl, rfl⟩, by simp⟩, by cases v.ownBlock <;> simp⟩
theorem own_flat {w : World} {B : Nat} {e : TypeId} {xs : List Value} {v : Value} {F : List Nat} (h : (flat e xs).own w B v F) : w.ownsRow B e 1 v xs.length xs ∧ F = v.ownBlock.toList := by
  obtain ⟨vs, G, ho, hv, hF⟩ := h
  obtain ⟨rfl, rfl⟩ := ownL_ones.1 hv
  exact ⟨ho, by simpa using hF⟩

-- Slices of structs: s cells an element.
theorem flatMap_len {α : Type} {f : α → List Tr} {s : Nat} (hs : ∀ x, (f x).length = s) : ∀ xs : List α, (xs.flatMap f).length = xs.length * s
  | [] => by simp
  | x :: xs => by simp [flatMap_len hs xs, hs, Nat.succ_mul]; omega
theorem flatMap_get {α : Type} {f : α → List Tr} {s : Nat} (hs : ∀ x, (f x).length = s) : ∀ (xs : List α) (j : Nat) (h : j < xs.length) (i : Nat), i < s → (xs.flatMap f)[j * s + i]? = (f xs[j])[i]?
  | x :: xs, 0, _, i, hi => by
    simp only [List.flatMap_cons, Nat.zero_mul, Nat.zero_add, List.getElem_cons_zero]
    rw [List.getElem?_append_left (by rw [hs]; exact hi)]
  | x :: xs, j + 1, h, i, hi => by
    have := flatMap_get hs xs j (by simpa using h) i hi
    rw [List.flatMap_cons, List.getElem?_append_right (by rw [hs, Nat.succ_mul]; omega), hs, show (j + 1) * s + i - s = j * s + i from by rw [Nat.succ_mul]; omega, this]
    simp
theorem flatMap_set {α : Type} {f : α → List Tr} {s : Nat} (hs : ∀ x, (f x).length = s) : ∀ (xs : List α) (j : Nat) (h : j < xs.length) (i : Nat), i < s → ∀ (t : Tr) (y : α), f y = (f xs[j]).set i t → (xs.flatMap f).set (j * s + i) t = (xs.set j y).flatMap f
  | x :: xs, 0, _, i, hi, t, y, hy => by
    simp only [List.flatMap_cons, Nat.zero_mul, Nat.zero_add, List.set_cons_zero, List.getElem_cons_zero] at hy ⊢
    rw [List.set_append_left _ _ (by rw [hs]; exact hi), hy]
  | x :: xs, j + 1, h, i, hi, t, y, hy => by
    have := flatMap_set hs xs j (by simpa using h) i hi t y (by simpa using hy)
    rw [List.flatMap_cons, List.set_append_right _ _ (by rw [hs, Nat.succ_mul]; omega), hs, show (j + 1) * s + i - s = j * s + i from by rw [Nat.succ_mul]; omega, this]
    simp
theorem rdL_flatMap {α : Type} {w : World} {f : α → List Tr} {s : Nat} (hs : ∀ x, (f x).length = s) : ∀ {xs : List α} {vs : List Value}, rdL w (xs.flatMap f) vs → ∀ j, (h : j < xs.length) → ∃ us, rdL w (f xs[j]) us ∧ ∀ i, i < s → vs[j * s + i]? = us[i]?
  | x :: xs, vs, h, 0, _ => by
    rw [List.flatMap_cons] at h
    obtain ⟨us, ys, rfl, h1, _⟩ := rdL_split h
    have hl := rdL_len h1
    rw [hs] at hl
    refine ⟨us, h1, fun i hi => ?_⟩
    rw [Nat.zero_mul, Nat.zero_add, List.getElem?_append_left (by omega)]
  | x :: xs, vs, h, j + 1, hj => by
    rw [List.flatMap_cons] at h
    obtain ⟨us, ys, rfl, h1, h2⟩ := rdL_split h
    have hl := rdL_len h1
    rw [hs] at hl
    obtain ⟨zs, h3, h4⟩ := rdL_flatMap hs h2 j (by simpa using hj)
    refine ⟨zs, by simpa using h3, fun i hi => ?_⟩
    rw [List.getElem?_append_right (by rw [Nat.succ_mul]; omega), hl, show (j + 1) * s + i - s = j * s + i from by rw [Nat.succ_mul]; omega, h4 i hi]
/-- A slice of elements of s cells. -/
def rows {α : Type} (e : TypeId) (s : Nat) (f : α → List Tr) (xs : List α) : Tr := .row e s xs.length (xs.flatMap f)
/-- Such a slice opened, without a parting. -/
theorem rd_rows {α : Type} {w : World} {e : TypeId} {f : α → List Tr} {s : Nat} (hs : ∀ x, (f x).length = s) {xs : List α} {v : Value} (h : (rows e s f xs).rd w v) :
    xs.length ≤ 9223372036854775807 ∧ ∃ A c, v = .slice A xs.length c ∧ ∀ k, k < xs.length → ∃ b o, A = some ⟨b, o, none⟩ ∧ b < w.heap.size ∧ ∀ j, (hj : j < xs.length) → ∃ us, rdL w (f xs[j]) us ∧ ∀ i, i < s → w.cell? ⟨b, o + (j * s + i), none⟩ = us[i]? := by
  obtain ⟨vs, ⟨hm, hl, A, c, rfl, g⟩, hv⟩ := h
  refine ⟨by unfold maxLen at hm; exact hm, A, c, rfl, fun k hk => ?_⟩
  rcases g with g | ⟨b, o, rfl, hb, hc⟩
  · omega
  · refine ⟨b, o, rfl, hb, fun j hj => ?_⟩
    obtain ⟨us, h1, h2⟩ := rdL_flatMap hs hv j hj
    refine ⟨us, h1, fun i hi => ?_⟩
    have hx : j * s + i < vs.length := by
      rw [hl]
      have : j * s + s ≤ xs.length * s := by rw [← Nat.succ_mul]; exact Nat.mul_le_mul_right _ hj
      omega
    rw [hc _ hx, ← h2 i hi, List.getElem?_eq_getElem hx]

theorem RowAt.frozen {w : World} {B : Nat} {e : TypeId} {s n g cap : Nat} {cs : List Tr} {F : List Nat} (h : RowAt w B e s n g cap cs F) (i : Nat) : w.frozen? ⟨g, i, none⟩ = false := by
  obtain ⟨⟨vs, G, h1, h2, hF⟩, hn⟩ := h
  exact h1.frozenAt i
theorem RowAt.some {w : World} {B : Nat} {e : TypeId} {s n g cap : Nat} {cs : List Tr} {F : List Nat} (h : RowAt w B e s n g cap cs F) {i : Nat} (hi : i < cs.length) : ∃ z, w.cell? ⟨g, i, none⟩ = some z := by
  obtain ⟨x, _, hx, _⟩ := h.cell (List.getElem?_eq_getElem hi)
  exact ⟨x, hx⟩
theorem RowAt.below {w w' : World} {B K : Nat} {e : TypeId} {s n g cap : Nat} {cs : List Tr} {F : List Nat} (h : RowAt w B e s n g cap cs F) (hb : Below K w w') (hK : w.heap.size ≤ K) : RowAt w' B e s n g cap cs F :=
  ⟨Tr.own_below h.1 hb hK, h.2⟩
theorem RowAt.allLt {w : World} {B : Nat} {e : TypeId} {s n g cap : Nat} {cs : List Tr} {F : List Nat} (h : RowAt w B e s n g cap cs F) : ∀ k ∈ F, B ≤ k ∧ k < w.heap.size := Tr.own_lt _ _ _ h.1
/-- Cells written one after another. -/
def setL (w : World) (g i : Nat) : List Value → World
  | [] => w
  | x :: xs => setL (w.setCell ⟨g, i, none⟩ x) g (i + 1) xs
def setT (cs : List Tr) (i : Nat) : List Tr → List Tr
  | [] => cs
  | t :: ts => setT (cs.set i t) (i + 1) ts
theorem setL_below {w0 : World} {B g : Nat} (hg : B ≤ g) : ∀ (xs : List Value) (w : World) (i : Nat), Below B w0 w → Below B w0 (setL w g i xs)
  | [], _, _, h => h
  | x :: xs, _, i, h => setL_below hg xs _ _ (h.setCell (p := ⟨g, i, none⟩) hg x)
theorem RowAt.putL {B K : Nat} (hK : B ≤ K) {e : TypeId} {s n g cap : Nat} (hg : g < K) : ∀ (ts : List Tr) (xs : List Value) (w : World) (cs : List Tr) (F H : List Nat) (i : Nat), RowAt w B e s n g cap cs F → i + ts.length ≤ cs.length → ownL w K ts xs H → H.Nodup → (∀ k ∈ H, k ∉ F) →
    ∃ F', RowAt (setL w g i xs) B e s n g cap (setT cs i ts) F' ∧ ∀ k ∈ F', k ∈ F ∨ k ∈ H
  | [], xs, _, _, F, H, _, h, _, ho, _, _ => by
    have hx : xs = [] := ho.1
    subst hx
    exact ⟨F, h, fun k hk => .inl hk⟩
  | t :: ts, xs, w, cs, F, H, i, h, hi, ⟨v, us, G, H2, hxs, g1, g2, hH⟩, hn, hd => by
    subst hxs
    subst hH
    obtain ⟨n1, n2, n3⟩ := List.nodup_append.1 hn
    obtain ⟨F1, h1, hs1⟩ := h.put (i := i) (by simp at hi; omega) (t.own_base hK v G g1) n1 (fun k hk => hd k (by simp [hk]))
    have g2' : ownL (w.setCell ⟨g, i, none⟩ v) K ts us H2 := ownL_keep ts us H2 g2 (fun k hk => Below.heap_setCell w _ _ k (fun e => by
      have e' : k = g := e
      have := (ownL_lt ts us H2 g2 k hk).1
      omega))
    obtain ⟨F', h2, hs2⟩ := RowAt.putL hK hg ts us _ _ F1 H2 (i + 1) h1 (by simp at hi ⊢; omega) g2' n2 (fun k hk hk1 => by
      rcases hs1 k hk1 with hf | hf
      · exact hd k (by simp [hk]) hf
      · exact n3 k hf k hk rfl)
    refine ⟨F', h2, fun k hk => ?_⟩
    rcases hs2 k hk with hf | hf
    · rcases hs1 k hf with hf | hf
      · exact .inl hf
      · exact .inr (by simp [hf])
    · exact .inr (by simp [hf])
theorem setT_app : ∀ (ts pre post : List Tr), ts.length ≤ post.length → setT (pre ++ post) pre.length ts = pre ++ (ts ++ post.drop ts.length)
  | [], pre, post, _ => by simp [setT]
  | t :: ts, pre, post, h => by
    match post, h with
    | p :: post, h =>
      have := setT_app ts (pre ++ [t]) post (by simpa using h)
      simp only [List.length_append, List.length_cons, List.length_nil, Nat.zero_add, List.append_assoc, List.singleton_append] at this
      simp only [setT, List.length_cons, List.drop_succ_cons]
      rw [List.set_append_right _ _ (Nat.le_refl _), Nat.sub_self, List.set_cons_zero, this]
      simp
/-- The first k elements written, the rest as made. -/
def mixR {α : Type} (f : α → List Tr) (s : Nat) (raw : List Value) (xs : List α) (k : Nat) : List Tr := (xs.take k).flatMap f ++ (raw.drop (k * s)).map .one
theorem mixR_zero {α : Type} (f : α → List Tr) (s : Nat) (raw : List Value) (xs : List α) : mixR f s raw xs 0 = raw.map .one := by simp [mixR]
theorem mixR_full {α : Type} {f : α → List Tr} {s : Nat} {raw : List Value} {xs : List α} (hr : raw.length = xs.length * s) : mixR f s raw xs xs.length = xs.flatMap f := by simp [mixR, ← hr]
theorem mixR_len {α : Type} {f : α → List Tr} {s : Nat} (hs : ∀ x, (f x).length = s) {raw : List Value} {xs : List α} (hr : raw.length = xs.length * s) {k : Nat} (hk : k ≤ xs.length) : (mixR f s raw xs k).length = xs.length * s := by
  have hm : k * s ≤ xs.length * s := Nat.mul_le_mul_right _ hk
  simp only [mixR, List.length_append, flatMap_len hs, List.length_take, Nat.min_eq_left hk, List.length_map, List.length_drop, hr]
  omega
theorem mixR_set {α : Type} {f : α → List Tr} {s : Nat} (hs : ∀ x, (f x).length = s) {raw : List Value} {xs : List α} (hr : raw.length = xs.length * s) {k : Nat} (hk : k < xs.length) : setT (mixR f s raw xs k) (k * s) (f xs[k]) = mixR f s raw xs (k + 1) := by
  have hm : (k + 1) * s ≤ xs.length * s := Nat.mul_le_mul_right _ hk
  have hp : ((xs.take k).flatMap f).length = k * s := by rw [flatMap_len hs, List.length_take, Nat.min_eq_left (by omega)]
  have := setT_app (f xs[k]) ((xs.take k).flatMap f) ((raw.drop (k * s)).map .one) (by
    rw [hs, List.length_map, List.length_drop, hr]; rw [Nat.succ_mul] at hm; omega)
  rw [hp] at this
  unfold mixR
  rw [this, List.take_succ_eq_append_getElem hk, List.flatMap_append, hs]
  simp only [List.flatMap_cons, List.flatMap_nil, List.append_nil, List.append_assoc, ← List.map_drop, List.drop_drop]
  rw [Nat.succ_mul]
theorem row_made {w : World} {B : Nat} {e : TypeId} {s n g cap : Nat} {raw : List Value} (h : w.ownsRow B e s (.slice (some ⟨g, 0, none⟩) n cap) n raw) : RowAt w B e s n g cap (raw.map .one) [g] :=
  ⟨⟨raw, [], h, ownL_ones.2 ⟨rfl, rfl⟩, by simp [Value.ownBlock]⟩, by simp⟩
end Go.Proofs.Ytfgmbgdbnjpclaa
