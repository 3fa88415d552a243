/- DERIVED. What the laws' helpers do to trees: sizes, counts, marks; rows marked cell by cell; trees packed to structs. -/
import Derived.Test.YtfgmbgdbnjpclaaSnB
import Derived.Test.YtfgmbgdbnjpclaaMark
import Derived.Test.YtfgmbgdbnjpclaaMod
import Derived.Test.YtfgmbgdbnjpclaaIntS
namespace Go.Proofs.Ytfgmbgdbnjpclaa
open Go.RowKit

mutual
/-- How many cells a mark walks over. -/
def Tr.cnt : Tr → Nat
  | .one _ => 1
  | .agg ts => cntL ts
  | .row _ _ _ cs => cntL cs
def cntL : List Tr → Nat
  | [] => 0
  | t :: ts => t.cnt + cntL ts
end
mutual
/-- What the laws count of an argument. -/
def Tr.sz : Tr → Nat
  | .one (.string s) => s.size
  | .one _ => 0
  | .agg ts => szL ts
  | .row _ _ n cs => n + szL cs
def szL : List Tr → Nat
  | [] => 0
  | t :: ts => t.sz + szL ts
end
mutual
/-- Ints in range, strings no longer than a string can be. -/
def Tr.ok : Tr → Prop
  | .one (.string s) => s.size ≤ maxLen
  | .one (.int k n) => (Lit.int k n).wf = true
  | .one _ => True
  | .agg ts => okL ts
  | .row _ _ _ cs => okL cs
def okL : List Tr → Prop
  | [] => True
  | t :: ts => t.ok ∧ okL ts
end
/-- A plain cell marked. -/
def mkV (k : Nat) : Value → Value
  | .int .i64 _ => .int .i64 (k : Int)
  | .string _ => .string (mtxt k)
  | .bool _ => .bool (decide ((k : Int) % 3 = 0))
  | v => v
mutual
def Tr.mkd : Nat → Tr → Tr
  | k, .one x => .one (mkV k x)
  | k, .agg ts => .agg (mkdL k ts)
  | k, .row e s n cs => .row e s n (mkdL k cs)
def mkdL : Nat → List Tr → List Tr
  | _, [] => []
  | k, t :: ts => t.mkd k :: mkdL (k + t.cnt) ts
end
/-- A struct by value marked: its rows alone. -/
def cntO : List Tr → Nat
  | [] => 0
  | .one _ :: ts => cntO ts
  | t :: ts => t.cnt + cntO ts
def mkdO : Nat → List Tr → List Tr
  | _, [] => []
  | k, .one x :: ts => .one x :: mkdO k ts
  | k, t :: ts => t.mkd k :: mkdO (k + t.cnt) ts

theorem cntL_app : ∀ a b : List Tr, cntL (a ++ b) = cntL a + cntL b
  | [], b => by simp [cntL]
  | t :: a, b => by simp [cntL, cntL_app a b]; omega
theorem szL_app : ∀ a b : List Tr, szL (a ++ b) = szL a + szL b
  | [], b => by simp [szL]
  | t :: a, b => by simp [szL, szL_app a b]; omega
theorem okL_app : ∀ a b : List Tr, okL (a ++ b) ↔ okL a ∧ okL b
  | [], b => by simp [okL]
  | t :: a, b => by simp [okL, okL_app a b, and_assoc]
theorem okL_at : ∀ {cs : List Tr} {i : Nat} {t : Tr}, okL cs → cs[i]? = some t → t.ok
  | t0 :: cs, 0, t, h, hi => by simp at hi; subst hi; exact h.1
  | t0 :: cs, i + 1, t, h, hi => okL_at h.2 (by simpa using hi)
theorem okL_flat {α : Type} {f : α → List Tr} : ∀ {xs : List α}, okL (xs.flatMap f) → ∀ x ∈ xs, okL (f x)
  | x0 :: xs, h, x, hx => by
    rw [List.flatMap_cons, okL_app] at h
    rcases List.mem_cons.1 hx with rfl | hx
    · exact h.1
    · exact okL_flat h.2 x hx
theorem flat_okL {α : Type} {f : α → List Tr} : ∀ {xs : List α}, (∀ x ∈ xs, okL (f x)) → okL (xs.flatMap f)
  | [], _ => trivial
  | x0 :: xs, h => by
    rw [List.flatMap_cons, okL_app]
    exact ⟨h x0 (by simp), flat_okL fun x hx => h x (by simp [hx])⟩
theorem mkdL_len : ∀ (k : Nat) (a : List Tr), (mkdL k a).length = a.length
  | _, [] => rfl
  | k, t :: a => by simp [mkdL, mkdL_len (k + t.cnt) a]
theorem mkdL_app : ∀ (k : Nat) (a b : List Tr), mkdL k (a ++ b) = mkdL k a ++ mkdL (k + cntL a) b
  | k, [], b => by simp [mkdL, cntL]
  | k, t :: a, b => by simp [mkdL, cntL, mkdL_app (k + t.cnt) a b, Nat.add_assoc]
theorem mkdL_get : ∀ (k : Nat) (cs : List Tr) (i : Nat) (t : Tr), cs[i]? = some t → (mkdL k cs)[i]? = some (t.mkd (k + cntL (cs.take i)))
  | k, t0 :: cs, 0, t, h => by simp at h; subst h; simp [mkdL, cntL]
  | k, t0 :: cs, i + 1, t, h => by
    have := mkdL_get (k + t0.cnt) cs i t (by simpa using h)
    simp [mkdL, cntL, this, Nat.add_assoc]
theorem cntL_take {cs : List Tr} {i : Nat} {t : Tr} (h : cs[i]? = some t) : cntL (cs.take (i + 1)) = cntL (cs.take i) + t.cnt := by
  rw [List.take_add_one, h, cntL_app]; simp [cntL]
theorem cntL_le (cs : List Tr) (i : Nat) : cntL (cs.take i) ≤ cntL cs := by
  conv => rhs; rw [← List.take_append_drop i cs, cntL_app]
  omega
theorem szL_take {cs : List Tr} {i : Nat} {t : Tr} (h : cs[i]? = some t) : szL (cs.take (i + 1)) = szL (cs.take i) + t.sz := by
  rw [List.take_add_one, h, szL_app]; simp [szL]
theorem szL_le (cs : List Tr) (i : Nat) : szL (cs.take i) ≤ szL cs := by
  conv => rhs; rw [← List.take_append_drop i cs, szL_app]
  omega
theorem szL_flat {α : Type} {f : α → List Tr} {xs : List α} {j : Nat} (h : j < xs.length) : szL ((xs.take (j + 1)).flatMap f) = szL ((xs.take j).flatMap f) + szL (f xs[j]) := by
  rw [List.take_succ_eq_append_getElem h, List.flatMap_append, szL_app]; simp
theorem szL_flat_le {α : Type} {f : α → List Tr} (xs : List α) (j : Nat) : szL ((xs.take j).flatMap f) ≤ szL (xs.flatMap f) := by
  conv => rhs; rw [← List.take_append_drop j xs, List.flatMap_append, szL_app]
  omega
theorem szL_flat_at {α : Type} {f : α → List Tr} {xs : List α} {j : Nat} (h : j < xs.length) : szL (f xs[j]) ≤ szL (xs.flatMap f) := by
  have h1 := szL_flat (f := f) h
  have h2 := szL_flat_le (f := f) xs (j + 1)
  omega
theorem cntL_flat {α : Type} {f : α → List Tr} {xs : List α} {j : Nat} (h : j < xs.length) : cntL ((xs.take (j + 1)).flatMap f) = cntL ((xs.take j).flatMap f) + cntL (f xs[j]) := by
  rw [List.take_succ_eq_append_getElem h, List.flatMap_append, cntL_app]; simp
theorem cntL_flat_le {α : Type} {f : α → List Tr} (xs : List α) (j : Nat) : cntL ((xs.take j).flatMap f) ≤ cntL (xs.flatMap f) := by
  conv => rhs; rw [← List.take_append_drop j xs, List.flatMap_append, cntL_app]
  omega
theorem flat_take {α : Type} {f : α → List Tr} {s : Nat} (hs : ∀ x, (f x).length = s) (xs : List α) {j : Nat} (h : j ≤ xs.length) : (xs.flatMap f).take (j * s) = (xs.take j).flatMap f := by
  conv => lhs; rw [← List.take_append_drop j xs, List.flatMap_append]
  have : ((xs.take j).flatMap f).length = j * s := by rw [flatMap_len hs, List.length_take, Nat.min_eq_left h]
  rw [← this, List.take_left]

mutual
/-- Trees whose rows have at most eight cells an element. -/
def Tr.thins : Tr → Prop
  | .one _ => True
  | .agg _ => False
  | .row _ s n cs => s ≤ 8 ∧ cs.length = n * s ∧ thinL cs
def thinL : List Tr → Prop
  | [] => True
  | t :: ts => t.thins ∧ thinL ts
end
theorem thinL_app : ∀ a b : List Tr, thinL (a ++ b) ↔ thinL a ∧ thinL b
  | [], b => by simp [thinL]
  | t :: a, b => by simp [thinL, thinL_app a b, and_assoc]
theorem thin_ones : ∀ xs : List Value, thinL (xs.map .one)
  | [] => trivial
  | _ :: xs => ⟨trivial, thin_ones xs⟩
theorem thin_rows {α : Type} {e : TypeId} {s : Nat} {f : α → List Tr} (hs : ∀ x, (f x).length = s) (h8 : s ≤ 8) (hf : ∀ x, thinL (f x)) (xs : List α) : (rows e s f xs).thins := by
  refine ⟨h8, flatMap_len hs xs, ?_⟩
  induction xs with
  | nil => trivial
  | cons x xs ih => rw [List.flatMap_cons, thinL_app]; exact ⟨hf x, ih⟩
theorem thin_ints (xs : List Int) : (trI xs).thins := ⟨by omega, by simp, thin_ones _⟩
mutual
theorem Tr.cnt_le : ∀ t : Tr, t.thins → t.cnt ≤ 1 + 8 * t.sz
  | .one _, _ => by simp only [Tr.cnt]; omega
  | .agg ts, h => by cases h
  | .row _ s n cs, h => by
    have h1 := cntL_le8 cs h.2.2
    have h2 : n * s ≤ n * 8 := Nat.mul_le_mul_left _ h.1
    have h3 := h.2.1
    simp only [Tr.cnt, Tr.sz]
    omega
theorem cntL_le8 : ∀ ts : List Tr, thinL ts → cntL ts ≤ ts.length + 8 * szL ts
  | [], _ => by simp [cntL]
  | t :: ts, h => by
    have h1 := t.cnt_le h.1
    have h2 := cntL_le8 ts h.2
    simp only [cntL, szL, List.length_cons]
    omega
end
theorem row_cnt_le {e : TypeId} {s n : Nat} {cs : List Tr} (h : (Tr.row e s n cs).thins) : (Tr.row e s n cs).cnt ≤ 8 * (Tr.row e s n cs).sz := by
  have h1 := cntL_le8 cs h.2.2
  have h2 : n * s ≤ n * 8 := Nat.mul_le_mul_left _ h.1
  have h3 := h.2.1
  simp only [Tr.cnt, Tr.sz]
  omega
theorem cntO_le : ∀ ts : List Tr, thinL ts → cntO ts ≤ 8 * szL ts
  | [], _ => by simp [cntO]
  | .one _ :: ts, h => by
    have := cntO_le ts h.2
    simp only [cntO, szL]; omega
  | .agg _ :: ts, h => by cases h.1
  | .row e s n cs :: ts, h => by
    have h1 := row_cnt_le h.1
    have h2 := cntO_le ts h.2
    simp only [cntO, szL]; omega

-- Rows of ints.
theorem marksI_succ (k n : Nat) : marksI k (n + 1) = .int .i64 (k : Int) :: marksI (k + 1) n := by
  simp only [marksI, List.range_succ_eq_map, List.map_cons, List.map_map]
  refine congr (congrArg _ ?_) ?_
  · simp [mkI]
  · apply List.map_congr_left
    intro i _
    simp only [Function.comp, mkI]
    congr 2
    omega
theorem mkdL_ints : ∀ (xs : List Int) (k : Nat), mkdL k ((xs.map (Value.int .i64)).map Tr.one) = (marksI k xs.length).map Tr.one
  | [], _ => rfl
  | x :: xs, k => by
    simp only [List.map_cons, mkdL, Tr.mkd, mkV, Tr.cnt, List.length_cons, marksI_succ]
    rw [mkdL_ints xs]
theorem trI_mkd (xs : List Int) (k : Nat) : (trI xs).mkd k = flat 3 (marksI k xs.length) := by
  simp only [trI, flat, Tr.mkd, List.length_map, mkdL_ints, marksI_len]
theorem cntL_ones : ∀ xs : List Value, cntL (xs.map .one) = xs.length
  | [] => rfl
  | x :: xs => by simp [cntL, Tr.cnt, cntL_ones xs]; omega
theorem szL_ints : ∀ xs : List Int, szL ((xs.map (Value.int .i64)).map .one) = 0
  | [] => rfl
  | x :: xs => by simp [szL, Tr.sz] ; simpa using szL_ints xs
theorem trI_cnt (xs : List Int) : (trI xs).cnt = xs.length := by
  simp only [trI, flat, Tr.cnt, cntL_ones, List.length_map]
theorem trI_sz (xs : List Int) : (trI xs).sz = xs.length := by
  simp only [trI, flat, Tr.sz, szL_ints, List.length_map, Nat.add_zero]
theorem slice_ints {w : World} {xs : List Int} {v : Value} (h : (trI xs).rd w v) : ∃ A c, v = .slice A xs.length c := by
  obtain ⟨A, c, e, _⟩ := rdI_slice (rd_flat h)
  exact ⟨A, c, e⟩
theorem slice_row {w : World} {e : TypeId} {s n : Nat} {cs : List Tr} {v : Value} (h : (Tr.row e s n cs).rd w v) : ∃ A c, v = .slice A n c := by
  obtain ⟨vs, ⟨_, _, A, c, rfl, _⟩, _⟩ := h
  exact ⟨A, c, rfl⟩
theorem slice_mints {w : World} {k : Nat} {xs : List Int} {v : Value} (h : ((trI xs).mkd k).rd w v) : ∃ A c, v = .slice A xs.length c := by
  obtain ⟨A, c, e⟩ := slice_row h
  exact ⟨A, c, by rw [e]; simp⟩

/-- A row's cells, by their trees. -/
theorem rd_cells {w : World} {e : TypeId} {s n : Nat} {cs : List Tr} {v : Value} (h : (Tr.row e s n cs).rd w v) :
    n ≤ 9223372036854775807 ∧ cs.length = n * s ∧ ∃ A c, v = .slice A n c ∧ ∀ i0, i0 < cs.length → ∃ b o, A = some ⟨b, o, none⟩ ∧ b < w.heap.size ∧ ∀ (i : Nat) (t : Tr), cs[i]? = some t → ∃ x, w.cell? ⟨b, o + i, none⟩ = some x ∧ t.rd w x := by
  obtain ⟨vs, ⟨hm, hl, A, c, rfl, g⟩, hv⟩ := h
  have hlen := rdL_len hv
  refine ⟨by unfold maxLen at hm; exact hm, by omega, A, c, rfl, fun i0 hi0 => ?_⟩
  rcases g with g | ⟨b, o, rfl, hb, hc⟩
  · subst g; omega
  · refine ⟨b, o, rfl, hb, fun i t hi => ?_⟩
    obtain ⟨x, hx, hr⟩ := rdL_get hv hi
    obtain ⟨hi', he⟩ := List.getElem?_eq_some_iff.1 hx
    exact ⟨x, by rw [hc i hi', he], hr⟩
theorem own_form {w : World} {B : Nat} {e : TypeId} {s n : Nat} {cs : List Tr} {v : Value} {F : List Nat} (h : (Tr.row e s n cs).own w B v F) :
    (v = .slice none 0 0 ∧ n = 0) ∨ ∃ g cap, v = .slice (some ⟨g, 0, none⟩) n cap ∧ n ≤ cap ∧ n ≤ 9223372036854775807 := by
  obtain ⟨vs, G, ho, _, _⟩ := h
  have hle := own_le ho
  unfold maxLen at hle
  rcases ho.2 with h | ⟨g, cap, cur, rfl, _, _, hc, _⟩
  · exact .inl h
  · exact .inr ⟨g, cap, rfl, hc, hle⟩

theorem cell_set1 {w : World} {g i j : Nat} {y : Value} (h : i ≠ j) : (w.setCell ⟨g, i, none⟩ y).cell? ⟨g, j, none⟩ = w.cell? ⟨g, j, none⟩ := by
  rw [World.cell?_setCell_other]
  intro e; injection e with _ e; omega
/-- One tree of own trees in focus, marked in place. -/
theorem ownL_mark {w : World} {B : Nat} {ts : List Tr} {vs : List Value} {F : List Nat} {i : Nat} {t : Tr} (h : ownL w B ts vs F) (hn : F.Nodup) (hi : ts[i]? = some t) :
    ∃ v G, vs[i]? = some v ∧ t.own w B v G ∧ G.Nodup ∧ (∀ k ∈ G, k ∈ F) ∧ ∀ (w' : World) (t' : Tr) (G' : List Nat), t'.own w' B v G' → G'.Nodup → (∀ k ∈ G', k ∈ G) → Wr G w w' →
      ∃ F', ownL w' B (ts.set i t') vs F' ∧ F'.Nodup ∧ (∀ k ∈ F', k ∈ F) ∧ Wr F w w' := by
  have hall := ownL_lt _ _ _ h
  obtain ⟨v, G, F1, F2, hv, ho, hF, hback⟩ := ownL_focus h hi
  rw [hF] at hn
  obtain ⟨m1, m2, m3⟩ := nodup_mid hn
  have hGF : ∀ k ∈ G, k ∈ F := fun k hk => by rw [hF]; simp [hk]
  refine ⟨v, G, hv, ho, m1, hGF, fun w' t' G' ho' hn' hs hw => ?_⟩
  refine ⟨F1 ++ (G' ++ F2), ?_, m3 G' hn' (fun k hk => m2 k (hs k hk)), fun k hk => ?_, hw.sub hGF⟩
  · have := hback w' t' v G' ho' (fun k hk => hw.block k (hall k (by rw [hF]; rcases hk with hk | hk <;> simp [hk])).2 (fun e => by rcases hk with hk | hk; exact (m2 k e).1 hk; exact (m2 k e).2 hk))
    rwa [show vs.set i v = vs from by
      obtain ⟨hj, he⟩ := List.getElem?_eq_some_iff.1 hv
      exact he ▸ List.set_getElem_self hj] at this
  · rw [hF]
    simp only [List.mem_append] at hk ⊢
    rcases hk with hk | hk | hk
    · exact .inl hk
    · exact .inr (.inl (hs k hk))
    · exact .inr (.inr hk)

/-- The first i cells marked, the rest as before. -/
def mixC (k : Nat) (cs : List Tr) (i : Nat) : List Tr := mkdL k (cs.take i) ++ cs.drop i
theorem mixC_zero (k : Nat) (cs : List Tr) : mixC k cs 0 = cs := by simp [mixC, mkdL]
theorem mixC_full (k : Nat) (cs : List Tr) {i : Nat} (h : cs.length ≤ i) : mixC k cs i = mkdL k cs := by simp [mixC, List.take_of_length_le h, List.drop_of_length_le h]
theorem mixC_len (k : Nat) (cs : List Tr) (i : Nat) : (mixC k cs i).length = cs.length := by simp [mixC, mkdL_len]; omega
theorem mixC_get {k : Nat} {cs : List Tr} {i j : Nat} {t : Tr} (hij : i ≤ j) (h : cs[j]? = some t) : (mixC k cs i)[j]? = some t := by
  have hj := (List.getElem?_eq_some_iff.1 h).1
  have hl : (mkdL k (cs.take i)).length = i := by rw [mkdL_len, List.length_take]; omega
  rw [mixC, List.getElem?_append_right (by omega), hl, List.getElem?_drop, ← h]
  congr 1; omega
theorem mixC_set {k : Nat} {cs : List Tr} {i : Nat} {t : Tr} (h : cs[i]? = some t) : (mixC k cs i).set i (t.mkd (k + cntL (cs.take i))) = mixC k cs (i + 1) := by
  obtain ⟨hi, he⟩ := List.getElem?_eq_some_iff.1 h
  have hl : (mkdL k (cs.take i)).length = i := by rw [mkdL_len, List.length_take]; omega
  unfold mixC
  rw [List.set_append_right _ _ (by omega), hl, Nat.sub_self, List.drop_eq_getElem_cons hi, List.set_cons_zero, List.take_succ_eq_append_getElem hi, mkdL_app, he]
  simp [mkdL]

section
variable {w : World} {B : Nat} {e : TypeId} {s n g cap k i : Nat} {cs : List Tr} {F : List Nat}
theorem rowAt_mark1 {x y : Value} (h : RowAt w B e s n g cap (mixC k cs i) F) (hi : cs[i]? = some (.one x)) (hy : mkV (k + cntL (cs.take i)) x = y) :
    ∃ F', RowAt (w.setCell ⟨g, i, none⟩ y) B e s n g cap (mixC k cs (i + 1)) F' ∧ (∀ j ∈ F', j ∈ F) ∧ Wr F w (w.setCell ⟨g, i, none⟩ y) := by
  have hil := (List.getElem?_eq_some_iff.1 hi).1
  obtain ⟨F', h1, h2⟩ := h.put1 (i := i) (by rw [mixC_len]; exact hil) y
  have h3 := mixC_set (k := k) hi
  rw [Tr.mkd, hy] at h3
  rw [h3] at h1
  exact ⟨F', h1, h2, Wr.setCell w _ h.mem y⟩
theorem rowAt_peek {t : Tr} {i0 : Nat} (h : RowAt w B e s n g cap (mixC k cs i0) F) (hij : i0 ≤ i) (hi : cs[i]? = some t) : ∃ x, w.cell? ⟨g, i, none⟩ = some x ∧ t.rd w x := by
  obtain ⟨x, H, hx, _, ho, _⟩ := h.cell (mixC_get (k := k) hij hi)
  exact ⟨x, hx, t.own_rd _ _ ho⟩
theorem rowAt_markR {t : Tr} (h : RowAt w B e s n g cap (mixC k cs i) F) (hi : cs[i]? = some t) :
    ∃ x H, w.cell? ⟨g, i, none⟩ = some x ∧ t.own w B x H ∧ H.Nodup ∧ (∀ j ∈ H, j ∈ F ∧ j ≠ g) ∧ ∀ (w' : World) (H' : List Nat), (t.mkd (k + cntL (cs.take i))).own w' B x H' → H'.Nodup → (∀ j ∈ H', j ∈ H) → Wr H w w' →
      ∃ F', RowAt w' B e s n g cap (mixC k cs (i + 1)) F' ∧ (∀ j ∈ F', j ∈ F) ∧ Wr F w w' := by
  have hg := mixC_get (k := k) (Nat.le_refl i) hi
  have hlt := h.lt
  obtain ⟨⟨vs, G, h1, h2, hF⟩, hn⟩ := h
  have hgF : g ∈ F := by rw [hF]; simp [Value.ownBlock]
  simp only [Value.ownBlock, Option.toList] at hF
  rw [hF] at hn
  obtain ⟨n1, n2, n3⟩ := List.nodup_append.1 hn
  obtain ⟨x, H, hx, ho, hnH, hs, back⟩ := ownL_mark h2 n2 hg
  have hil : i < vs.length := (List.getElem?_eq_some_iff.1 hx).1
  have hne : ∀ j ∈ H, j ≠ g := fun j hj e => n3 g (by simp) j (hs j hj) e.symm
  refine ⟨x, H, by rw [h1.cellAt i (by rw [← h1.1]; exact hil), hx], ho, hnH, fun j hj => ⟨by rw [hF]; simp [hs j hj], hne j hj⟩, fun w' H' ho' hn' hs' hw => ?_⟩
  obtain ⟨G', hL, hnG, hsG, hwG⟩ := back w' _ H' ho' hn' hs' hw
  rw [mixC_set hi] at hL
  have hwF : Wr F w w' := hw.sub (fun j hj => by rw [hF]; simp [hs j hj])
  refine ⟨[g] ++ G', ⟨⟨vs, G', own_keep1 h1 (fun j hj => ?_), hL, by simp [Value.ownBlock]⟩, ?_⟩, fun j hj => ?_, hwF⟩
  · simp only [Value.ownBlock, Option.some.injEq] at hj
    subst hj
    exact hw.block g hlt.2 (fun e => hne g e rfl)
  · exact List.nodup_append.2 ⟨by simp, hnG, fun a ha b hb e => n3 a ha b (hsG b hb) e⟩
  · rw [hF]
    rcases List.mem_append.1 hj with hj | hj
    · exact List.mem_append.2 (.inl hj)
    · exact List.mem_append.2 (.inr (hsG j hj))
end

-- A struct packed of the state's trees.
section
variable {w0 w : World} {L : List Item}
theorem Items.pick {B : Nat} : ∀ {L : List Item} (i : Nat) {a : Item}, Items w B L → L[i]? = some a → Items w B (a :: L.eraseIdx i)
  | r :: rs, 0, a, h, ha => by simp at ha; subst ha; exact h
  | r :: rs, i + 1, a, h, ha => by
    have ha' : rs[i]? = some a := by simpa using ha
    obtain ⟨o1, n1, p1, rest⟩ := h
    have hp := Items.pick i rest ha'
    refine ⟨hp.1, hp.2.1, fun s hs k hk => ?_, ?_⟩
    · simp only [List.eraseIdx_cons_succ, List.mem_cons] at hs
      rcases hs with rfl | hs
      · exact fun e => p1 a (List.mem_of_getElem? ha') k e hk
      · exact hp.2.2.1 s hs k hk
    · exact ⟨o1, n1, fun s hs k hk => p1 s (List.mem_of_mem_eraseIdx hs) k hk, hp.2.2.2⟩
theorem Sn.pick (i : Nat) {a : Item} (h : Sn w0 w L) (ha : L[i]? = some a) : Sn w0 w (a :: L.eraseIdx i) := ⟨h.1, h.2.pick i ha⟩
theorem Sn.nil0 (h : Sn w0 w L) : Sn w0 w (⟨.agg [], .agg ⟨[]⟩, []⟩ :: L) := ⟨h.1, ⟨_, rfl, rfl, rfl⟩, by simp, fun _ _ _ hk => by simp at hk, h.2⟩
theorem Sn.pack {t : Tr} {ts : List Tr} {v : Value} {vs : List Value} {F G : List Nat} (h : Sn w0 w (⟨t, v, F⟩ :: ⟨.agg ts, .agg ⟨vs⟩, G⟩ :: L)) : Sn w0 w (⟨.agg (t :: ts), .agg ⟨v :: vs⟩, F ++ G⟩ :: L) := by
  obtain ⟨hb, oa, na, pa, ⟨vs', hvs, od⟩, nd, pd, rest⟩ := h
  have e : vs = vs' := by injection hvs with hvs; injection hvs
  subst e
  refine ⟨hb, ⟨_, rfl, v, vs, F, G, rfl, oa, od, rfl⟩, ?_, fun s hs k hk => ?_, rest⟩
  · exact List.nodup_append.2 ⟨na, nd, fun p hp q hq e => pa ⟨.agg ts, .agg ⟨vs⟩, G⟩ (List.mem_cons_self ..) p hp (e ▸ hq)⟩
  · rcases List.mem_append.1 hk with hk | hk
    · exact pa s (by simp [hs]) k hk
    · exact pd s hs k hk
theorem Sn.pack1 {ts : List Tr} {vs : List Value} {G : List Nat} (x : Value) (h : Sn w0 w (⟨.agg ts, .agg ⟨vs⟩, G⟩ :: L)) : Sn w0 w (⟨.agg (.one x :: ts), .agg ⟨x :: vs⟩, G⟩ :: L) := by
  obtain ⟨hb, ⟨vs', hvs, od⟩, nd, pd, rest⟩ := h
  have e : vs = vs' := by injection hvs with hvs; injection hvs
  subst e
  exact ⟨hb, ⟨_, rfl, x, vs, [], G, rfl, ⟨rfl, rfl⟩, od, rfl⟩, nd, pd, rest⟩
theorem Sn.drop (h : Sn w0 w L) (i : Nat) : Sn w0 w (L.eraseIdx i) := by
  refine ⟨h.1, ?_⟩
  obtain ⟨_, h⟩ := h
  induction L generalizing i with
  | nil => exact h
  | cons r rs ih =>
    cases i with
    | zero => exact h.2.2.2
    | succ i => exact ⟨h.1, h.2.1, fun s hs k hk => h.2.2.1 s (List.mem_of_mem_eraseIdx hs) k hk, ih i h.2.2.2⟩
end
section
variable {w w' : World} {g : Nat} {t : TypeId} {a b c d e f : Value}
theorem Bk.c4 (h : Bk w g t #[a, b, c, d]) : w.cell? ⟨g, 0, none⟩ = some a ∧ w.cell? ⟨g, 1, none⟩ = some b ∧ w.cell? ⟨g, 2, none⟩ = some c ∧ w.cell? ⟨g, 3, none⟩ = some d ∧ ∀ i, w.frozen? ⟨g, i, none⟩ = false := ⟨h.cell 0, h.cell 1, h.cell 2, h.cell 3, h.frozen⟩
theorem Bk.c5 (h : Bk w g t #[a, b, c, d, e]) : w.cell? ⟨g, 0, none⟩ = some a ∧ w.cell? ⟨g, 1, none⟩ = some b ∧ w.cell? ⟨g, 2, none⟩ = some c ∧ w.cell? ⟨g, 3, none⟩ = some d ∧ w.cell? ⟨g, 4, none⟩ = some e ∧ ∀ i, w.frozen? ⟨g, i, none⟩ = false := ⟨h.cell 0, h.cell 1, h.cell 2, h.cell 3, h.cell 4, h.frozen⟩
theorem Bk.c6 (h : Bk w g t #[a, b, c, d, e, f]) : w.cell? ⟨g, 0, none⟩ = some a ∧ w.cell? ⟨g, 1, none⟩ = some b ∧ w.cell? ⟨g, 2, none⟩ = some c ∧ w.cell? ⟨g, 3, none⟩ = some d ∧ w.cell? ⟨g, 4, none⟩ = some e ∧ w.cell? ⟨g, 5, none⟩ = some f ∧ ∀ i, w.frozen? ⟨g, i, none⟩ = false := ⟨h.cell 0, h.cell 1, h.cell 2, h.cell 3, h.cell 4, h.cell 5, h.frozen⟩
end
end Go.Proofs.Ytfgmbgdbnjpclaa
