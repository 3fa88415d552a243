/- DERIVED. MATHEMATICS of the links (chapter 8): gaps, sides, reach, orders, roots. -/
import Derived.Test.YtoggakfkpeloiaaGreatPrE
import Derived.Test.YtoggakfkpeloiaaGreatActC
import Derived.Test.YtoggakfkpeloiaaGreatSets
namespace Go.Proofs.YtoggakfkpeloiaaGreat
open Go.RowKit
set_option linter.unusedVariables false

def msAt (p : Pj) (i : Int) : List Md := match atI p.acts i with | some a => a.ms | none => []
noncomputable def gapB (p : Pj) (l : Lk) (S : List Int) : Int := if l.fe = true then wrap64 (l.lag + selB ltB durV (msAt p l.fr) S) else l.lag
noncomputable def gapA (p : Pj) (l : Lk) : Int := gapB p l (rangeB ((msAt p l.fr).length : Int))
noncomputable def linkGapB (p : Pj) (k : Int) (S : List Int) : Int := if pokB p = true then (match atI p.lks k with | some l => gapB p l S | none => 0) else 0
theorem linkGap_bad {p : Pj} {k : Int} {S : List Int} (h : pokB p = false) : linkGapB p k S = 0 := by rw [linkGapB, if_neg (by rw [h]; simp)]
theorem linkGap_no {p : Pj} {k : Int} {S : List Int} (h : ¬ (0 ≤ k ∧ k < (p.lks.length : Int))) : linkGapB p k S = 0 := by
  rw [linkGapB]; split
  · rw [atI_no h]
  · rfl
theorem linkGap_yes {p : Pj} {k : Nat} {S : List Int} (hok : pokB p = true) (h : k < p.lks.length) : linkGapB p (k : Int) S = gapB p p.lks[k] S := by rw [linkGapB, if_pos hok, atI_yes h]
theorem msAt_yes {p : Pj} {n : Nat} (h : n < p.acts.length) : msAt p (n : Int) = p.acts[n].ms := by rw [msAt, atI_yes h]
theorem gap_end {p : Pj} {l : Lk} {S : List Int} {n : Nat} (h : n < p.acts.length) (hf : l.fr = (n : Int)) (he : l.fe = true) : gapB p l S = wrap64 (l.lag + selB ltB durV p.acts[n].ms S) := by rw [gapB, if_pos he, hf, msAt_yes h]
theorem gap_lag {p : Pj} {l : Lk} {S : List Int} (he : l.fe = false) : gapB p l S = l.lag := by rw [gapB, he]; simp

/-- What a valid project says of its links. -/
theorem pok_lks {p : Pj} (h : pokB p = true) : p.lks.length ≤ 12 ∧ ∀ l ∈ p.lks, (0 ≤ l.fr ∧ l.fr < (p.acts.length : Int)) ∧ (0 ≤ l.to ∧ l.to < (p.acts.length : Int)) ∧ l.fr ≠ l.to ∧ -60 ≤ l.lag ∧ l.lag ≤ 60 := by
  rw [pokB] at h
  simp only [Bool.and_eq_true, decide_eq_true_eq, List.all_eq_true] at h
  obtain ⟨_, _, _, _, h5, _, _, _, _, h9⟩ := h
  refine ⟨by omega, fun l hl => ?_⟩
  have hb := h9 l hl
  rw [lokB] at hb
  simp only [inB, Bool.and_eq_true, Bool.not_eq_true', decide_eq_false_iff_not, decide_eq_true_eq] at hb
  obtain ⟨⟨a1, a2⟩, ⟨b1, b2⟩, c, d1, d2⟩ := hb
  exact ⟨⟨a1, by omega⟩, ⟨b1, by omega⟩, c, d1, d2⟩

/-- Of the links whose one end is 'a', the other ends. -/
def pickL (f g : Lk → Int) (ls : List Lk) (a : Int) : List Int := ls.filterMap fun l => if f l = a then some (g l) else none
theorem pickL_take {f g : Lk → Int} {ls : List Lk} {a : Int} {k : Nat} (h : k < ls.length) : pickL f g (ls.take (k + 1)) a = pickL f g (ls.take k) a ++ (if f ls[k] = a then [g ls[k]] else []) := by
  rw [pickL, List.take_succ_eq_append_getElem h, List.filterMap_append]
  congr 1
  by_cases hf : f ls[k] = a <;> simp [hf]
theorem pickL_len (f g : Lk → Int) (ls : List Lk) (a : Int) : (pickL f g ls a).length ≤ ls.length := List.length_filterMap_le _ _
theorem mem_pickL {f g : Lk → Int} {ls : List Lk} {a x : Int} : x ∈ pickL f g ls a ↔ ∃ l ∈ ls, f l = a ∧ g l = x := by
  rw [pickL, List.mem_filterMap]
  refine ⟨fun ⟨l, hl, h⟩ => ⟨l, hl, ?_⟩, fun ⟨l, hl, h, e⟩ => ⟨l, hl, by rw [if_pos h, e]⟩⟩
  split at h
  · next hf => exact ⟨hf, by injection h⟩
  · cases h
theorem setB_setB (l : List Int) : setB (setB l) = setB l := asc_eq (asc_setB _) (asc_setB _) fun x => by rw [mem_setB]
theorem put_pick (f g : Lk → Int) {ls : List Lk} {a : Int} {k : Nat} (h : k < ls.length) (hf : f ls[k] = a) : putB (setB (setB (pickL f g (ls.take k) a))) (g ls[k]) = setB (pickL f g (ls.take (k + 1)) a) := by
  rw [pickL_take h, if_pos hf, setB_setB, setB_snoc]
theorem pick_skip (f g : Lk → Int) {ls : List Lk} {a : Int} {k : Nat} (h : k < ls.length) (hf : f ls[k] ≠ a) : pickL f g (ls.take (k + 1)) a = pickL f g (ls.take k) a := by
  rw [pickL_take h, if_neg hf, List.append_nil]
abbrev nextL (ls : List Lk) (a : Int) : List Int := pickL Lk.fr Lk.to ls a
abbrev prevL (ls : List Lk) (a : Int) : List Int := pickL Lk.to Lk.fr ls a
theorem nextL_yes {ls : List Lk} {a : Int} {k : Nat} (h : k < ls.length) (hf : ls[k].fr = a) : nextL (ls.take (k + 1)) a = nextL (ls.take k) a ++ [ls[k].to] := (pickL_take h).trans (by rw [if_pos hf])
theorem prevL_yes {ls : List Lk} {a : Int} {k : Nat} (h : k < ls.length) (hf : ls[k].to = a) : prevL (ls.take (k + 1)) a = prevL (ls.take k) a ++ [ls[k].fr] := (pickL_take h).trans (by rw [if_pos hf])
theorem nextL_no {ls : List Lk} {a : Int} {k : Nat} (h : k < ls.length) (hf : ls[k].fr ≠ a) : nextL (ls.take (k + 1)) a = nextL (ls.take k) a := pick_skip _ _ h hf
theorem prevL_no {ls : List Lk} {a : Int} {k : Nat} (h : k < ls.length) (hf : ls[k].to ≠ a) : prevL (ls.take (k + 1)) a = prevL (ls.take k) a := pick_skip _ _ h hf
theorem put_nextL {ls : List Lk} {a : Int} {k : Nat} (h : k < ls.length) (hf : ls[k].fr = a) : putB (setB (setB (nextL (ls.take k) a))) ls[k].to = setB (nextL (ls.take (k + 1)) a) := put_pick _ _ h hf
theorem put_prevL {ls : List Lk} {a : Int} {k : Nat} (h : k < ls.length) (hf : ls[k].to = a) : putB (setB (setB (prevL (ls.take k) a))) ls[k].fr = setB (prevL (ls.take (k + 1)) a) := put_pick _ _ h hf
def sideL (back : Bool) (ls : List Lk) (a : Int) : List Int := if back then prevL ls a else nextL ls a
theorem sideL_len (back : Bool) (ls : List Lk) (a : Int) : (sideL back ls a).length ≤ ls.length := by unfold sideL; split <;> exact pickL_len _ _ _ _
theorem pick_out {f g : Lk → Int} {ls : List Lk} {a : Int} (h : ∀ l ∈ ls, f l ≠ a) : pickL f g ls a = [] := by
  rw [pickL, List.filterMap_eq_nil_iff]
  intro l hl
  rw [if_neg (h l hl)]
noncomputable def succB (p : Pj) (a : Int) : List Int := if pokB p = true then setB (nextL p.lks a) else []
noncomputable def predB (p : Pj) (a : Int) : List Int := if pokB p = true then setB (prevL p.lks a) else []
theorem succ_out {p : Pj} {a : Int} (h : ¬ (0 ≤ a ∧ a < (p.acts.length : Int))) : succB p a = [] := by
  unfold succB
  split
  · next hok => rw [nextL, pick_out (f := Lk.fr) (fun l hl (e : l.fr = a) => h (by have := ((pok_lks hok).2 l hl).1; omega)), setB_nil]
  · rfl
theorem pred_out {p : Pj} {a : Int} (h : ¬ (0 ≤ a ∧ a < (p.acts.length : Int))) : predB p a = [] := by
  unfold predB
  split
  · next hok => rw [prevL, pick_out (f := Lk.to) (fun l hl (e : l.to = a) => h (by have := ((pok_lks hok).2 l hl).2.1; omega)), setB_nil]
  · rfl
theorem setPick_len {f g : Lk → Int} {ls : List Lk} {a : Int} : (setB (pickL f g ls a)).length ≤ ls.length := Nat.le_trans (len_setB _) (pickL_len _ _ _ _)
theorem succB_len (p : Pj) (a : Int) : (succB p a).length ≤ 12 := by
  unfold succB; split
  · next h => exact Nat.le_trans setPick_len (pok_lks h).1
  · simp
theorem predB_len (p : Pj) (a : Int) : (predB p a).length ≤ 12 := by
  unfold predB; split
  · next h => exact Nat.le_trans setPick_len (pok_lks h).1
  · simp
theorem set_nil_iff {l : List Int} : setB l = [] ↔ l = [] := by
  refine ⟨fun h => ?_, fun h => by rw [h]; rfl⟩
  cases l with
  | nil => rfl
  | cons x l => exact absurd ((mem_setB (x :: l) x).2 (by simp)) (by rw [h]; simp)

/-- The activities without predecessors, among the first k. -/
def rootsK (ls : List Lk) (k : Nat) : List Int := (List.range k).filterMap fun (i : Nat) => if prevL ls (i : Int) = [] then some (i : Int) else none
theorem rootsK_succ (ls : List Lk) (k : Nat) : rootsK ls (k + 1) = rootsK ls k ++ if prevL ls (k : Int) = [] then [(k : Int)] else [] := by
  rw [rootsK, List.range_succ, List.filterMap_append]
  congr 1
  by_cases h : prevL ls (k : Int) = [] <;> simp [h]
theorem rootsK_len (ls : List Lk) (k : Nat) : (rootsK ls k).length ≤ k := by
  rw [rootsK]
  exact Nat.le_trans (List.length_filterMap_le _ _) (by simp)
noncomputable def rootsB (p : Pj) : List Int := if pokB p = true then rootsK p.lks p.acts.length else []
theorem rootsB_len (p : Pj) : (rootsB p).length ≤ 6 := by
  unfold rootsB; split
  · next h => exact Nat.le_trans (rootsK_len _ _) (pok_acts h).1
  · simp

/-- What can be reached from 'a' by the links. -/
inductive Rch (ls : List Lk) (a : Int) : Int → Prop where
  | one {b : Int} : b ∈ nextL ls a → Rch ls a b
  | more {b c : Int} : Rch ls a b → c ∈ nextL ls b → Rch ls a c
open Classical in
noncomputable def reachB (p : Pj) (a b : Int) : Bool := pokB p && decide (Rch p.lks a b)
theorem reach_bad {p : Pj} {a b : Int} (h : pokB p = false) : reachB p a b = false := by rw [reachB, h]; rfl
open Classical in
theorem reach_list {p : Pj} {a b : Int} {R : List Int} (hok : pokB p = true) (h1 : ∀ y ∈ nextL p.lks a, y ∈ R) (h2 : ∀ x ∈ R, ∀ y ∈ nextL p.lks x, y ∈ R) (h3 : ∀ x ∈ R, Rch p.lks a x) : hasB R b = reachB p a b := by
  have h : b ∈ R ↔ Rch p.lks a b := ⟨h3 b, fun h => by induction h with
    | one h => exact h1 _ h
    | more _ h ih => exact h2 _ ih _ h⟩
  rw [reachB, hok, Bool.true_and, hasB]
  by_cases hr : Rch p.lks a b
  · rw [decide_eq_true hr, List.contains_iff_mem]; exact h.2 hr
  · rw [decide_eq_false hr]
    by_cases hb : R.contains b = true
    · exact absurd (h.1 (List.contains_iff_mem.1 hb)) hr
    · simpa using hb
theorem rch_range {p : Pj} {a b : Int} (hok : pokB p = true) (h : Rch p.lks a b) : 0 ≤ b ∧ b < (p.acts.length : Int) := by
  have hp : ∀ {x y : Int}, y ∈ nextL p.lks x → 0 ≤ y ∧ y < (p.acts.length : Int) := fun h => by
    obtain ⟨l, hl, _, rfl⟩ := mem_pickL.1 h
    exact ((pok_lks hok).2 l hl).2.1
  cases h with
  | one h => exact hp h
  | more _ h => exact hp h
/-- Different numbers below n: at most n. -/
theorem nodup_lt : ∀ (n : Nat) (l : List Int), l.Nodup → (∀ x ∈ l, 0 ≤ x ∧ x < (n : Int)) → l.length ≤ n
  | 0, l, _, h => by
    cases l with
    | nil => simp
    | cons x l => have := h x (by simp); omega
  | n + 1, l, hn, h => by
    have h1 : (l.filter fun x => decide (x ≠ (n : Int))).length ≤ n := nodup_lt n _ (hn.filter _) fun x hx => by
      rw [List.mem_filter] at hx
      have := h x hx.1
      have h2 : x ≠ (n : Int) := by simpa using hx.2
      omega
    have h3 : l.length ≤ (l.filter fun x => decide (x ≠ (n : Int))).length + 1 := by
      clear h h1
      induction l with
      | nil => simp
      | cons x l ih =>
        rw [List.nodup_cons] at hn
        by_cases hx : x = (n : Int)
        · have : (l.filter fun x => decide (x ≠ (n : Int))) = l := List.filter_eq_self.2 fun y hy => by
            simp; intro e; rw [e, ← hx] at hy; exact hn.1 hy
          rw [List.filter_cons_of_neg (by simpa using hx), this, List.length_cons]
          exact Nat.le_refl _
        · rw [List.filter_cons_of_pos (by simpa using hx), List.length_cons, List.length_cons]
          have := ih hn.2
          omega
    omega
theorem asc_nodup {l : List Int} (h : l.Pairwise (· < ·)) : l.Nodup := h.imp fun h => by omega

/-- A closed list: no link leads out of it. -/
def Clo (ls : List Lk) (Y : List Int) : Prop := ∀ x ∈ Y, ∀ y ∈ nextL ls x, y ∈ Y
/-- What the model holds behind m rounds. -/
structure Seen (ls : List Lk) (a : Int) (m : Nat) (Y : List Int) : Prop where
  asc : Y.Pairwise (· < ·)
  first : ∀ y ∈ nextL ls a, y ∈ Y
  only : ∀ x ∈ Y, Rch ls a x
  grow : Clo ls Y ∨ m + 1 ≤ Y.length
theorem seen_start (ls : List Lk) (a : Int) : Seen ls a 0 (setB (nextL ls a)) := by
  refine ⟨asc_setB _, fun y h => (mem_setB _ _).2 h, fun x h => .one ((mem_setB _ _).1 h), ?_⟩
  cases h : setB (nextL ls a) with
  | nil => exact .inl fun x hx => by cases hx
  | cons x l => exact .inr (by simp)
theorem seen_end {p : Pj} {a b : Int} {Y : List Int} (hok : pokB p = true) (h : Seen p.lks a p.acts.length Y) : hasB Y b = reachB p a b := by
  refine reach_list hok h.first ?_ h.only
  rcases h.grow with hc | hl
  · exact hc
  · have := nodup_lt p.acts.length Y (asc_nodup h.asc) fun x hx => rch_range hok (h.only x hx)
    omega
/-- The lists in the middle of a round: what stood, and the ends of the first j. -/
structure Mid (ls : List Lk) (Y : List Int) (j : Nat) (Z : List Int) : Prop where
  asc : Z.Pairwise (· < ·)
  mem : ∀ z, z ∈ Z ↔ z ∈ Y ∨ ∃ x ∈ Y.take j, z ∈ nextL ls x
theorem mid_start (ls : List Lk) {Y : List Int} (h : Y.Pairwise (· < ·)) : Mid ls Y 0 Y := ⟨h, fun z => by simp⟩
theorem mid_succ {ls : List Lk} {Y Z : List Int} {j : Nat} (hj : j < Y.length) (h : Mid ls Y j Z) : Mid ls Y (j + 1) (setB (Z ++ setB (nextL ls Y[j]))) := by
  refine ⟨asc_setB _, fun z => ?_⟩
  rw [mem_setB, List.mem_append, mem_setB, h.mem, List.take_succ_eq_append_getElem hj]
  constructor
  · rintro ((h | ⟨x, hx, h⟩) | h)
    · exact .inl h
    · exact .inr ⟨x, List.mem_append_left _ hx, h⟩
    · exact .inr ⟨Y[j], List.mem_append_right _ (by simp), h⟩
  · rintro (h | ⟨x, hx, h⟩)
    · exact .inl (.inl h)
    · rw [List.mem_append] at hx
      rcases hx with hx | hx
      · exact .inl (.inr ⟨x, hx, h⟩)
      · rw [List.mem_singleton] at hx
        exact .inr (hx ▸ h)
theorem mid_range {p : Pj} {a : Int} {Y Z : List Int} {j m : Nat} (hok : pokB p = true) (hs : Seen p.lks a m Y) (h : Mid p.lks Y j Z) : Z.length ≤ p.acts.length := by
  refine nodup_lt _ _ (asc_nodup h.asc) fun x hx => ?_
  rcases (h.mem x).1 hx with h1 | ⟨y, hy, h1⟩
  · exact rch_range hok (hs.only x h1)
  · obtain ⟨l, hl, _, rfl⟩ := mem_pickL.1 h1
    exact ((pok_lks hok).2 l hl).2.1
theorem seen_succ {ls : List Lk} {a : Int} {m : Nat} {Y Z : List Int} (hs : Seen ls a m Y) (h : Mid ls Y Y.length Z) : Seen ls a (m + 1) Z := by
  have hm : ∀ z, z ∈ Z ↔ z ∈ Y ∨ ∃ x ∈ Y, z ∈ nextL ls x := fun z => by rw [h.mem, List.take_length]
  refine ⟨h.asc, fun y hy => (hm y).2 (.inl (hs.first y hy)), fun x hx => ?_, ?_⟩
  · rcases (hm x).1 hx with hx | ⟨y, hy, hx⟩
    · exact hs.only x hx
    · exact .more (hs.only y hy) hx
  · by_cases hc : Clo ls Y
    · have : Z = Y := asc_eq h.asc hs.asc fun z => by
        rw [hm]
        exact ⟨fun hz => by rcases hz with hz | ⟨x, hx, hz⟩; exact hz; exact hc x hx z hz, .inl⟩
      rw [this]; exact .inl hc
    · right
      have hl : m + 1 ≤ Y.length := hs.grow.resolve_left hc
      have : ∃ z ∈ Z, z ∉ Y := by
        apply Classical.byContradiction
        intro hno
        refine hc fun x hx y hy => Classical.byContradiction fun hny => hno ⟨y, (hm y).2 (.inr ⟨x, hx, hy⟩), hny⟩
      obtain ⟨z, hz, hzY⟩ := this
      have hsub : ∀ x ∈ z :: Y, x ∈ Z := fun x hx => by
        rcases List.mem_cons.1 hx with rfl | hx
        · exact hz
        · exact (hm x).2 (.inl hx)
      have hnd : (z :: Y).Nodup := List.nodup_cons.2 ⟨hzY, asc_nodup hs.asc⟩
      have := hnd.length_le_of_subset hsub
      simp at this
      omega

/-- Whether all that must start before 'a' is in 'done', by the first k links. -/
noncomputable def readyK (p : Pj) (a : Int) (done : List Int) (k : Nat) : Bool := (p.lks.take k).all fun l => !(decide (l.to = a) && (decide (0 < gapA p l) && !(hasB done l.fr)))
noncomputable def readyB (p : Pj) (a : Int) (done : List Int) : Bool := readyK p a done p.lks.length
theorem readyK_succ {p : Pj} {a : Int} {done : List Int} {k : Nat} (h : k < p.lks.length) : readyK p a done (k + 1) = (readyK p a done k && !(decide (p.lks[k].to = a) && (decide (0 < gapA p p.lks[k]) && !(hasB done p.lks[k].fr)))) := by
  rw [readyK, List.take_succ_eq_append_getElem h, List.all_append]; simp [readyK]
theorem ready_no {p : Pj} {a : Int} {done : List Int} {k : Nat} (h : k < p.lks.length) (h1 : p.lks[k].to = a) (h2 : 0 < gapA p p.lks[k]) (h3 : hasB done p.lks[k].fr = false) : readyB p a done = false := by
  rw [readyB, readyK, List.take_length]
  refine Bool.eq_false_iff.2 fun hall => ?_
  have := List.all_eq_true.1 hall p.lks[k] (List.getElem_mem h)
  rw [decide_eq_true h1, decide_eq_true h2, h3] at this
  cases this
/-- The smallest ready activity among those from i on. -/
noncomputable def okA (p : Pj) (done : List Int) (i : Nat) : Bool := !(hasB done (i : Int)) && readyB p (i : Int) done
noncomputable def firstB (p : Pj) (done : List Int) : Option Nat := (List.range p.acts.length).find? (okA p done)
theorem first_yes {p : Pj} {done : List Int} {k : Nat} (hk : k < p.acts.length) (h : okA p done k = true) (hb : ∀ i, i < k → okA p done i = false) : firstB p done = some k := by
  rw [firstB, List.find?_range_eq_some]
  exact ⟨h, List.mem_range.2 hk, fun j hj => by rw [hb j hj]; rfl⟩
theorem first_no {p : Pj} {done : List Int} (hb : ∀ i, i < p.acts.length → okA p done i = false) : firstB p done = none := by
  rw [firstB, List.find?_eq_none]
  intro x hx
  rw [hb x (List.mem_range.1 hx)]; simp
noncomputable def ordK (p : Pj) : Nat → List Int
  | 0 => []
  | k + 1 => match firstB p (ordK p k) with | some a => ordK p k ++ [(a : Int)] | none => ordK p k
theorem ordK_some {p : Pj} {k a : Nat} (h : firstB p (ordK p k) = some a) : ordK p (k + 1) = ordK p k ++ [(a : Int)] := by rw [ordK, h]
theorem ordK_none {p : Pj} {k : Nat} (h : firstB p (ordK p k) = none) : ordK p (k + 1) = ordK p k := by rw [ordK, h]
theorem ordK_len (p : Pj) : ∀ k, (ordK p k).length ≤ k
  | 0 => Nat.le_refl _
  | k + 1 => by
    have := ordK_len p k
    rw [ordK]; split
    · simp; omega
    · omega
theorem ordK_stuck {p : Pj} {k : Nat} (h : firstB p (ordK p k) = none) : ∀ m, ordK p (k + m) = ordK p k
  | 0 => rfl
  | m + 1 => by rw [← Nat.add_assoc, ordK, ordK_stuck h m, h]
noncomputable def topoB (p : Pj) : Bool := pokB p && decide ((ordK p p.acts.length).length = p.acts.length)
noncomputable def topoL (p : Pj) : List Int := if topoB p = true then ordK p p.acts.length else []
theorem topo_stuck {p : Pj} {k : Nat} (hk : k < p.acts.length) (h : firstB p (ordK p k) = none) : topoB p = false := by
  have h1 := ordK_stuck h (p.acts.length - k)
  rw [show k + (p.acts.length - k) = p.acts.length by omega] at h1
  have h2 := ordK_len p k
  rw [topoB, h1, decide_eq_false (by omega), Bool.and_false]
theorem topo_bad {p : Pj} (h : pokB p = false) : topoB p = false := by rw [topoB, h]; rfl
theorem topoL_no {p : Pj} (h : topoB p = false) : topoL p = [] := by rw [topoL, h]; simp
theorem topoL_len (p : Pj) : (topoL p).length ≤ 6 := by
  unfold topoL; split
  · next h =>
    rw [topoB, Bool.and_eq_true] at h
    exact Nat.le_trans (ordK_len _ _) (pok_acts h.1).1
  · simp
end Go.Proofs.YtoggakfkpeloiaaGreat
