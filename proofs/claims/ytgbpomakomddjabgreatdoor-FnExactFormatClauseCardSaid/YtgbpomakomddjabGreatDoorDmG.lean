/- DERIVED. CONTRACT: slices.Clone at ints, of whatever slice. -/
import Derived.Test.YtgbpomakomddjabGreatDoorScLt
import Derived.Test.YtgbpomakomddjabGreatDoorSets
import Derived.Test.YtgbpomakomddjabGreatDoorMaths
import Derived.Test.YtgbpomakomddjabGreatDoorTFl
import Derived.Test.YtgbpomakomddjabGreatDoorDats
import Derived.Test.YtgbpomakomddjabGreatDoorSum
import Derived.Lib.MinMax
import Derived.Test.YtgbpomakomddjabGreatDoorPrB
import Derived.Test.YtgbpomakomddjabGreatDoorStpA
import Derived.Test.YtgbpomakomddjabGreatDoorSetsS
import Derived.Laws.Cover1
import Derived.Test.YtgbpomakomddjabGreatDoorRowV
import Derived.Test.YtgbpomakomddjabGreatDoorRegZ
import Derived.Maps.AppendAt
import Derived.Test.YtgbpomakomddjabGreatDoorShelf
import Derived.Test.YtgbpomakomddjabGreatDoorCore

section
namespace Go.Proofs.YtgbpomakomddjabGreatDoor
open Go.RowKit
set_option linter.unusedVariables false

def mnD (d : Dm) (a : Nat) : Int := d.mn.getD a 0
def mxD (d : Dm) (a : Nat) : Int := d.mx.getD a 0
def mdD (d : Dm) (a : Nat) : List Int := d.md.getD a []
theorem mnD_at {d : Dm} {a : Nat} (h : a < d.mn.length) : mnD d a = d.mn[a] := by simp [mnD, List.getD, List.getElem?_eq_getElem h]
theorem mxD_at {d : Dm} {a : Nat} (h : a < d.mx.length) : mxD d a = d.mx[a] := by simp [mxD, List.getD, List.getElem?_eq_getElem h]
theorem mdD_at {d : Dm} {a : Nat} (h : a < d.md.length) : mdD d a = d.md[a] := by simp [mdD, List.getD, List.getElem?_eq_getElem h]
/-- A bound brought between -2 and 62. -/
def brT (n : Int) : Int := max (-2) (min 62 n)
theorem br_in (n : Int) : -2 ≤ brT n ∧ brT n ≤ 62 := by unfold brT; omega
theorem br_id {n : Int} (h : -2 ≤ n ∧ n ≤ 62) : brT n = n := by unfold brT; omega

-- DomainForm
def okD (p : Pj) (d : Dm) (a : Nat) : Bool := inB (mnD d a) (-2) 62 && (inB (mxD d a) (-2) 62 && (ascB (mdD d a) && subB (mdD d a) (rangeB ((acA p a).length : Int))))
noncomputable def dformB (p : Pj) (d : Dm) : Bool := pokB p && (decide (d.mn.length = p.acts.length) && (decide (d.mx.length = p.acts.length) && (decide (d.md.length = p.acts.length) && (List.range p.acts.length).all (okD p d))))
theorem dform_bad {p : Pj} {d : Dm} (h : pokB p = false) : dformB p d = false := by rw [dformB, h]; rfl
theorem dform_mn {p : Pj} {d : Dm} (h : ¬ d.mn.length = p.acts.length) : dformB p d = false := by simp [dformB, h]
theorem dform_mx {p : Pj} {d : Dm} (h : ¬ d.mx.length = p.acts.length) : dformB p d = false := by simp [dformB, h]
theorem dform_md {p : Pj} {d : Dm} (h : ¬ d.md.length = p.acts.length) : dformB p d = false := by simp [dformB, h]
theorem dform_at {p : Pj} {d : Dm} {a : Nat} (ha : a < p.acts.length) (h : okD p d a = false) : dformB p d = false := by
  have : (List.range p.acts.length).all (okD p d) = false := by
    rw [List.all_eq_false]
    exact ⟨a, List.mem_range.2 ha, by simp [h]⟩
  simp [dformB, this]
theorem dform_yes {p : Pj} {d : Dm} (h0 : pokB p = true) (h1 : d.mn.length = p.acts.length) (h2 : d.mx.length = p.acts.length) (h3 : d.md.length = p.acts.length) (h : ∀ a, a < p.acts.length → okD p d a = true) : dformB p d = true := by
  have : (List.range p.acts.length).all (okD p d) = true := by
    rw [List.all_eq_true]
    exact fun a ha => h a (List.mem_range.1 ha)
  simp [dformB, h0, h1, h2, h3, this]
theorem okD_mn {p : Pj} {d : Dm} {a : Nat} (h : ¬ (-2 ≤ mnD d a ∧ mnD d a ≤ 62)) : okD p d a = false := by rw [okD, inB_no h]; rfl
theorem okD_mx {p : Pj} {d : Dm} {a : Nat} (h : ¬ (-2 ≤ mxD d a ∧ mxD d a ≤ 62)) : okD p d a = false := by rw [okD, inB_no h]; simp
theorem okD_md {p : Pj} {d : Dm} {a : Nat} (h1 : -2 ≤ mnD d a ∧ mnD d a ≤ 62) (h2 : -2 ≤ mxD d a ∧ mxD d a ≤ 62) : okD p d a = (ascB (mdD d a) && subB (mdD d a) (rangeB ((acA p a).length : Int))) := by rw [okD, inB_yes h1, inB_yes h2]; rfl
structure DForm (p : Pj) (d : Dm) : Prop where
  ok : pokB p = true
  h1 : d.mn.length = p.acts.length
  h2 : d.mx.length = p.acts.length
  h3 : d.md.length = p.acts.length
  n6 : p.acts.length ≤ 6
  mn : ∀ a, a < p.acts.length → -2 ≤ mnD d a ∧ mnD d a ≤ 62
  mx : ∀ a, a < p.acts.length → -2 ≤ mxD d a ∧ mxD d a ≤ 62
  md : ∀ a, a < p.acts.length → ascB (mdD d a) = true ∧ subB (mdD d a) (rangeB ((acA p a).length : Int)) = true
theorem dform_of {p : Pj} {d : Dm} (h : dformB p d = true) : DForm p d := by
  simp only [dformB, Bool.and_eq_true, List.all_eq_true, decide_eq_true_eq, List.mem_range] at h
  obtain ⟨h0, h1, h2, h3, h4⟩ := h
  refine ⟨h0, h1, h2, h3, (pok_acts h0).1, fun a ha => ?_, fun a ha => ?_, fun a ha => ?_⟩
  all_goals
    have hg := h4 a ha
    simp only [okD, Bool.and_eq_true] at hg
  · exact inB_iff.1 hg.1
  · exact inB_iff.1 hg.2.1
  · exact hg.2.2
/-- The program's way to see a set of numbers from 0 up to n. -/
theorem mem_range {n : Nat} (hn : n ≤ 200) (x : Int) : x ∈ rangeB (n : Int) ↔ 0 ≤ x ∧ x < (n : Int) := by
  rw [rangeB, if_pos (by omega), upB, Int.toNat_natCast, List.mem_map]
  constructor
  · rintro ⟨k, hk, rfl⟩
    have := List.mem_range.1 hk
    omega
  · intro h
    exact ⟨x.toNat, List.mem_range.2 (by omega), by omega⟩
theorem asc_mono {l : List Int} (h : ascB l = true) : ∀ j, (hj : j < l.length) → ∀ i, (hi : i ≤ j) → l[i]'(by omega) ≤ l[j]
  | 0, hj, i, hi => by obtain rfl : i = 0 := by omega
                       exact Int.le_refl _
  | j + 1, hj, i, hi => by
    by_cases e : i = j + 1
    · subst e; exact Int.le_refl _
    have h1 := asc_mono h j (by omega) i (by omega)
    have h2 := ascB_iff.1 h (j + 1) hj (by omega)
    have h3 : j + 1 - 1 = j := by omega
    simp only [h3] at h2
    omega
theorem sub_ends {l : List Int} {n : Nat} (hn : n ≤ 200) (h : ascB l = true) (h0 : 0 < l.length) : subB l (rangeB (n : Int)) = (decide (0 ≤ l[0]) && decide (l[l.length - 1] < (n : Int))) := by
  rw [Bool.eq_iff_iff]
  simp only [subB, List.all_eq_true, Bool.and_eq_true, decide_eq_true_eq, List.contains_iff_mem, mem_range hn]
  constructor
  · intro hs
    exact ⟨(hs _ (List.getElem_mem h0)).1, (hs _ (List.getElem_mem (by omega))).2⟩
  · rintro ⟨h1, h2⟩ x hx
    obtain ⟨j, hj, rfl⟩ := List.getElem_of_mem hx
    have := asc_mono h j hj 0 (by omega)
    have := asc_mono h (l.length - 1) (by omega) j (by omega)
    omega
theorem sub_nil (ys : List Int) : subB [] ys = true := rfl

-- InitialDomain
noncomputable def init1 (p : Pj) : Dm := ⟨List.replicate p.acts.length 0, List.replicate p.acts.length (p.dl - 1), p.acts.map fun a => rangeB (a.ms.length : Int)⟩
noncomputable def initD (p : Pj) : Dm := if pokB p = true then init1 p else ⟨[], [], []⟩
theorem init_no {p : Pj} (h : pokB p = false) : initD p = ⟨[], [], []⟩ := by rw [initD, h]; simp
theorem init_yes {p : Pj} (h : pokB p = true) : initD p = init1 p := by rw [initD, if_pos h]
theorem rep_snoc (x : Int) (k : Nat) : List.replicate k x ++ [x] = List.replicate (k + 1) x := by rw [List.replicate_succ']
theorem take_map_snoc {α β : Type} {f : α → β} {l : List α} {k : Nat} (h : k < l.length) : (l.take k).map f ++ [f l[k]] = (l.take (k + 1)).map f := by
  rw [List.take_succ_eq_append_getElem h, List.map_append]; rfl

-- DomainEmpty
def noneB (l : List Int) : Bool := decide (l.length = 0)
def empD (d : Dm) : Bool := (List.range (min d.mn.length d.mx.length)).any (fun a => decide (mxD d a < mnD d a)) || d.md.any noneB
theorem emp_at {d : Dm} {a : Nat} (h : a < d.mn.length) (h2 : a < d.mx.length) (hb : mxD d a < mnD d a) : empD d = true := by
  have : (List.range (min d.mn.length d.mx.length)).any (fun a => decide (mxD d a < mnD d a)) = true := List.any_eq_true.2 ⟨a, List.mem_range.2 (by omega), by simpa using hb⟩
  rw [empD, this]; rfl
theorem emp_rest {d : Dm} (h : ∀ a, a < d.mn.length → a < d.mx.length → mnD d a ≤ mxD d a) : empD d = d.md.any noneB := by
  have : (List.range (min d.mn.length d.mx.length)).any (fun a => decide (mxD d a < mnD d a)) = false := by
    rw [List.any_eq_false]
    intro a ha
    have ha := List.mem_range.1 ha
    have := h a (by omega) (by omega)
    simp; omega
  rw [empD, this]; rfl
theorem any_at {l : List (List Int)} {k : Nat} (h : k < l.length) (e : l[k].length = 0) : l.any noneB = true := List.any_eq_true.2 ⟨_, List.getElem_mem h, by unfold noneB; simpa using e⟩
theorem any_no {l : List (List Int)} (h : ∀ k, (hk : k < l.length) → ¬ l[k].length = 0) : l.any noneB = false := by
  rw [List.any_eq_false]
  intro x hx
  obtain ⟨k, hk, rfl⟩ := List.getElem_of_mem hx
  unfold noneB
  simpa using h k hk

-- Restrict
def thereD (d : Dm) (a : Int) : Prop := 0 ≤ a ∧ a < (d.mn.length : Int) ∧ a < (d.mx.length : Int) ∧ a < (d.md.length : Int)
instance instDecThere (d : Dm) (a : Int) : Decidable (thereD d a) := by unfold thereD; infer_instance
def restA (d : Dm) (l : Lt) (a : Nat) : Dm :=
  if l.ki = 1 then ⟨d.mn.set a (max (mnD d a) (brT l.va)), d.mx, d.md⟩
  else if l.ki = 2 then ⟨d.mn, d.mx.set a (min (mxD d a) (brT l.va)), d.md⟩
  else if l.ki = 3 then ⟨d.mn, d.mx, d.md.set a (interB (mdD d a) [brT l.va])⟩
  else if l.ki = 4 then ⟨d.mn, d.mx, d.md.set a ((mdD d a).filter fun x => x != brT l.va)⟩
  else d
def restD (d : Dm) (l : Lt) : Dm := if thereD d l.ac then restA d l l.ac.toNat else d
theorem rest_no {d : Dm} {l : Lt} (h : ¬ thereD d l.ac) : restD d l = d := by rw [restD, if_neg h]
theorem rest_yes {d : Dm} {l : Lt} {n : Nat} (h : thereD d (n : Int)) (e : l.ac = (n : Int)) : restD d l = restA d l n := by rw [restD, e, if_pos h, Int.toNat_natCast]
theorem inter_one (m : List Int) (x : Int) : interB [x] m = interB m [x] := by
  refine asc_eq (asc_setB _) (asc_setB _) fun y => ?_
  simp only [interB, mem_setB, List.mem_filter, List.contains_iff_mem, List.mem_singleton]
  constructor
  · rintro ⟨rfl, h⟩; exact ⟨h, rfl⟩
  · rintro ⟨h, rfl⟩; exact ⟨rfl, h⟩
theorem inter_len (m : List Int) (x : Int) : (interB m [x]).length ≤ m.length := Nat.le_trans (len_setB _) (List.length_filter_le _ _)

-- Contains
def contA (d : Dm) (s : Sc) (a : Nat) : Bool := inB (stA s a) (mnD d a) (mxD d a) && hasB (mdD d a) (moA s a)
def contD (d : Dm) (s : Sc) : Bool := decide (s.mo.length = s.st.length) && (decide (d.mn.length = s.st.length) && (decide (d.mx.length = s.st.length) && (decide (d.md.length = s.st.length) && (List.range s.st.length).all (contA d s))))
theorem cont_mo {d : Dm} {s : Sc} (h : ¬ s.mo.length = s.st.length) : contD d s = false := by simp [contD, h]
theorem cont_mn {d : Dm} {s : Sc} (h : ¬ d.mn.length = s.st.length) : contD d s = false := by simp [contD, h]
theorem cont_mx {d : Dm} {s : Sc} (h : ¬ d.mx.length = s.st.length) : contD d s = false := by simp [contD, h]
theorem cont_md {d : Dm} {s : Sc} (h : ¬ d.md.length = s.st.length) : contD d s = false := by simp [contD, h]
theorem cont_at {d : Dm} {s : Sc} {a : Nat} (ha : a < s.st.length) (h : contA d s a = false) : contD d s = false := by
  have : (List.range s.st.length).all (contA d s) = false := by
    rw [List.all_eq_false]
    exact ⟨a, List.mem_range.2 ha, by simp [h]⟩
  simp [contD, this]
theorem cont_yes {d : Dm} {s : Sc} (h0 : s.mo.length = s.st.length) (h1 : d.mn.length = s.st.length) (h2 : d.mx.length = s.st.length) (h3 : d.md.length = s.st.length) (h : ∀ a, a < s.st.length → contA d s a = true) : contD d s = true := by
  have : (List.range s.st.length).all (contA d s) = true := by
    rw [List.all_eq_true]
    exact fun a ha => h a (List.mem_range.1 ha)
  simp [contD, h0, h1, h2, h3, this]
theorem contA_lo {d : Dm} {s : Sc} {a : Nat} (h : stA s a < mnD d a) : contA d s a = false := by rw [contA, inB_no (by omega)]; rfl
theorem contA_hi {d : Dm} {s : Sc} {a : Nat} (h : mxD d a < stA s a) : contA d s a = false := by rw [contA, inB_no (by omega)]; rfl
theorem contA_yes {d : Dm} {s : Sc} {a : Nat} (h1 : mnD d a ≤ stA s a) (h2 : stA s a ≤ mxD d a) : contA d s a = hasB (mdD d a) (moA s a) := by rw [contA, inB_yes ⟨h1, h2⟩]; rfl

-- LiteralValue
def knownB (y n : Bool) : Int := if y = true then 1 else if n = true then -1 else 0
def lvalA (d : Dm) (l : Lt) (a : Nat) : Int :=
  if l.ki = 1 then knownB (decide (l.va ≤ mnD d a)) (decide (mxD d a < l.va))
  else if l.ki = 2 then knownB (decide (mxD d a ≤ l.va)) (decide (l.va < mnD d a))
  else if l.ki = 3 then knownB (eqB (mdD d a) [l.va]) (!hasB (mdD d a) l.va)
  else if l.ki = 4 then knownB (!hasB (mdD d a) l.va) (eqB (mdD d a) [l.va])
  else 1
def lvalD (d : Dm) (l : Lt) : Int := if thereD d l.ac then lvalA d l l.ac.toNat else 1
theorem lval_no {d : Dm} {l : Lt} (h : ¬ thereD d l.ac) : lvalD d l = 1 := by rw [lvalD, if_neg h]
theorem lval_yes {d : Dm} {l : Lt} {n : Nat} (h : thereD d (n : Int)) (e : l.ac = (n : Int)) : lvalD d l = lvalA d l n := by rw [lvalD, e, if_pos h, Int.toNat_natCast]
theorem known_neg (m : List Int) (x : Int) : - knownB (eqB m [x]) (!hasB m x) = knownB (!hasB m x) (eqB m [x]) := by
  rcases he : eqB m [x] with _ | _
  · rcases hh : hasB m x with _ | _ <;> rfl
  · have hm : m = [x] := by simpa [eqB] using he
    subst hm
    have hh : hasB [x] x = true := by simp [hasB]
    rw [hh]
    rfl

-- SingletonDomain
def singD (s : Sc) : Dm := ⟨s.st, s.st, s.mo.map fun m => [m]⟩

-- DomainLiterals
def litsA (p : Pj) (d : Dm) (a : Nat) : List Lt :=
  (if 0 < mnD d a then [⟨1, (a : Int), mnD d a⟩] else []) ++ ((if mxD d a < p.dl - 1 then [⟨2, (a : Int), mxD d a⟩] else []) ++ (diffB (rangeB ((acA p a).length : Int)) (mdD d a)).map fun m => (⟨4, (a : Int), m⟩ : Lt))
def litsK (p : Pj) (d : Dm) : Nat → List Lt
  | 0 => []
  | k + 1 => litsK p d k ++ litsA p d k
noncomputable def litsD (p : Pj) (d : Dm) : List Lt := if dformB p d = true then litsK p d p.acts.length else []
theorem lits_no {p : Pj} {d : Dm} (h : dformB p d = false) : litsD p d = [] := by rw [litsD, h]; simp
theorem lits_yes {p : Pj} {d : Dm} (h : dformB p d = true) : litsD p d = litsK p d p.acts.length := by rw [litsD, if_pos h]

-- DomainSubset
def subA (d e : Dm) (a : Nat) : Bool := decide (mnD e a ≤ mnD d a) && (decide (mxD d a ≤ mxD e a) && subB (mdD d a) (mdD e a))
def lensD (d : Dm) (n : Nat) : Prop := d.mn.length = n ∧ d.mx.length = n ∧ d.md.length = n
instance instDecLens (d : Dm) (n : Nat) : Decidable (lensD d n) := by unfold lensD; infer_instance
def subD (d e : Dm) : Bool := decide (lensD d d.md.length) && (decide (lensD e d.md.length) && (List.range d.md.length).all (subA d e))
theorem subD_l {d e : Dm} (h : ¬ lensD d d.md.length) : subD d e = false := by simp [subD, h]
theorem subD_r {d e : Dm} (h : ¬ lensD e d.md.length) : subD d e = false := by simp [subD, h]
theorem subD_at {d e : Dm} {a : Nat} (ha : a < d.md.length) (h : subA d e a = false) : subD d e = false := by
  have : (List.range d.md.length).all (subA d e) = false := by
    rw [List.all_eq_false]
    exact ⟨a, List.mem_range.2 ha, by simp [h]⟩
  simp [subD, this]
theorem subD_yes {d e : Dm} (h1 : lensD d d.md.length) (h2 : lensD e d.md.length) (h : ∀ a, a < d.md.length → subA d e a = true) : subD d e = true := by
  have : (List.range d.md.length).all (subA d e) = true := by
    rw [List.all_eq_true]
    exact fun a ha => h a (List.mem_range.1 ha)
  simp [subD, h1, h2, this]
theorem subA_lo {d e : Dm} {a : Nat} (h : mnD d a < mnD e a) : subA d e a = false := by
  have : ¬ mnD e a ≤ mnD d a := by omega
  simp [subA, this]
theorem subA_hi {d e : Dm} {a : Nat} (h : mxD e a < mxD d a) : subA d e a = false := by
  have : ¬ mxD d a ≤ mxD e a := by omega
  simp [subA, this]
theorem subA_yes {d e : Dm} {a : Nat} (h1 : mnD e a ≤ mnD d a) (h2 : mxD d a ≤ mxD e a) : subA d e a = subB (mdD d a) (mdD e a) := by simp [subA, h1, h2]

-- DomainEqual
def eqD (d e : Dm) : Bool := eqB d.mn e.mn && (eqB d.mx e.mx && decide (d.md = e.md))
theorem eqRows_no {a b : List (List Int)} {k : Nat} (h1 : k < a.length) (h2 : k < b.length) (h : ¬ a[k] = b[k]) : decide (a = b) = false := by
  rw [decide_eq_false_iff_not]
  rintro rfl
  exact h rfl
theorem eqRows_len {a b : List (List Int)} (h : ¬ a.length = b.length) : decide (a = b) = false := by
  rw [decide_eq_false_iff_not]
  rintro rfl
  exact h rfl
theorem eqRows_yes {a b : List (List Int)} (h : a.length = b.length) (he : ∀ k, (hk : k < a.length) → a[k] = b[k]'(h ▸ hk)) : decide (a = b) = true := decide_eq_true (List.ext_getElem h fun k h1 _ => he k h1)

-- DomainSize
def sizeK (d : Dm) : Nat → Int
  | 0 => 0
  | k + 1 => max (sizeK d k) (brT (mxD d k) - brT (mnD d k) + 1)
def sizeD (d : Dm) : Int := if d.mn.length = d.mx.length then sizeK d d.mn.length else 0
theorem size_no {d : Dm} (h : ¬ d.mn.length = d.mx.length) : sizeD d = 0 := by rw [sizeD, if_neg h]
theorem size_yes {d : Dm} (h : d.mn.length = d.mx.length) : sizeD d = sizeK d d.mn.length := by rw [sizeD, if_pos h]
theorem size_in (d : Dm) : ∀ k, 0 ≤ sizeK d k ∧ sizeK d k ≤ 65
  | 0 => by simp [sizeK]
  | k + 1 => by
    have := size_in d k
    have := br_in (mxD d k)
    have := br_in (mnD d k)
    simp only [sizeK]
    omega
end Go.Proofs.YtgbpomakomddjabGreatDoor
end

section
namespace Go.Proofs.YtgbpomakomddjabGreatDoor
open Go.RowKit Go.Shelf
set_option linter.unusedVariables false

theorem ret_intI {a b : Int} (h : a = b) : Ending.returned (.int .i64 a) = Ending.returned (.int .i64 b) := by rw [h]
end Go.Proofs.YtgbpomakomddjabGreatDoor
end

section
namespace Go.Proofs.YtgbpomakomddjabGreatDoor
open Go.RowKit Go.Shelf
set_option linter.unusedVariables false

end Go.Proofs.YtgbpomakomddjabGreatDoor
end

section
namespace Go.Proofs.YtgbpomakomddjabGreatDoor
open Go.RowKit
set_option linter.unusedVariables false

theorem own_rowsI {w : World} {B : Nat} {xs : List (List Int)} {v : Value} {F : List Nat} (h : (trSu xs).own w B v F) :
    xs.length ≤ 9223372036854775807 ∧ ∃ A c, v = .slice A xs.length c ∧ ∀ k, k < xs.length → ∃ b o, A = some ⟨b, o, none⟩ ∧ b < w.heap.size ∧ ∀ j, (hj : j < xs.length) → ∃ A0 c0, w.cell? ⟨b, o + j, none⟩ = some (.slice A0 xs[j].length c0) ∧ (trI xs[j]).rd w (.slice A0 xs[j].length c0) ∧ NilOk (.slice A0 xs[j].length c0) := by
  obtain ⟨vs, G, ow, ol, _⟩ := rowsD_raw h
  obtain ⟨hl, hs, A, c, rfl, hc⟩ := own_rdN ow (own_le ow)
  unfold maxLen at hl
  refine ⟨hl, A, c, rfl, fun k hk => ?_⟩
  rcases hc with h0 | ⟨b, o, rfl, hb, hc⟩
  · omega
  refine ⟨b, o, rfl, hb, fun j hj => ?_⟩
  obtain ⟨v, H, F1, F2, hv, ho, _, _⟩ := ownL_focus ol (flatI_get hj)
  obtain ⟨hjv, e⟩ := List.getElem?_eq_some_iff.1 hv
  have hcj := hc j hjv
  rw [e] at hcj
  have hr := (own_flat ho).1
  obtain ⟨A0, c0, rfl⟩ := slice_ints (Tr.own_rd _ _ _ ho)
  exact ⟨A0, c0, hcj, Tr.own_rd _ _ _ ho, nilOk_own hr⟩
theorem Sn.newW {w0 W : World} {L : List Item} (h : Sn w0 W L) (e : TypeId) (vs : List Value) (hv : vs.length ≤ maxLen) : Sn w0 (W.alloc (.cells ⟨vs⟩ e)) (⟨flat e vs, .slice (some ⟨W.heap.size, 0, none⟩) vs.length vs.length, [W.heap.size]⟩ :: L) :=
  h.new (t := flat e vs) ⟨vs, [], ⟨by simp, .inr ⟨W.heap.size, vs.length, ⟨vs⟩, rfl, Nat.le_refl _, heap_alloc_new W _, by simp, hv, by simp, List.take_of_length_le (by simp)⟩⟩, ownL_ones.2 ⟨rfl, rfl⟩, by simp [Value.ownBlock]⟩ (by simp) ((Below.refl _ _).alloc (Nat.le_refl _) _)
section
variable {w0 W : World} {L : List Item}
theorem Sn.putR {D : List (List Int)} {r : List Int} {x : Value} {H F : List Nat} {g c n : Nat} (h : Sn w0 W (⟨trI r, x, H⟩ :: ⟨trSu D, .slice (some ⟨g, 0, none⟩) n c, F⟩ :: L)) (hn : n = D.length) {i : Nat} (hi : i < D.length) :
    ∃ F', Sn w0 (W.setCell ⟨g, i, none⟩ x) (⟨trSu (D.set i r), .slice (some ⟨g, 0, none⟩) n c, F'⟩ :: L) := by
  subst hn
  obtain ⟨oa, na, pa, od, nd, pd, rest⟩ := h.2
  have hra : RowAt W w0.heap.size 25 1 D.length g c (D.flatMap cellsI1) F := ⟨od, nd⟩
  obtain ⟨F', r', sub⟩ := hra.put (i := i) (t' := trI r) (x' := x) (by rw [flatMap_len cellsI1_len]; omega) oa na (fun k hk hk2 => pa ⟨trSu D, .slice (some ⟨g, 0, none⟩) D.length c, F⟩ (by simp) k hk hk2)
  refine ⟨F', h.merge2.turn (t' := trSu (D.set i r)) ?_ r'.2 (fun k hk => .inl ?_) (Wr.setCell W ⟨g, i, none⟩ ?_ _)⟩
  · have e : trSu (D.set i r) = Tr.row 25 1 D.length ((D.flatMap cellsI1).set i (trI r)) := by
      rw [trSu, rows, List.length_set, flatI_set hi]
    rw [e]; exact r'.1
  · show k ∈ F ++ (H ++ [])
    rcases sub k hk with h | h
    · exact List.mem_append.2 (.inl h)
    · exact List.mem_append.2 (.inr (by simpa using h))
  · show g ∈ F ++ (H ++ [])
    exact List.mem_append.2 (.inl hra.mem)
theorem Sn.formR {D : List (List Int)} {A : Option Addr} {n c : Nat} {F : List Nat} (h : Sn w0 W (⟨trSu D, .slice A n c, F⟩ :: L)) (hn : 0 < n) : ∃ g, A = some ⟨g, 0, none⟩ ∧ n ≤ c ∧ g < W.heap.size := by
  obtain ⟨vs, G, ow, _, _⟩ := rowsD_raw (h.own 0 rfl).1
  have hlt := ow.lt
  rcases ow.2 with ⟨he, _⟩ | ⟨g, cap, cur, he, _, _, hc, _⟩
  · injection he; omega
  · injection he with h1 h2 h3
    subst h1 h3
    exact ⟨g, rfl, by omega, (hlt g rfl).2⟩
end
/-- A domain of one's own: its three rows, none of which is a nil slice with room. -/
theorem own_dom {w : World} {B : Nat} {d : Dm} {v : Value} {F : List Nat} (h : (trDm d).own w B v F) : ∃ v1 v2 v3 F1 F2 F3, v = .agg #[v1, v2, v3] ∧ (trI d.mn).own w B v1 F1 ∧ (trI d.mx).own w B v2 F2 ∧ (trSu d.md).own w B v3 F3 := by
  obtain ⟨vs, rfl, v1, us, F1, G1, rfl, o1, ⟨v2, us, F2, G2, rfl, o2, ⟨v3, us, F3, G3, rfl, o3, ⟨rfl, rfl⟩, rfl⟩, rfl⟩, rfl⟩ := h
  exact ⟨v1, v2, v3, F1, F2, F3, rfl, o1, o2, o3⟩
theorem nil_int {w : World} {B : Nat} {xs : List Int} {v : Value} {F : List Nat} (h : (trI xs).own w B v F) : NilOk v := nilOk_own (own_flat h).1
theorem dm_sz (d : Dm) : (trDm d).sz = d.mn.length + (d.mx.length + ((trSu d.md).sz + 0)) := by
  show szL (cellsDm d) = _
  simp only [cellsDm, szL, trI_sz]
theorem su_sz (xs : List (List Int)) : (trSu xs).sz = xs.length + szL (xs.flatMap cellsI1) := rfl
theorem su_at {xs : List (List Int)} {j : Nat} (h : j < xs.length) : xs[j].length ≤ (trSu xs).sz := by
  have h1 := szL_flat_at (f := cellsI1) h
  have h2 : szL (cellsI1 xs[j]) = xs[j].length := by simp [cellsI1, szL, trI_sz]
  rw [su_sz]
  omega
end Go.Proofs.YtgbpomakomddjabGreatDoor
end

section
namespace Go.Proofs.YtgbpomakomddjabGreatDoor
open Go.RowKit
set_option linter.unusedVariables false

theorem step_app_rd {ops : Array Oper} {o : Oper} {a : Act} {w : World} {K : Act → World → Prop} {Q : Exit → Act → World → Prop} {E : Prop} (hgd : o.guard = none) (s x : Operand) (t : TypeId)
    (ho : o.op = .call { callee := .builtin .append, args := #[s, x], argTypes := #[t, t] }) (ht : Tryz.prog.underlying t = some (.slice 3))
    (base : Nat) (v : Value) (xs ys : List Int) (hs : a.eval s = v) (hown : w.ownsRow base 3 1 v xs.length (xs.map (.int .i64)))
    (vx : Value) (hx : a.eval x = vx) (hr : Rd w vx (ys.map (.int .i64))) (hnil : NilOk vx) (hlen : xs.length + ys.length ≤ 1099511627776) (hbase : base ≤ w.heap.size)
    (h : ∀ v' w', w'.ownsRow base 3 1 v' (xs ++ ys).length ((xs ++ ys).map (.int .i64)) → w.grownBy w' v.ownBlock → (v'.ownBlock = v.ownBlock ∨ v'.ownBlock = some w.heap.size) → K (a.put o.dst v') w') :
    if Region.wanted o (yielded ops a.tmps) = true then Oper.wp Tryz.prog o a w K Q else E := by
  have hw : Region.wanted o (yielded ops a.tmps) = true := by simp [Region.wanted, hgd]
  rw [if_pos hw]
  obtain ⟨i0, hi, hz0, hz1, hz2⟩ := info_parts infoInt
  obtain ⟨hl, A, c, rfl, hA⟩ := hr
  rw [List.length_map] at hx
  have key : ∀ ad, A = some ad → (∀ j u, (ys.map (Value.int .i64))[j]? = some u → w.cell? (ad.add j) = some u) → Oper.wp Tryz.prog o a w K Q := by
    intro ad had hc
    subst had
    obtain ⟨v', w', hrun, h1, h2, _, h4⟩ := run_append_own_at (P := Tryz.prog) w base t o.type 3 i0 (.int .i64 0) 1 8 ht hi hz0 hz1 hz2 rfl (by decide) v xs.length (xs.map (.int .i64)) hown ad ys.length c (ys.map (.int .i64)) (by simp) hc
      (by intro u hu; obtain ⟨y, _, rfl⟩ := List.mem_map.1 hu; rfl) (by unfold maxLen; omega) (by omega) hbase
    unfold Oper.wp
    simp [execOp, ho, resolve, invoke, builtin, hs, hx, hrun, Result.andThen]
    exact h v' w' (by rw [List.length_append, List.map_append]; exact h1) h2 h4
  rcases hA with hA | ⟨b, off, rfl, hb, hc⟩
  · have hy : ys = [] := by simpa using hA
    subst hy
    cases A with
    | some ad => exact key ad rfl (by intro j u hu; simp at hu)
    | none =>
      have hc0 : c = 0 := hnil _ _ rfl
      subst hc0
      have hrun := run_append_owned_none (P := Tryz.prog) (w := w) base t o.type 3 i0 1 ht hi v xs.length (xs.map (.int .i64)) hown
      have hx' : a.eval x = .slice none 0 0 := hx
      unfold Oper.wp
      simp [execOp, ho, resolve, invoke, builtin, hs, hx', hrun, Result.andThen]
      exact h v w (by simpa using hown) ⟨rfl, rfl, rfl, Nat.le_refl _, fun _ _ _ => rfl⟩ (.inl rfl)
  · refine key _ rfl fun j u hu => ?_
    obtain ⟨hj, rfl⟩ := List.getElem?_eq_some_iff.1 hu
    have hadd : (⟨b, off, none⟩ : Addr).add j = ⟨b, off + j, none⟩ := by unfold Addr.add; split <;> simp_all
    rw [hadd]
    exact hc j hj
theorem Wr.fresh {F : List Nat} {a b c : World} {e : Nat} (h : Wr F a b) (hg : Wr [e] b c) (he : a.heap.size ≤ e) : Wr F a c :=
  ⟨hg.os.trans h.os, hg.tape.trans h.tape, hg.output.trans h.output, Nat.le_trans h.size hg.size, fun k hk hF => (hg.block k (by have := h.size; omega) (by simp only [List.mem_singleton]; omega)).trans (h.block k hk hF)⟩
/-- The newest tree, an empty row, has become the row ys. -/
theorem Sn.appRow {w0 W w6 : World} {L : List Item} {ys : List Int} {v v' : Value} {F : List Nat} {n : Nat} (h : Sn w0 W (⟨trI [], v, F⟩ :: L)) (hown : w6.ownsRow w0.heap.size 3 1 v' n (ys.map (.int .i64)))
    (hg : W.grownBy w6 v.ownBlock) (hat : v'.ownBlock = v.ownBlock ∨ v'.ownBlock = some W.heap.size) : Sn w0 w6 (⟨trI ys, v', v'.ownBlock.toList⟩ :: L) := by
  have hF : F = v.ownBlock.toList := (own_flat (h.own 0 rfl).1).2
  have ho : (trI ys).own w6 w0.heap.size v' v'.ownBlock.toList := (flat_own hown).1
  refine h.turn ho (flat_own hown).2 (fun k hk => ?_) (by rw [hF]; exact Wr.of_grown hg)
  rcases hat with e | e
  · left; show k ∈ F; rw [hF, ← e]; exact hk
  · right
    rw [e] at hk
    simp only [Option.toList, List.mem_singleton] at hk
    omega
end Go.Proofs.YtgbpomakomddjabGreatDoor
end

section
namespace Go.Proofs.YtgbpomakomddjabGreatDoor
open Go.RowKit Go.Shelf
set_option linter.unusedVariables false

end Go.Proofs.YtgbpomakomddjabGreatDoor
end
