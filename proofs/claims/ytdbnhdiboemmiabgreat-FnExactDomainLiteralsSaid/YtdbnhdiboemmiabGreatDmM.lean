/- DERIVED. Mathematics of chapter 13 (domains). No dump. -/
import Derived.Test.YtdbnhdiboemmiabGreatScM
import Derived.Test.YtdbnhdiboemmiabGreatLtM
import Derived.Test.YtdbnhdiboemmiabGreatSets
import Derived.Test.YtdbnhdiboemmiabGreatMaths
namespace Go.Proofs.YtdbnhdiboemmiabGreat
open Go.RowKit
set_option linter.unusedVariables false

def mnD (d : Dm) (a : Nat) : Int := d.mn.getD a 0
def mxD (d : Dm) (a : Nat) : Int := d.mx.getD a 0
def mdD (d : Dm) (a : Nat) : List Int := d.md.getD a []
theorem mnD_at {d : Dm} {a : Nat} (h : a < d.mn.length) : mnD d a = d.mn[a] := by simp [mnD, List.getD, List.getElem?_eq_getElem h]
theorem mxD_at {d : Dm} {a : Nat} (h : a < d.mx.length) : mxD d a = d.mx[a] := by simp [mxD, List.getD, List.getElem?_eq_getElem h]
theorem mdD_at {d : Dm} {a : Nat} (h : a < d.md.length) : mdD d a = d.md[a] := by simp [mdD, List.getD, List.getElem?_eq_getElem h]
/-- A bound brought between -2 and 62. -/
def brT (n : Int) : Int := max (-2) (min 62 n)
theorem br_in (n : Int) : -2 ≤ brT n ∧ brT n ≤ 62 := by unfold brT; omega
theorem br_id {n : Int} (h : -2 ≤ n ∧ n ≤ 62) : brT n = n := by unfold brT; omega

-- DomainForm
def okD (p : Pj) (d : Dm) (a : Nat) : Bool := inB (mnD d a) (-2) 62 && (inB (mxD d a) (-2) 62 && (ascB (mdD d a) && subB (mdD d a) (rangeB ((acA p a).length : Int))))
noncomputable def dformB (p : Pj) (d : Dm) : Bool := pokB p && (decide (d.mn.length = p.acts.length) && (decide (d.mx.length = p.acts.length) && (decide (d.md.length = p.acts.length) && (List.range p.acts.length).all (okD p d))))
theorem dform_bad {p : Pj} {d : Dm} (h : pokB p = false) : dformB p d = false := by rw [dformB, h]; rfl
theorem dform_mn {p : Pj} {d : Dm} (h : ¬ d.mn.length = p.acts.length) : dformB p d = false := by simp [dformB, h]
theorem dform_mx {p : Pj} {d : Dm} (h : ¬ d.mx.length = p.acts.length) : dformB p d = false := by simp [dformB, h]
theorem dform_md {p : Pj} {d : Dm} (h : ¬ d.md.length = p.acts.length) : dformB p d = false := by simp [dformB, h]
theorem dform_at {p : Pj} {d : Dm} {a : Nat} (ha : a < p.acts.length) (h : okD p d a = false) : dformB p d = false := by
  have : (List.range p.acts.length).all (okD p d) = false := by
    rw [List.all_eq_false]
    exact ⟨a, List.mem_range.2 ha, by simp [h]⟩
  simp [dformB, this]
theorem dform_yes {p : Pj} {d : Dm} (h0 : pokB p = true) (h1 : d.mn.length = p.acts.length) (h2 : d.mx.length = p.acts.length) (h3 : d.md.length = p.acts.length) (h : ∀ a, a < p.acts.length → okD p d a = true) : dformB p d = true := by
  have : (List.range p.acts.length).all (okD p d) = true := by
    rw [List.all_eq_true]
    exact fun a ha => h a (List.mem_range.1 ha)
  simp [dformB, h0, h1, h2, h3, this]
theorem okD_mn {p : Pj} {d : Dm} {a : Nat} (h : ¬ (-2 ≤ mnD d a ∧ mnD d a ≤ 62)) : okD p d a = false := by rw [okD, inB_no h]; rfl
theorem okD_mx {p : Pj} {d : Dm} {a : Nat} (h : ¬ (-2 ≤ mxD d a ∧ mxD d a ≤ 62)) : okD p d a = false := by rw [okD, inB_no h]; simp
theorem okD_md {p : Pj} {d : Dm} {a : Nat} (h1 : -2 ≤ mnD d a ∧ mnD d a ≤ 62) (h2 : -2 ≤ mxD d a ∧ mxD d a ≤ 62) : okD p d a = (ascB (mdD d a) && subB (mdD d a) (rangeB ((acA p a).length : Int))) := by rw [okD, inB_yes h1, inB_yes h2]; rfl
structure DForm (p : Pj) (d : Dm) : Prop where
  ok : pokB p = true
  h1 : d.mn.length = p.acts.length
  h2 : d.mx.length = p.acts.length
  h3 : d.md.length = p.acts.length
  n6 : p.acts.length ≤ 6
  mn : ∀ a, a < p.acts.length → -2 ≤ mnD d a ∧ mnD d a ≤ 62
  mx : ∀ a, a < p.acts.length → -2 ≤ mxD d a ∧ mxD d a ≤ 62
  md : ∀ a, a < p.acts.length → ascB (mdD d a) = true ∧ subB (mdD d a) (rangeB ((acA p a).length : Int)) = true
theorem dform_of {p : Pj} {d : Dm} (h : dformB p d = true) : DForm p d := by
  simp only [dformB, Bool.and_eq_true, List.all_eq_true, decide_eq_true_eq, List.mem_range] at h
  obtain ⟨h0, h1, h2, h3, h4⟩ := h
  refine ⟨h0, h1, h2, h3, (pok_acts h0).1, fun a ha => ?_, fun a ha => ?_, fun a ha => ?_⟩
  all_goals
    have hg := h4 a ha
    simp only [okD, Bool.and_eq_true] at hg
  · exact inB_iff.1 hg.1
  · exact inB_iff.1 hg.2.1
  · exact hg.2.2
/-- The program's way to see a set of numbers from 0 up to n. -/
theorem mem_range {n : Nat} (hn : n ≤ 200) (x : Int) : x ∈ rangeB (n : Int) ↔ 0 ≤ x ∧ x < (n : Int) := by
  rw [rangeB, if_pos (by omega), upB, Int.toNat_natCast, List.mem_map]
  constructor
  · rintro ⟨k, hk, rfl⟩
    have := List.mem_range.1 hk
    omega
  · intro h
    exact ⟨x.toNat, List.mem_range.2 (by omega), by omega⟩
theorem asc_mono {l : List Int} (h : ascB l = true) : ∀ j, (hj : j < l.length) → ∀ i, (hi : i ≤ j) → l[i]'(by omega) ≤ l[j]
  | 0, hj, i, hi => by obtain rfl : i = 0 := by omega
                       exact Int.le_refl _
  | j + 1, hj, i, hi => by
    by_cases e : i = j + 1
    · subst e; exact Int.le_refl _
    have h1 := asc_mono h j (by omega) i (by omega)
    have h2 := ascB_iff.1 h (j + 1) hj (by omega)
    have h3 : j + 1 - 1 = j := by omega
    simp only [h3] at h2
    omega
theorem sub_ends {l : List Int} {n : Nat} (hn : n ≤ 200) (h : ascB l = true) (h0 : 0 < l.length) : subB l (rangeB (n : Int)) = (decide (0 ≤ l[0]) && decide (l[l.length - 1] < (n : Int))) := by
  rw [Bool.eq_iff_iff]
  simp only [subB, List.all_eq_true, Bool.and_eq_true, decide_eq_true_eq, List.contains_iff_mem, mem_range hn]
  constructor
  · intro hs
    exact ⟨(hs _ (List.getElem_mem h0)).1, (hs _ (List.getElem_mem (by omega))).2⟩
  · rintro ⟨h1, h2⟩ x hx
    obtain ⟨j, hj, rfl⟩ := List.getElem_of_mem hx
    have := asc_mono h j hj 0 (by omega)
    have := asc_mono h (l.length - 1) (by omega) j (by omega)
    omega
theorem sub_nil (ys : List Int) : subB [] ys = true := rfl

-- InitialDomain
noncomputable def init1 (p : Pj) : Dm := ⟨List.replicate p.acts.length 0, List.replicate p.acts.length (p.dl - 1), p.acts.map fun a => rangeB (a.ms.length : Int)⟩
noncomputable def initD (p : Pj) : Dm := if pokB p = true then init1 p else ⟨[], [], []⟩
theorem init_no {p : Pj} (h : pokB p = false) : initD p = ⟨[], [], []⟩ := by rw [initD, h]; simp
theorem init_yes {p : Pj} (h : pokB p = true) : initD p = init1 p := by rw [initD, if_pos h]
theorem rep_snoc (x : Int) (k : Nat) : List.replicate k x ++ [x] = List.replicate (k + 1) x := by rw [List.replicate_succ']
theorem take_map_snoc {α β : Type} {f : α → β} {l : List α} {k : Nat} (h : k < l.length) : (l.take k).map f ++ [f l[k]] = (l.take (k + 1)).map f := by
  rw [List.take_succ_eq_append_getElem h, List.map_append]; rfl

-- DomainEmpty
def noneB (l : List Int) : Bool := decide (l.length = 0)
def empD (d : Dm) : Bool := (List.range (min d.mn.length d.mx.length)).any (fun a => decide (mxD d a < mnD d a)) || d.md.any noneB
theorem emp_at {d : Dm} {a : Nat} (h : a < d.mn.length) (h2 : a < d.mx.length) (hb : mxD d a < mnD d a) : empD d = true := by
  have : (List.range (min d.mn.length d.mx.length)).any (fun a => decide (mxD d a < mnD d a)) = true := List.any_eq_true.2 ⟨a, List.mem_range.2 (by omega), by simpa using hb⟩
  rw [empD, this]; rfl
theorem emp_rest {d : Dm} (h : ∀ a, a < d.mn.length → a < d.mx.length → mnD d a ≤ mxD d a) : empD d = d.md.any noneB := by
  have : (List.range (min d.mn.length d.mx.length)).any (fun a => decide (mxD d a < mnD d a)) = false := by
    rw [List.any_eq_false]
    intro a ha
    have ha := List.mem_range.1 ha
    have := h a (by omega) (by omega)
    simp; omega
  rw [empD, this]; rfl
theorem any_at {l : List (List Int)} {k : Nat} (h : k < l.length) (e : l[k].length = 0) : l.any noneB = true := List.any_eq_true.2 ⟨_, List.getElem_mem h, by unfold noneB; simpa using e⟩
theorem any_no {l : List (List Int)} (h : ∀ k, (hk : k < l.length) → ¬ l[k].length = 0) : l.any noneB = false := by
  rw [List.any_eq_false]
  intro x hx
  obtain ⟨k, hk, rfl⟩ := List.getElem_of_mem hx
  unfold noneB
  simpa using h k hk

-- Restrict
def thereD (d : Dm) (a : Int) : Prop := 0 ≤ a ∧ a < (d.mn.length : Int) ∧ a < (d.mx.length : Int) ∧ a < (d.md.length : Int)
instance instDecThere (d : Dm) (a : Int) : Decidable (thereD d a) := by unfold thereD; infer_instance
def restA (d : Dm) (l : Lt) (a : Nat) : Dm :=
  if l.ki = 1 then ⟨d.mn.set a (max (mnD d a) (brT l.va)), d.mx, d.md⟩
  else if l.ki = 2 then ⟨d.mn, d.mx.set a (min (mxD d a) (brT l.va)), d.md⟩
  else if l.ki = 3 then ⟨d.mn, d.mx, d.md.set a (interB (mdD d a) [brT l.va])⟩
  else if l.ki = 4 then ⟨d.mn, d.mx, d.md.set a ((mdD d a).filter fun x => x != brT l.va)⟩
  else d
def restD (d : Dm) (l : Lt) : Dm := if thereD d l.ac then restA d l l.ac.toNat else d
theorem rest_no {d : Dm} {l : Lt} (h : ¬ thereD d l.ac) : restD d l = d := by rw [restD, if_neg h]
theorem rest_yes {d : Dm} {l : Lt} {n : Nat} (h : thereD d (n : Int)) (e : l.ac = (n : Int)) : restD d l = restA d l n := by rw [restD, e, if_pos h, Int.toNat_natCast]
theorem inter_one (m : List Int) (x : Int) : interB [x] m = interB m [x] := by
  refine asc_eq (asc_setB _) (asc_setB _) fun y => ?_
  simp only [interB, mem_setB, List.mem_filter, List.contains_iff_mem, List.mem_singleton]
  constructor
  · rintro ⟨rfl, h⟩; exact ⟨h, rfl⟩
  · rintro ⟨h, rfl⟩; exact ⟨rfl, h⟩
theorem inter_len (m : List Int) (x : Int) : (interB m [x]).length ≤ m.length := Nat.le_trans (len_setB _) (List.length_filter_le _ _)

-- Contains
def contA (d : Dm) (s : Sc) (a : Nat) : Bool := inB (stA s a) (mnD d a) (mxD d a) && hasB (mdD d a) (moA s a)
def contD (d : Dm) (s : Sc) : Bool := decide (s.mo.length = s.st.length) && (decide (d.mn.length = s.st.length) && (decide (d.mx.length = s.st.length) && (decide (d.md.length = s.st.length) && (List.range s.st.length).all (contA d s))))
theorem cont_mo {d : Dm} {s : Sc} (h : ¬ s.mo.length = s.st.length) : contD d s = false := by simp [contD, h]
theorem cont_mn {d : Dm} {s : Sc} (h : ¬ d.mn.length = s.st.length) : contD d s = false := by simp [contD, h]
theorem cont_mx {d : Dm} {s : Sc} (h : ¬ d.mx.length = s.st.length) : contD d s = false := by simp [contD, h]
theorem cont_md {d : Dm} {s : Sc} (h : ¬ d.md.length = s.st.length) : contD d s = false := by simp [contD, h]
theorem cont_at {d : Dm} {s : Sc} {a : Nat} (ha : a < s.st.length) (h : contA d s a = false) : contD d s = false := by
  have : (List.range s.st.length).all (contA d s) = false := by
    rw [List.all_eq_false]
    exact ⟨a, List.mem_range.2 ha, by simp [h]⟩
  simp [contD, this]
theorem cont_yes {d : Dm} {s : Sc} (h0 : s.mo.length = s.st.length) (h1 : d.mn.length = s.st.length) (h2 : d.mx.length = s.st.length) (h3 : d.md.length = s.st.length) (h : ∀ a, a < s.st.length → contA d s a = true) : contD d s = true := by
  have : (List.range s.st.length).all (contA d s) = true := by
    rw [List.all_eq_true]
    exact fun a ha => h a (List.mem_range.1 ha)
  simp [contD, h0, h1, h2, h3, this]
theorem contA_lo {d : Dm} {s : Sc} {a : Nat} (h : stA s a < mnD d a) : contA d s a = false := by rw [contA, inB_no (by omega)]; rfl
theorem contA_hi {d : Dm} {s : Sc} {a : Nat} (h : mxD d a < stA s a) : contA d s a = false := by rw [contA, inB_no (by omega)]; rfl
theorem contA_yes {d : Dm} {s : Sc} {a : Nat} (h1 : mnD d a ≤ stA s a) (h2 : stA s a ≤ mxD d a) : contA d s a = hasB (mdD d a) (moA s a) := by rw [contA, inB_yes ⟨h1, h2⟩]; rfl

-- LiteralValue
def knownB (y n : Bool) : Int := if y = true then 1 else if n = true then -1 else 0
def lvalA (d : Dm) (l : Lt) (a : Nat) : Int :=
  if l.ki = 1 then knownB (decide (l.va ≤ mnD d a)) (decide (mxD d a < l.va))
  else if l.ki = 2 then knownB (decide (mxD d a ≤ l.va)) (decide (l.va < mnD d a))
  else if l.ki = 3 then knownB (eqB (mdD d a) [l.va]) (!hasB (mdD d a) l.va)
  else if l.ki = 4 then knownB (!hasB (mdD d a) l.va) (eqB (mdD d a) [l.va])
  else 1
def lvalD (d : Dm) (l : Lt) : Int := if thereD d l.ac then lvalA d l l.ac.toNat else 1
theorem lval_no {d : Dm} {l : Lt} (h : ¬ thereD d l.ac) : lvalD d l = 1 := by rw [lvalD, if_neg h]
theorem lval_yes {d : Dm} {l : Lt} {n : Nat} (h : thereD d (n : Int)) (e : l.ac = (n : Int)) : lvalD d l = lvalA d l n := by rw [lvalD, e, if_pos h, Int.toNat_natCast]
theorem known_neg (m : List Int) (x : Int) : - knownB (eqB m [x]) (!hasB m x) = knownB (!hasB m x) (eqB m [x]) := by
  rcases he : eqB m [x] with _ | _
  · rcases hh : hasB m x with _ | _ <;> rfl
  · have hm : m = [x] := by simpa [eqB] using he
    subst hm
    have hh : hasB [x] x = true := by simp [hasB]
    rw [hh]
    rfl

-- SingletonDomain
def singD (s : Sc) : Dm := ⟨s.st, s.st, s.mo.map fun m => [m]⟩

-- DomainLiterals
def litsA (p : Pj) (d : Dm) (a : Nat) : List Lt :=
  (if 0 < mnD d a then [⟨1, (a : Int), mnD d a⟩] else []) ++ ((if mxD d a < p.dl - 1 then [⟨2, (a : Int), mxD d a⟩] else []) ++ (diffB (rangeB ((acA p a).length : Int)) (mdD d a)).map fun m => (⟨4, (a : Int), m⟩ : Lt))
def litsK (p : Pj) (d : Dm) : Nat → List Lt
  | 0 => []
  | k + 1 => litsK p d k ++ litsA p d k
noncomputable def litsD (p : Pj) (d : Dm) : List Lt := if dformB p d = true then litsK p d p.acts.length else []
theorem lits_no {p : Pj} {d : Dm} (h : dformB p d = false) : litsD p d = [] := by rw [litsD, h]; simp
theorem lits_yes {p : Pj} {d : Dm} (h : dformB p d = true) : litsD p d = litsK p d p.acts.length := by rw [litsD, if_pos h]

-- DomainSubset
def subA (d e : Dm) (a : Nat) : Bool := decide (mnD e a ≤ mnD d a) && (decide (mxD d a ≤ mxD e a) && subB (mdD d a) (mdD e a))
def lensD (d : Dm) (n : Nat) : Prop := d.mn.length = n ∧ d.mx.length = n ∧ d.md.length = n
instance instDecLens (d : Dm) (n : Nat) : Decidable (lensD d n) := by unfold lensD; infer_instance
def subD (d e : Dm) : Bool := decide (lensD d d.md.length) && (decide (lensD e d.md.length) && (List.range d.md.length).all (subA d e))
theorem subD_l {d e : Dm} (h : ¬ lensD d d.md.length) : subD d e = false := by simp [subD, h]
theorem subD_r {d e : Dm} (h : ¬ lensD e d.md.length) : subD d e = false := by simp [subD, h]
theorem subD_at {d e : Dm} {a : Nat} (ha : a < d.md.length) (h : subA d e a = false) : subD d e = false := by
  have : (List.range d.md.length).all (subA d e) = false := by
    rw [List.all_eq_false]
    exact ⟨a, List.mem_range.2 ha, by simp [h]⟩
  simp [subD, this]
theorem subD_yes {d e : Dm} (h1 : lensD d d.md.length) (h2 : lensD e d.md.length) (h : ∀ a, a < d.md.length → subA d e a = true) : subD d e = true := by
  have : (List.range d.md.length).all (subA d e) = true := by
    rw [List.all_eq_true]
    exact fun a ha => h a (List.mem_range.1 ha)
  simp [subD, h1, h2, this]
theorem subA_lo {d e : Dm} {a : Nat} (h : mnD d a < mnD e a) : subA d e a = false := by
  have : ¬ mnD e a ≤ mnD d a := by omega
  simp [subA, this]
theorem subA_hi {d e : Dm} {a : Nat} (h : mxD e a < mxD d a) : subA d e a = false := by
  have : ¬ mxD d a ≤ mxD e a := by omega
  simp [subA, this]
theorem subA_yes {d e : Dm} {a : Nat} (h1 : mnD e a ≤ mnD d a) (h2 : mxD d a ≤ mxD e a) : subA d e a = subB (mdD d a) (mdD e a) := by simp [subA, h1, h2]

-- DomainEqual
def eqD (d e : Dm) : Bool := eqB d.mn e.mn && (eqB d.mx e.mx && decide (d.md = e.md))
theorem eqRows_no {a b : List (List Int)} {k : Nat} (h1 : k < a.length) (h2 : k < b.length) (h : ¬ a[k] = b[k]) : decide (a = b) = false := by
  rw [decide_eq_false_iff_not]
  rintro rfl
  exact h rfl
theorem eqRows_len {a b : List (List Int)} (h : ¬ a.length = b.length) : decide (a = b) = false := by
  rw [decide_eq_false_iff_not]
  rintro rfl
  exact h rfl
theorem eqRows_yes {a b : List (List Int)} (h : a.length = b.length) (he : ∀ k, (hk : k < a.length) → a[k] = b[k]'(h ▸ hk)) : decide (a = b) = true := decide_eq_true (List.ext_getElem h fun k h1 _ => he k h1)

-- DomainSize
def sizeK (d : Dm) : Nat → Int
  | 0 => 0
  | k + 1 => max (sizeK d k) (brT (mxD d k) - brT (mnD d k) + 1)
def sizeD (d : Dm) : Int := if d.mn.length = d.mx.length then sizeK d d.mn.length else 0
theorem size_no {d : Dm} (h : ¬ d.mn.length = d.mx.length) : sizeD d = 0 := by rw [sizeD, if_neg h]
theorem size_yes {d : Dm} (h : d.mn.length = d.mx.length) : sizeD d = sizeK d d.mn.length := by rw [sizeD, if_pos h]
theorem size_in (d : Dm) : ∀ k, 0 ≤ sizeK d k ∧ sizeK d k ≤ 65
  | 0 => by simp [sizeK]
  | k + 1 => by
    have := size_in d k
    have := br_in (mxD d k)
    have := br_in (mnD d k)
    simp only [sizeK]
    omega
end Go.Proofs.YtdbnhdiboemmiabGreat
