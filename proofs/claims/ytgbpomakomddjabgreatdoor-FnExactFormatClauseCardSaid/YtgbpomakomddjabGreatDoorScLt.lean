/- DERIVED. Mathematics of chapter 12 (literals). No dump. -/
import Derived.Test.YtgbpomakomddjabGreatDoorPrG3

section
namespace Go.Proofs.YtgbpomakomddjabGreatDoor
open Go.RowKit
set_option linter.unusedVariables false

def stA (s : Sc) (a : Nat) : Int := s.st.getD a 0
def moA (s : Sc) (a : Nat) : Int := s.mo.getD a 0
def acA (p : Pj) (a : Nat) : List Md := match p.acts[a]? with | some x => x.ms | none => []
def mdA (p : Pj) (s : Sc) (a : Nat) : Md := ((acA p a)[(moA s a).toNat]?).getD ⟨0, [], []⟩
def endA (p : Pj) (s : Sc) (a : Nat) : Int := stA s a + (mdA p s a).du
def goodA (p : Pj) (s : Sc) (a : Nat) : Bool := inB (stA s a) 0 60 && inB (moA s a) 0 (((acA p a).length : Int) - 1)
noncomputable def formB (p : Pj) (s : Sc) : Bool := pokB p && (decide (s.st.length = p.acts.length) && (decide (s.mo.length = p.acts.length) && (List.range p.acts.length).all (goodA p s)))

theorem stA_at {s : Sc} {a : Nat} (h : a < s.st.length) : stA s a = s.st[a] := by simp [stA, List.getD, List.getElem?_eq_getElem h]
theorem moA_at {s : Sc} {a : Nat} (h : a < s.mo.length) : moA s a = s.mo[a] := by simp [moA, List.getD, List.getElem?_eq_getElem h]
theorem acA_at {p : Pj} {a : Nat} (h : a < p.acts.length) : acA p a = p.acts[a].ms := by simp [acA, List.getElem?_eq_getElem h]

theorem form_bad {p : Pj} {s : Sc} (h : pokB p = false) : formB p s = false := by rw [formB, h]; rfl
theorem form_st {p : Pj} {s : Sc} (h : ¬ s.st.length = p.acts.length) : formB p s = false := by simp [formB, h]
theorem form_mo {p : Pj} {s : Sc} (h : ¬ s.mo.length = p.acts.length) : formB p s = false := by simp [formB, h]
theorem form_at {p : Pj} {s : Sc} {a : Nat} (ha : a < p.acts.length) (h : goodA p s a = false) : formB p s = false := by
  have : (List.range p.acts.length).all (goodA p s) = false := by
    rw [List.all_eq_false]
    exact ⟨a, List.mem_range.2 ha, by simp [h]⟩
  simp [formB, this]
theorem form_yes {p : Pj} {s : Sc} (h0 : pokB p = true) (h1 : s.st.length = p.acts.length) (h2 : s.mo.length = p.acts.length) (h : ∀ a, a < p.acts.length → goodA p s a = true) : formB p s = true := by
  have : (List.range p.acts.length).all (goodA p s) = true := by
    rw [List.all_eq_true]
    exact fun a ha => h a (List.mem_range.1 ha)
  simp [formB, h0, h1, h2, this]
theorem good_st {p : Pj} {s : Sc} {a : Nat} (h : ¬ (0 ≤ stA s a ∧ stA s a ≤ 60)) : goodA p s a = false := by rw [goodA, inB_no h]; rfl
theorem good_mo {p : Pj} {s : Sc} {a : Nat} (h : ¬ (0 ≤ moA s a ∧ moA s a ≤ ((acA p a).length : Int) - 1)) : goodA p s a = false := by rw [goodA, inB_no h]; simp
theorem good_yes {p : Pj} {s : Sc} {a : Nat} (h1 : 0 ≤ stA s a ∧ stA s a ≤ 60) (h2 : 0 ≤ moA s a ∧ moA s a ≤ ((acA p a).length : Int) - 1) : goodA p s a = true := by rw [goodA, inB_yes h1, inB_yes h2]; rfl

/-- What a schedule of the right form gives. -/
structure Form (p : Pj) (s : Sc) : Prop where
  ok : pokB p = true
  h1 : s.st.length = p.acts.length
  h2 : s.mo.length = p.acts.length
  n1 : 1 ≤ p.acts.length
  n6 : p.acts.length ≤ 6
  st : ∀ a, a < p.acts.length → 0 ≤ stA s a ∧ stA s a ≤ 60
  mo : ∀ a, (h : a < p.acts.length) → ∃ j : Nat, ∃ hj : j < p.acts[a].ms.length, moA s a = (j : Int) ∧ mdA p s a = p.acts[a].ms[j]
  md : ∀ a, a < p.acts.length → mokB (mdA p s a) p.ress.length p.stk.length = true
theorem pok_one {p : Pj} (h : pokB p = true) : 1 ≤ p.acts.length := by
  simp only [pokB, Bool.and_eq_true, List.all_eq_true] at h
  have := (inB_iff.1 h.2.1).1
  omega
theorem form_of {p : Pj} {s : Sc} (h : formB p s = true) : Form p s := by
  simp only [formB, Bool.and_eq_true, List.all_eq_true, decide_eq_true_eq, List.mem_range] at h
  obtain ⟨h0, h1, h2, h3⟩ := h
  have hmo : ∀ a, (h : a < p.acts.length) → ∃ j : Nat, ∃ hj : j < p.acts[a].ms.length, moA s a = (j : Int) ∧ mdA p s a = p.acts[a].ms[j] := fun a ha => by
    have hg := h3 a ha
    simp only [goodA, Bool.and_eq_true] at hg
    have hm := inB_iff.1 hg.2
    rw [acA_at ha] at hm
    refine ⟨(moA s a).toNat, by omega, by omega, ?_⟩
    rw [mdA, acA_at ha, List.getElem?_eq_getElem (by omega)]
    rfl
  refine ⟨h0, h1, h2, pok_one h0, (pok_acts h0).1, fun a ha => ?_, hmo, fun a ha => ?_⟩
  · have hg := h3 a ha
    simp only [goodA, Bool.and_eq_true] at hg
    exact inB_iff.1 hg.1
  · obtain ⟨j, hj, _, e⟩ := hmo a ha
    rw [e]
    exact (aok_modes ((pok_acts h0).2 _ (List.getElem_mem ha))).2.1 _ (List.getElem_mem hj)
theorem mok_du {m : Md} {r s : Int} (h : mokB m r s = true) : 1 ≤ m.du ∧ m.du ≤ 12 := by
  simp only [mokB, Bool.and_eq_true] at h
  exact inB_iff.1 h.1
theorem mok_co {m : Md} {r s : Int} (h : mokB m r s = true) : (m.co.length : Int) = s ∧ ∀ x ∈ m.co, inB x 0 20 = true := by
  simp only [mokB, numsB, Bool.and_eq_true, List.all_eq_true, decide_eq_true_eq] at h
  exact ⟨h.2.2.2, h.2.2.1⟩
theorem Form.du {p : Pj} {s : Sc} (h : Form p s) {a : Nat} (ha : a < p.acts.length) : 1 ≤ (mdA p s a).du ∧ (mdA p s a).du ≤ 12 := mok_du (h.md a ha)
theorem Form.en {p : Pj} {s : Sc} (h : Form p s) {a : Nat} (ha : a < p.acts.length) : 1 ≤ endA p s a ∧ endA p s a ≤ 72 := by
  have := h.du ha
  have := h.st a ha
  unfold endA
  omega

-- EndTime, Makespan
noncomputable def endB (p : Pj) (s : Sc) (a : Int) : Int := if formB p s = true ∧ 0 ≤ a ∧ a < (p.acts.length : Int) then endA p s a.toNat else -1
theorem endB_bad {p : Pj} {s : Sc} {a : Int} (h : formB p s = false) : endB p s a = -1 := by rw [endB, h]; simp
theorem endB_out {p : Pj} {s : Sc} {a : Int} (h : ¬ (0 ≤ a ∧ a < (p.acts.length : Int))) : endB p s a = -1 := by rw [endB, if_neg (fun e => h e.2)]
theorem endB_yes {p : Pj} {s : Sc} {a : Nat} (h : formB p s = true) (ha : a < p.acts.length) : endB p s (a : Int) = endA p s a := by rw [endB, if_pos ⟨h, by omega, by omega⟩]; rfl
def lastK (p : Pj) (s : Sc) (c : Int) : Nat → Int
  | 0 => c
  | k + 1 => max (lastK p s c k) (endA p s k)
theorem last_lo {p : Pj} {s : Sc} {c : Int} : ∀ k, c ≤ lastK p s c k
  | 0 => Int.le_refl _
  | k + 1 => by have := last_lo (p := p) (s := s) (c := c) k; rw [lastK]; omega
theorem last_hi {p : Pj} {s : Sc} {c : Int} (hc : c ≤ 72) (h : Form p s) : ∀ k, k ≤ p.acts.length → lastK p s c k ≤ 72
  | 0, _ => hc
  | k + 1, hk => by have := last_hi hc h k (by omega); have := h.en (a := k) (by omega); rw [lastK]; omega
theorem last_same {p : Pj} {s : Sc} (h : Form p s) : ∀ k, k + 1 ≤ p.acts.length → lastK p s (-1) (k + 1) = lastK p s 0 (k + 1)
  | 0, hk => by have := h.en (a := 0) (by omega); simp only [lastK]; omega
  | k + 1, hk => by have := last_same h k (by omega); have e := h.en (a := k + 1) (by omega); rw [lastK, this]; rfl
noncomputable def mkspB (p : Pj) (s : Sc) : Int := if formB p s = true then lastK p s 0 p.acts.length else -1
theorem span_bad {p : Pj} {s : Sc} (h : formB p s = false) : mkspB p s = -1 := by rw [mkspB, h]; simp
theorem span_impl {p : Pj} {s : Sc} (h : formB p s = true) : mkspB p s = lastK p s 0 p.acts.length := by rw [mkspB, if_pos h]
theorem span_spec {p : Pj} {s : Sc} (h : formB p s = true) : mkspB p s = lastK p s (-1) p.acts.length := by
  have f := form_of h
  have := f.n1
  obtain ⟨k, hk⟩ : ∃ k, p.acts.length = k + 1 := ⟨p.acts.length - 1, by omega⟩
  rw [mkspB, if_pos h, hk, last_same f k (by omega)]

-- RunningAt
def runA (p : Pj) (s : Sc) (t : Int) (a : Nat) : Bool := decide (stA s a ≤ t) && decide (t < endA p s a)
def runK (p : Pj) (s : Sc) (t : Int) (k : Nat) : List Int := (List.range k).filterMap fun (a : Nat) => if runA p s t a = true then some (a : Int) else none
theorem runK_zero (p : Pj) (s : Sc) (t : Int) : runK p s t 0 = [] := rfl
theorem runK_succ (p : Pj) (s : Sc) (t : Int) (k : Nat) : runK p s t (k + 1) = runK p s t k ++ if runA p s t k = true then [(k : Int)] else [] := by
  rw [runK, List.range_succ, List.filterMap_append]
  congr 1
  by_cases h : runA p s t k = true <;> simp [h]
theorem runK_yes {p : Pj} {s : Sc} {t : Int} {k : Nat} (h : runA p s t k = true) : runK p s t (k + 1) = runK p s t k ++ [(k : Int)] := by rw [runK_succ, if_pos h]
theorem runK_no {p : Pj} {s : Sc} {t : Int} {k : Nat} (h : runA p s t k = false) : runK p s t (k + 1) = runK p s t k := by rw [runK_succ, h]; simp
theorem runK_len (p : Pj) (s : Sc) (t : Int) (k : Nat) : (runK p s t k).length ≤ k := by
  have := List.length_filterMap_le (fun (a : Nat) => if runA p s t a = true then some (a : Int) else none) (List.range k)
  rw [List.length_range] at this
  exact this
theorem runK_mem {p : Pj} {s : Sc} {t : Int} {k : Nat} {x : Int} (h : x ∈ runK p s t k) : ∃ a : Nat, a < k ∧ x = (a : Int) ∧ runA p s t a = true := by
  simp only [runK, List.mem_filterMap, List.mem_range] at h
  obtain ⟨a, ha, h⟩ := h
  by_cases e : runA p s t a = true
  · rw [if_pos e] at h; exact ⟨a, ha, (Option.some.inj h).symm, e⟩
  · rw [if_neg e] at h; cases h
noncomputable def runL (p : Pj) (s : Sc) (t : Int) : List Int := if formB p s = true then runK p s t p.acts.length else []
theorem runL_bad {p : Pj} {s : Sc} {t : Int} (h : formB p s = false) : runL p s t = [] := by rw [runL, h]; simp
theorem runL_yes {p : Pj} {s : Sc} {t : Int} (h : formB p s = true) : runL p s t = runK p s t p.acts.length := by rw [runL, if_pos h]
theorem runL_len (p : Pj) (s : Sc) (t : Int) : (runL p s t).length ≤ 6 := by
  unfold runL
  split
  · next h => exact Nat.le_trans (runK_len _ _ _ _) (form_of h).n6
  · simp

-- UsageAt, ConsumptionOf
def usA (p : Pj) (s : Sc) (r : Nat) (a : Nat) : Int := (mdA p s a).us.getD r 0
def coA (p : Pj) (s : Sc) (r : Nat) (a : Nat) : Int := (mdA p s a).co.getD r 0
def useK (p : Pj) (s : Sc) (r : Nat) (t : Int) : Nat → Int
  | 0 => 0
  | k + 1 => useK p s r t k + if runA p s t k = true then usA p s r k else 0
theorem useK_yes {p : Pj} {s : Sc} {r : Nat} {t : Int} {k : Nat} (h : runA p s t k = true) : useK p s r t (k + 1) = useK p s r t k + usA p s r k := by rw [useK, if_pos h]
theorem useK_no {p : Pj} {s : Sc} {r : Nat} {t : Int} {k : Nat} (h : runA p s t k = false) : useK p s r t (k + 1) = useK p s r t k := by rw [useK, h]; simp
theorem Form.us {p : Pj} {s : Sc} (h : Form p s) {a r : Nat} (ha : a < p.acts.length) (hr : r < p.ress.length) : (mdA p s a).us.length = p.ress.length ∧ 0 ≤ usA p s r a ∧ usA p s r a ≤ 20 := by
  obtain ⟨hl, hx⟩ := mok_us (h.md a ha)
  have hl' : r < (mdA p s a).us.length := by omega
  refine ⟨by omega, ?_⟩
  have := inB_iff.1 (hx _ (List.getElem_mem hl'))
  rw [usA, List.getD, List.getElem?_eq_getElem hl']
  exact this
theorem Form.co {p : Pj} {s : Sc} (h : Form p s) {a r : Nat} (ha : a < p.acts.length) (hr : r < p.stk.length) : (mdA p s a).co.length = p.stk.length ∧ 0 ≤ coA p s r a ∧ coA p s r a ≤ 20 := by
  obtain ⟨hl, hx⟩ := mok_co (h.md a ha)
  have hl' : r < (mdA p s a).co.length := by omega
  refine ⟨by omega, ?_⟩
  have := inB_iff.1 (hx _ (List.getElem_mem hl'))
  rw [coA, List.getD, List.getElem?_eq_getElem hl']
  exact this
theorem useK_hi {p : Pj} {s : Sc} {r : Nat} {t : Int} (h : Form p s) (hr : r < p.ress.length) : ∀ k, k ≤ p.acts.length → 0 ≤ useK p s r t k ∧ useK p s r t k ≤ 20 * k
  | 0, _ => by simp [useK]
  | k + 1, hk => by
    have i := useK_hi (t := t) h hr k (by omega)
    have u := (h.us (a := k) (by omega) hr).2
    rw [useK]
    split <;> constructor <;> omega
def conK (p : Pj) (s : Sc) (r : Nat) : Nat → Int
  | 0 => 0
  | k + 1 => conK p s r k + coA p s r k
theorem conK_hi {p : Pj} {s : Sc} {r : Nat} (h : Form p s) (hr : r < p.stk.length) : ∀ k, k ≤ p.acts.length → 0 ≤ conK p s r k ∧ conK p s r k ≤ 20 * k
  | 0, _ => by simp [conK]
  | k + 1, hk => by
    have i := conK_hi h hr k (by omega)
    have u := (h.co (a := k) (by omega) hr).2
    rw [conK]
    constructor <;> omega
noncomputable def useB (p : Pj) (s : Sc) (r t : Int) : Int := if formB p s = true ∧ 0 ≤ r ∧ r < (p.ress.length : Int) then useK p s r.toNat t p.acts.length else 0
theorem use_bad {p : Pj} {s : Sc} {r t : Int} (h : formB p s = false) : useB p s r t = 0 := by rw [useB, h]; simp
theorem use_out {p : Pj} {s : Sc} {r t : Int} (h : ¬ (0 ≤ r ∧ r < (p.ress.length : Int))) : useB p s r t = 0 := by rw [useB, if_neg (fun e => h e.2)]
theorem use_yes {p : Pj} {s : Sc} {r : Nat} {t : Int} (h : formB p s = true) (hr : r < p.ress.length) : useB p s (r : Int) t = useK p s r t p.acts.length := by rw [useB, if_pos ⟨h, by omega, by omega⟩]; rfl
noncomputable def conB (p : Pj) (s : Sc) (r : Int) : Int := if formB p s = true ∧ 0 ≤ r ∧ r < (p.stk.length : Int) then conK p s r.toNat p.acts.length else 0
theorem con_bad {p : Pj} {s : Sc} {r : Int} (h : formB p s = false) : conB p s r = 0 := by rw [conB, h]; simp
theorem con_out {p : Pj} {s : Sc} {r : Int} (h : ¬ (0 ≤ r ∧ r < (p.stk.length : Int))) : conB p s r = 0 := by rw [conB, if_neg (fun e => h e.2)]
theorem con_yes {p : Pj} {s : Sc} {r : Nat} (h : formB p s = true) (hr : r < p.stk.length) : conB p s (r : Int) = conK p s r p.acts.length := by rw [conB, if_pos ⟨h, by omega, by omega⟩]; rfl
/-- The sum over the running ones, taken from their list. -/
def sumUs (p : Pj) (s : Sc) (r : Nat) (l : List Int) : Int := (l.map fun x => usA p s r x.toNat).sum
theorem sumUs_run (p : Pj) (s : Sc) (r : Nat) (t : Int) : ∀ k, sumUs p s r (runK p s t k) = useK p s r t k
  | 0 => rfl
  | k + 1 => by
    have i := sumUs_run p s r t k
    by_cases h : runA p s t k = true
    · rw [runK_yes h, useK_yes h, ← i]
      simp [sumUs]
    · rw [runK_no (by simpa using h), useK_no (by simpa using h), i]
theorem sumUs_take {p : Pj} {s : Sc} {r : Nat} {l : List Int} {j : Nat} (h : j < l.length) : sumUs p s r (l.take (j + 1)) = sumUs p s r (l.take j) + usA p s r l[j].toNat := by
  rw [sumUs, List.take_add_one, List.getElem?_eq_getElem h, List.map_append, List.sum_append]
  show _ + (usA p s r l[j].toNat + 0) = _
  rw [Int.add_zero]
  rfl
theorem sumUs_hi {p : Pj} {s : Sc} {r : Nat} {t : Int} (h : Form p s) (hr : r < p.ress.length) : ∀ j, j ≤ (runK p s t p.acts.length).length → 0 ≤ sumUs p s r ((runK p s t p.acts.length).take j) ∧ sumUs p s r ((runK p s t p.acts.length).take j) ≤ 20 * j
  | 0, _ => by simp [sumUs]
  | j + 1, hj => by
    have i := sumUs_hi (t := t) h hr j (by omega)
    rw [sumUs_take (by omega)]
    obtain ⟨a, ha, e, _⟩ := runK_mem (List.getElem_mem (l := runK p s t p.acts.length) (n := j) (by omega))
    have u := (h.us ha hr).2
    rw [e]
    simp only [Int.toNat_natCast]
    constructor <;> omega
end Go.Proofs.YtgbpomakomddjabGreatDoor
end

section
namespace Go.Proofs.YtgbpomakomddjabGreatDoor
open Go.RowKit
set_option linter.unusedVariables false

def ltV (l : Lt) : Value := .agg #[.int .i64 l.ki, .int .i64 l.ac, .int .i64 l.va]
/-- Whether a literal's value may stand there, its activity having n modes. -/
def ltVal (l : Lt) (n : Int) : Bool :=
  if l.ki = 1 then inB l.va (-1) 61 else if l.ki = 2 then inB l.va (-1) 61 else if l.ki = 3 then inB l.va 0 (n - 1) else if l.ki = 4 then inB l.va 0 (n - 1) else false
noncomputable def litOkB (p : Pj) (l : Lt) : Bool := pokB p && (match atI p.acts l.ac with | some a => ltVal l a.ms.length | none => false)
theorem lit_pok {p : Pj} {l : Lt} (h : pokB p = false) : litOkB p l = false := by rw [litOkB, h]; rfl
theorem lit_none {p : Pj} {l : Lt} (h : ¬ (0 ≤ l.ac ∧ l.ac < (p.acts.length : Int))) : litOkB p l = false := by rw [litOkB, atI_no h]; simp
theorem lit_at {p : Pj} {l : Lt} {n : Nat} (hp : pokB p = true) (h : n < p.acts.length) (e : l.ac = (n : Int)) : litOkB p l = ltVal l p.acts[n].ms.length := by rw [litOkB, hp, e, atI_yes h]; rfl
theorem lit_ok {p : Pj} {l : Lt} (h : litOkB p l = true) : pokB p = true ∧ ∃ n : Nat, ∃ hn : n < p.acts.length, l.ac = (n : Int) ∧ ltVal l p.acts[n].ms.length = true := by
  rcases hp : pokB p with _ | _
  · rw [lit_pok hp] at h; cases h
  refine ⟨rfl, ?_⟩
  by_cases hr : 0 ≤ l.ac ∧ l.ac < (p.acts.length : Int)
  · have hn : l.ac.toNat < p.acts.length := by omega
    refine ⟨l.ac.toNat, hn, by omega, ?_⟩
    rw [← lit_at hp hn (by omega)]; exact h
  · rw [lit_none hr] at h; cases h

theorem ret_bL {a b : Bool} (h : a = b) : Ending.returned (.bool a) = Ending.returned (.bool b) := by rw [h]
theorem ltVal_o {ki ac va n : Int} (h1 : ¬ ki = 1) (h2 : ¬ ki = 2) (h3 : ¬ ki = 3) (h4 : ¬ ki = 4) : ltVal ⟨ki, ac, va⟩ n = false := by simp [ltVal, h1, h2, h3, h4]
def litNone : Lt := ⟨0, 0, 0⟩
def negL (l : Lt) : Lt :=
  if inB l.va (-100000) 100000 = true then
    (if l.ki = 1 then ⟨2, l.ac, l.va - 1⟩ else if l.ki = 2 then ⟨1, l.ac, l.va + 1⟩ else if l.ki = 3 then ⟨4, l.ac, l.va⟩ else if l.ki = 4 then ⟨3, l.ac, l.va⟩ else litNone)
  else litNone
theorem neg_no {l : Lt} (h : ¬ (-100000 ≤ l.va ∧ l.va ≤ 100000)) : negL l = litNone := by rw [negL, inB_no h]; rfl
theorem neg_yes {l : Lt} (h : -100000 ≤ l.va ∧ l.va ≤ 100000) : negL l = (if l.ki = 1 then ⟨2, l.ac, l.va - 1⟩ else if l.ki = 2 then ⟨1, l.ac, l.va + 1⟩ else if l.ki = 3 then ⟨4, l.ac, l.va⟩ else if l.ki = 4 then ⟨3, l.ac, l.va⟩ else litNone) := by rw [negL, inB_yes h]; rfl

def isTrueB (l : Lt) (st mo : Int) : Bool :=
  if l.ki = 1 then decide (l.va ≤ st) else if l.ki = 2 then decide (st ≤ l.va) else if l.ki = 3 then decide (mo = l.va) else if l.ki = 4 then !decide (mo = l.va) else false
def holdB (l : Lt) (s : Sc) : Bool := match amtB s.st l.ac, amtB s.mo l.ac with | some x, some y => isTrueB l x y | _, _ => false
theorem hold_st {l : Lt} {s : Sc} (h : ¬ (0 ≤ l.ac ∧ l.ac < (s.st.length : Int))) : holdB l s = false := by rw [holdB, amt_no h]
theorem hold_mo {l : Lt} {s : Sc} (h : ¬ (0 ≤ l.ac ∧ l.ac < (s.mo.length : Int))) : holdB l s = false := by
  rw [holdB, amt_no h]
  split
  · next h2 => cases h2
  · rfl
theorem hold_yes {l : Lt} {s : Sc} {n : Nat} (h1 : n < s.st.length) (h2 : n < s.mo.length) (e : l.ac = (n : Int)) : holdB l s = isTrueB l s.st[n] s.mo[n] := by rw [holdB, e, amt_yes h1, amt_yes h2]

def sgn (a b : Int) : Int := if a < b then -1 else if b < a then 1 else 0
def cmpLt (a b : Lt) : Int := if a.ac = b.ac then (if a.ki = b.ki then sgn a.va b.va else sgn a.ki b.ki) else sgn a.ac b.ac
theorem sgn_lt {a b : Int} (h : a < b) : sgn a b = -1 := by rw [sgn, if_pos h]
theorem sgn_gt {a b : Int} (h : b < a) : sgn a b = 1 := by rw [sgn, if_neg (by omega), if_pos h]
theorem sgn_eq {a : Int} : sgn a a = 0 := by rw [sgn, if_neg (by omega), if_neg (by omega)]
theorem sgn_zero {a b : Int} : sgn a b = 0 ↔ a = b := by
  unfold sgn
  repeat' split
  all_goals omega
theorem sgn_swap (a b : Int) : sgn a b = - sgn b a := by
  unfold sgn
  repeat' split
  all_goals omega

def ltSigns : List ByteArray := [⟨#[]⟩, ⟨#[62, 61]⟩, ⟨#[60, 61]⟩, ⟨#[61]⟩, ⟨#[33, 61]⟩]
def ltSg (k : Int) : ByteArray := if 0 ≤ k ∧ k ≤ 4 then ltSigns.getD k.toNat ⟨#[]⟩ else ⟨#[]⟩
theorem ltSg_no {k : Int} (h : ¬ (0 ≤ k ∧ k ≤ 4)) : ltSg k = ⟨#[]⟩ := by rw [ltSg, if_neg h]
theorem ltSg_yes {n : Nat} (h : n < ltSigns.length) : ltSg (n : Int) = ltSigns[n] := by
  have h7 : ltSigns.length = 5 := rfl
  rw [ltSg, if_pos (by omega), List.getD, Int.toNat_natCast, List.getElem?_eq_getElem h]; rfl

-- what FnLits asks
theorem neg_neg {l : Lt} (h : -99999 ≤ l.va ∧ l.va ≤ 99999) (hk : 1 ≤ l.ki ∧ l.ki ≤ 4) : negL (negL l) = l := by
  have e : l.ki = 1 ∨ l.ki = 2 ∨ l.ki = 3 ∨ l.ki = 4 := by omega
  obtain ⟨ki, ac, va⟩ := l
  simp only at h e
  rcases e with rfl | rfl | rfl | rfl
  all_goals
    rw [neg_yes (l := ⟨_, ac, va⟩) (by simp only; omega)]
    simp
    rw [neg_yes (by simp only; omega)]
    simp
theorem cmp_swap (a b : Lt) : cmpLt a b = - cmpLt b a := by
  unfold cmpLt
  by_cases h1 : a.ac = b.ac
  · rw [if_pos h1, if_pos h1.symm]
    by_cases h2 : a.ki = b.ki
    · rw [if_pos h2, if_pos h2.symm, sgn_swap]
    · rw [if_neg h2, if_neg (fun e => h2 e.symm), sgn_swap]
  · rw [if_neg h1, if_neg (fun e => h1 e.symm), sgn_swap]
theorem cmp_zero (a b : Lt) : cmpLt a b = 0 ↔ a = b := by
  unfold cmpLt
  rw [lt_ext]
  by_cases h1 : a.ac = b.ac
  · rw [if_pos h1]
    by_cases h2 : a.ki = b.ki
    · rw [if_pos h2, sgn_zero]; simp [h1, h2]
    · rw [if_neg h2, sgn_zero]; simp [h2]
  · rw [if_neg h1, sgn_zero]; simp [h1]
end Go.Proofs.YtgbpomakomddjabGreatDoor
end
