/- DERIVED. Mathematics of chapter 12 (literals). No dump. -/
import Derived.Test.YtdbnhdiboemmiabGreatPrE
namespace Go.Proofs.YtdbnhdiboemmiabGreat
open Go.RowKit
set_option linter.unusedVariables false

def ltV (l : Lt) : Value := .agg #[.int .i64 l.ki, .int .i64 l.ac, .int .i64 l.va]
/-- Whether a literal's value may stand there, its activity having n modes. -/
def ltVal (l : Lt) (n : Int) : Bool :=
  if l.ki = 1 then inB l.va (-1) 61 else if l.ki = 2 then inB l.va (-1) 61 else if l.ki = 3 then inB l.va 0 (n - 1) else if l.ki = 4 then inB l.va 0 (n - 1) else false
noncomputable def litOkB (p : Pj) (l : Lt) : Bool := pokB p && (match atI p.acts l.ac with | some a => ltVal l a.ms.length | none => false)
theorem lit_pok {p : Pj} {l : Lt} (h : pokB p = false) : litOkB p l = false := by rw [litOkB, h]; rfl
theorem lit_none {p : Pj} {l : Lt} (h : ¬ (0 ≤ l.ac ∧ l.ac < (p.acts.length : Int))) : litOkB p l = false := by rw [litOkB, atI_no h]; simp
theorem lit_at {p : Pj} {l : Lt} {n : Nat} (hp : pokB p = true) (h : n < p.acts.length) (e : l.ac = (n : Int)) : litOkB p l = ltVal l p.acts[n].ms.length := by rw [litOkB, hp, e, atI_yes h]; rfl
theorem lit_ok {p : Pj} {l : Lt} (h : litOkB p l = true) : pokB p = true ∧ ∃ n : Nat, ∃ hn : n < p.acts.length, l.ac = (n : Int) ∧ ltVal l p.acts[n].ms.length = true := by
  rcases hp : pokB p with _ | _
  · rw [lit_pok hp] at h; cases h
  refine ⟨rfl, ?_⟩
  by_cases hr : 0 ≤ l.ac ∧ l.ac < (p.acts.length : Int)
  · have hn : l.ac.toNat < p.acts.length := by omega
    refine ⟨l.ac.toNat, hn, by omega, ?_⟩
    rw [← lit_at hp hn (by omega)]; exact h
  · rw [lit_none hr] at h; cases h

theorem ret_bL {a b : Bool} (h : a = b) : Ending.returned (.bool a) = Ending.returned (.bool b) := by rw [h]
theorem ltVal_o {ki ac va n : Int} (h1 : ¬ ki = 1) (h2 : ¬ ki = 2) (h3 : ¬ ki = 3) (h4 : ¬ ki = 4) : ltVal ⟨ki, ac, va⟩ n = false := by simp [ltVal, h1, h2, h3, h4]
def litNone : Lt := ⟨0, 0, 0⟩
def negL (l : Lt) : Lt :=
  if inB l.va (-100000) 100000 = true then
    (if l.ki = 1 then ⟨2, l.ac, l.va - 1⟩ else if l.ki = 2 then ⟨1, l.ac, l.va + 1⟩ else if l.ki = 3 then ⟨4, l.ac, l.va⟩ else if l.ki = 4 then ⟨3, l.ac, l.va⟩ else litNone)
  else litNone
theorem neg_no {l : Lt} (h : ¬ (-100000 ≤ l.va ∧ l.va ≤ 100000)) : negL l = litNone := by rw [negL, inB_no h]; rfl
theorem neg_yes {l : Lt} (h : -100000 ≤ l.va ∧ l.va ≤ 100000) : negL l = (if l.ki = 1 then ⟨2, l.ac, l.va - 1⟩ else if l.ki = 2 then ⟨1, l.ac, l.va + 1⟩ else if l.ki = 3 then ⟨4, l.ac, l.va⟩ else if l.ki = 4 then ⟨3, l.ac, l.va⟩ else litNone) := by rw [negL, inB_yes h]; rfl

def isTrueB (l : Lt) (st mo : Int) : Bool :=
  if l.ki = 1 then decide (l.va ≤ st) else if l.ki = 2 then decide (st ≤ l.va) else if l.ki = 3 then decide (mo = l.va) else if l.ki = 4 then !decide (mo = l.va) else false
def holdB (l : Lt) (s : Sc) : Bool := match amtB s.st l.ac, amtB s.mo l.ac with | some x, some y => isTrueB l x y | _, _ => false
theorem hold_st {l : Lt} {s : Sc} (h : ¬ (0 ≤ l.ac ∧ l.ac < (s.st.length : Int))) : holdB l s = false := by rw [holdB, amt_no h]
theorem hold_mo {l : Lt} {s : Sc} (h : ¬ (0 ≤ l.ac ∧ l.ac < (s.mo.length : Int))) : holdB l s = false := by
  rw [holdB, amt_no h]
  split
  · next h2 => cases h2
  · rfl
theorem hold_yes {l : Lt} {s : Sc} {n : Nat} (h1 : n < s.st.length) (h2 : n < s.mo.length) (e : l.ac = (n : Int)) : holdB l s = isTrueB l s.st[n] s.mo[n] := by rw [holdB, e, amt_yes h1, amt_yes h2]

def sgn (a b : Int) : Int := if a < b then -1 else if b < a then 1 else 0
def cmpLt (a b : Lt) : Int := if a.ac = b.ac then (if a.ki = b.ki then sgn a.va b.va else sgn a.ki b.ki) else sgn a.ac b.ac
theorem sgn_lt {a b : Int} (h : a < b) : sgn a b = -1 := by rw [sgn, if_pos h]
theorem sgn_gt {a b : Int} (h : b < a) : sgn a b = 1 := by rw [sgn, if_neg (by omega), if_pos h]
theorem sgn_eq {a : Int} : sgn a a = 0 := by rw [sgn, if_neg (by omega), if_neg (by omega)]
theorem sgn_zero {a b : Int} : sgn a b = 0 ↔ a = b := by
  unfold sgn
  repeat' split
  all_goals omega
theorem sgn_swap (a b : Int) : sgn a b = - sgn b a := by
  unfold sgn
  repeat' split
  all_goals omega

def ltSigns : List ByteArray := [⟨#[]⟩, ⟨#[62, 61]⟩, ⟨#[60, 61]⟩, ⟨#[61]⟩, ⟨#[33, 61]⟩]
def ltSg (k : Int) : ByteArray := if 0 ≤ k ∧ k ≤ 4 then ltSigns.getD k.toNat ⟨#[]⟩ else ⟨#[]⟩
theorem ltSg_no {k : Int} (h : ¬ (0 ≤ k ∧ k ≤ 4)) : ltSg k = ⟨#[]⟩ := by rw [ltSg, if_neg h]
theorem ltSg_yes {n : Nat} (h : n < ltSigns.length) : ltSg (n : Int) = ltSigns[n] := by
  have h7 : ltSigns.length = 5 := rfl
  rw [ltSg, if_pos (by omega), List.getD, Int.toNat_natCast, List.getElem?_eq_getElem h]; rfl

-- what FnLits asks
theorem neg_neg {l : Lt} (h : -99999 ≤ l.va ∧ l.va ≤ 99999) (hk : 1 ≤ l.ki ∧ l.ki ≤ 4) : negL (negL l) = l := by
  have e : l.ki = 1 ∨ l.ki = 2 ∨ l.ki = 3 ∨ l.ki = 4 := by omega
  obtain ⟨ki, ac, va⟩ := l
  simp only at h e
  rcases e with rfl | rfl | rfl | rfl
  all_goals
    rw [neg_yes (l := ⟨_, ac, va⟩) (by simp only; omega)]
    simp
    rw [neg_yes (by simp only; omega)]
    simp
theorem cmp_swap (a b : Lt) : cmpLt a b = - cmpLt b a := by
  unfold cmpLt
  by_cases h1 : a.ac = b.ac
  · rw [if_pos h1, if_pos h1.symm]
    by_cases h2 : a.ki = b.ki
    · rw [if_pos h2, if_pos h2.symm, sgn_swap]
    · rw [if_neg h2, if_neg (fun e => h2 e.symm), sgn_swap]
  · rw [if_neg h1, if_neg (fun e => h1 e.symm), sgn_swap]
theorem cmp_zero (a b : Lt) : cmpLt a b = 0 ↔ a = b := by
  unfold cmpLt
  rw [lt_ext]
  by_cases h1 : a.ac = b.ac
  · rw [if_pos h1]
    by_cases h2 : a.ki = b.ki
    · rw [if_pos h2, sgn_zero]; simp [h1, h2]
    · rw [if_neg h2, sgn_zero]; simp [h2]
  · rw [if_neg h1, sgn_zero]; simp [h1]
end Go.Proofs.YtdbnhdiboemmiabGreat
