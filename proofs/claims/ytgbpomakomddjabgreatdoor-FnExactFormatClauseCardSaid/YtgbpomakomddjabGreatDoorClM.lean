/- DERIVED. Mathematics of chapter 14 (clauses). No dump. -/
import Derived.Test.YtgbpomakomddjabGreatDoorScLt
import Derived.Test.YtgbpomakomddjabGreatDoorDmG
namespace Go.Proofs.YtgbpomakomddjabGreatDoor
open Go.RowKit
set_option linter.unusedVariables false

-- the order of literals
def LtL (a b : Lt) : Prop := cmpLt a b = -1
instance instDecLtL (a b : Lt) : Decidable (LtL a b) := by unfold LtL; infer_instance
theorem sgn_neg {a b : Int} : sgn a b = -1 ↔ a < b := by
  unfold sgn
  repeat' split
  all_goals omega
theorem ltL_iff {a b : Lt} : LtL a b ↔ a.ac < b.ac ∨ (a.ac = b.ac ∧ (a.ki < b.ki ∨ (a.ki = b.ki ∧ a.va < b.va))) := by
  unfold LtL cmpLt
  by_cases h1 : a.ac = b.ac
  · rw [if_pos h1]
    by_cases h2 : a.ki = b.ki
    · rw [if_pos h2, sgn_neg]; omega
    · rw [if_neg h2, sgn_neg]; omega
  · rw [if_neg h1, sgn_neg]; omega
theorem ltL_irr (a : Lt) : ¬ LtL a a := by rw [ltL_iff]; omega
theorem ltL_trans {a b c : Lt} (h1 : LtL a b) (h2 : LtL b c) : LtL a c := by
  rw [ltL_iff] at *
  omega
theorem ltL_tri (a b : Lt) : LtL a b ∨ a = b ∨ LtL b a := by
  rw [ltL_iff, ltL_iff, lt_ext]
  omega
theorem ltL_not {a b : Lt} (h : ¬ LtL a b) (hne : a ≠ b) : LtL b a := by
  rcases ltL_tri a b with h1 | h1 | h1
  · exact absurd h1 h
  · exact absurd h1 hne
  · exact h1
theorem ltL_asym {a b : Lt} (h : LtL a b) : ¬ LtL b a := fun h2 => ltL_irr a (ltL_trans h h2)
theorem cmp_three (a b : Lt) : cmpLt a b = -1 ∨ cmpLt a b = 0 ∨ cmpLt a b = 1 := by
  unfold cmpLt sgn
  repeat' split
  all_goals omega
theorem cmp_neg {a b : Lt} : cmpLt a b < 0 ↔ LtL a b := by
  unfold LtL
  have := cmp_three a b
  omega
theorem cmp_nonneg {a b : Lt} : 0 ≤ cmpLt a b ↔ ¬ LtL a b := by
  unfold LtL
  have := cmp_three a b
  omega

-- strictly ascending lists
abbrev AscL (l : List Lt) : Prop := l.Pairwise LtL
theorem ascL_eq : ∀ {a b : List Lt}, AscL a → AscL b → (∀ x, x ∈ a ↔ x ∈ b) → a = b
  | [], [], _, _, _ => rfl
  | [], y :: b, _, _, h => absurd ((h y).2 (by simp)) (by simp)
  | x :: a, [], _, _, h => absurd ((h x).1 (by simp)) (by simp)
  | x :: a, y :: b, ha, hb, h => by
    have ha1 := List.pairwise_cons.1 ha
    have hb1 := List.pairwise_cons.1 hb
    have hxy : x = y := by
      have h1 := (h x).1 (by simp)
      have h2 := (h y).2 (by simp)
      rcases List.mem_cons.1 h1 with e | e
      · exact e
      rcases List.mem_cons.1 h2 with e2 | e2
      · exact e2.symm
      exact absurd (ha1.1 y e2) (ltL_asym (hb1.1 x e))
    subst hxy
    congr 1
    refine ascL_eq ha1.2 hb1.2 fun z => ?_
    have hz := h z
    simp only [List.mem_cons] at hz
    constructor
    · intro hm
      rcases hz.1 (.inr hm) with e | e
      · subst e; exact absurd (ha1.1 _ hm) (ltL_irr _)
      · exact e
    · intro hm
      rcases hz.2 (.inr hm) with e | e
      · subst e; exact absurd (hb1.1 _ hm) (ltL_irr _)
      · exact e
def ascLB (l : List Lt) : Bool := decide (∀ j, (h : j < l.length) → 0 < j → LtL l[j - 1] l[j])
theorem ascLB_iff {l : List Lt} : ascLB l = true ↔ ∀ j, (h : j < l.length) → 0 < j → LtL l[j - 1] l[j] := by simp [ascLB]
theorem ascLB_bad {l : List Lt} {j k : Nat} (h : j < l.length) (h0 : 0 < j) (hk : k = j - 1) (hb : ¬ LtL (l[k]'(by omega)) l[j]) : ascLB l = false := by
  subst hk
  rw [ascLB, decide_eq_false_iff_not]
  exact fun hh => hb (hh j h h0)
theorem ascLB_step {l : List Lt} (h : ascLB l = true) : ∀ k i, (hk : i + 1 + k < l.length) → LtL (l[i]'(by omega)) l[i + 1 + k]
  | 0, i, hk => by
    have := ascLB_iff.1 h (i + 1) hk (by omega)
    exact this
  | k + 1, i, hk => by
    have h1 := ascLB_step h k i (by omega)
    have h2 := ascLB_iff.1 h (i + 1 + k + 1) (by omega) (by omega)
    exact ltL_trans h1 h2
theorem ascLB_asc {l : List Lt} : ascLB l = true ↔ AscL l := by
  constructor
  · intro h
    unfold AscL
    rw [List.pairwise_iff_getElem]
    intro i j hi hj hij
    have := ascLB_step h (j - i - 1) i (by omega)
    have e : i + 1 + (j - i - 1) = j := by omega
    simp only [e] at this
    exact this
  · intro h
    unfold AscL at h
    rw [List.pairwise_iff_getElem] at h
    exact ascLB_iff.2 fun j hj h0 => h (j - 1) j (by omega) hj (by omega)

-- NewClause
/-- The place where x goes. -/
def kL : List Lt → Lt → Nat
  | [], _ => 0
  | y :: l, x => if LtL y x then kL l x + 1 else 0
theorem kL_le : ∀ (l : List Lt) (x : Lt), kL l x ≤ l.length
  | [], _ => by simp [kL]
  | y :: l, x => by
    have := kL_le l x
    unfold kL; split <;> simp <;> omega
theorem kL_eq : ∀ (l : List Lt) (n : Lt) (j : Nat), j ≤ l.length → (∀ i, (h : i < l.length) → i < j → LtL l[i] n) → (∀ h : j < l.length, ¬ LtL l[j] n) → kL l n = j
  | [], _, j, hj, _, _ => by simp at hj; simp [kL, hj]
  | x :: l, n, 0, _, _, h2 => by
    have : ¬ LtL x n := h2 (by simp)
    simp [kL, this]
  | x :: l, n, j + 1, hj, h1, h2 => by
    have hx : LtL x n := h1 0 (by simp) (by omega)
    have := kL_eq l n j (Nat.le_of_succ_le_succ hj) (fun i hi hij => h1 (i + 1) (Nat.succ_lt_succ hi) (by omega)) (fun h => h2 (Nat.succ_lt_succ h))
    simp [kL, hx, this]
theorem kL_take : ∀ (l : List Lt) (n x : Lt), x ∈ l.take (kL l n) → LtL x n
  | [], _, _, h => by simp at h
  | y :: l, n, x, h => by
    unfold kL at h
    split at h
    · rename_i hy
      simp only [List.take_succ_cons, List.mem_cons] at h
      rcases h with e | e
      · exact e ▸ hy
      · exact kL_take l n x e
    · simp at h
theorem kL_drop : ∀ (l : List Lt) (n x : Lt), AscL l → x ∈ l.drop (kL l n) → ¬ LtL x n
  | [], _, _, _, h => by simp at h
  | y :: l, n, x, hp, h => by
    have hp1 := List.pairwise_cons.1 hp
    unfold kL at h
    split at h
    · simp only [List.drop_succ_cons] at h
      exact kL_drop l n x hp1.2 h
    · rename_i hy
      simp only [List.drop_zero, List.mem_cons] at h
      rcases h with e | e
      · exact e ▸ hy
      · exact fun hx => hy (ltL_trans (hp1.1 x e) hx)
def putL (l : List Lt) (x : Lt) : List Lt := if x ∈ l then l else l.take (kL l x) ++ [x] ++ l.drop (kL l x)
def newL (l : List Lt) : List Lt := l.foldl putL []
theorem mem_putL (l : List Lt) (n x : Lt) : x ∈ putL l n ↔ x ∈ l ∨ x = n := by
  unfold putL
  split
  · rename_i h
    constructor
    · exact .inl
    · rintro (h2 | rfl)
      · exact h2
      · exact h
  · rw [List.mem_append, List.mem_append, List.mem_singleton]
    conv => rhs; rw [← List.take_append_drop (kL l n) l, List.mem_append]
    constructor
    · rintro ((h | h) | h)
      · exact .inl (.inl h)
      · exact .inr h
      · exact .inl (.inr h)
    · rintro ((h | h) | h)
      · exact .inl (.inl h)
      · exact .inr h
      · exact .inl (.inr h)
theorem asc_putL {l : List Lt} (h : AscL l) (n : Lt) : AscL (putL l n) := by
  unfold putL
  split
  · exact h
  · rename_i hn
    unfold AscL
    rw [List.append_assoc, List.pairwise_append]
    refine ⟨h.sublist (List.take_sublist _ _), ?_, ?_⟩
    · rw [List.singleton_append, List.pairwise_cons]
      refine ⟨fun x hx => ?_, h.sublist (List.drop_sublist _ _)⟩
      exact ltL_not (kL_drop l n x h hx) (fun e => hn (e ▸ List.mem_of_mem_drop hx))
    · intro x hx y hy
      have h1 := kL_take l n x hx
      rw [List.singleton_append, List.mem_cons] at hy
      rcases hy with rfl | hy
      · exact h1
      · exact ltL_trans h1 (ltL_not (kL_drop l n y h hy) (fun e => hn (e ▸ List.mem_of_mem_drop hy)))
theorem newL_snoc (l : List Lt) (n : Lt) : newL (l ++ [n]) = putL (newL l) n := by simp [newL]
theorem foldl_putL (l : List Lt) : ∀ (acc : List Lt), AscL acc → AscL (l.foldl putL acc) ∧ ∀ x, x ∈ l.foldl putL acc ↔ x ∈ acc ∨ x ∈ l := by
  induction l with
  | nil => intro acc h; exact ⟨h, fun x => by simp⟩
  | cons n l ih =>
    intro acc h
    obtain ⟨h1, h2⟩ := ih (putL acc n) (asc_putL h n)
    refine ⟨h1, fun x => ?_⟩
    rw [List.foldl_cons, h2 x, mem_putL, List.mem_cons, or_assoc]
theorem asc_newL (l : List Lt) : AscL (newL l) := (foldl_putL l [] .nil).1
theorem mem_newL (l : List Lt) (x : Lt) : x ∈ newL l ↔ x ∈ l := by
  have := (foldl_putL l [] .nil).2 x
  unfold newL
  simpa only [List.not_mem_nil, false_or] using this
theorem len_putL (l : List Lt) (n : Lt) : (putL l n).length ≤ l.length + 1 := by
  unfold putL; split
  · omega
  · have := kL_le l n
    simp; omega
theorem len_foldL (l : List Lt) : ∀ acc, (l.foldl putL acc).length ≤ acc.length + l.length := by
  induction l with
  | nil => intro acc; simp
  | cons n l ih => intro acc; have := ih (putL acc n); have := len_putL acc n; simp; omega
theorem len_newL (l : List Lt) : (newL l).length ≤ l.length := by
  have := len_foldL l []
  unfold newL
  simpa using this
/-- Whatever sorts and leaves out what is there twice gives it. -/
theorem newL_of {l r : List Lt} (h : AscL r) (hm : ∀ x, x ∈ r ↔ x ∈ l) : r = newL l := ascL_eq h (asc_newL l) fun x => by rw [hm x, mem_newL]
theorem newL_id {l : List Lt} (h : AscL l) : newL l = l := (newL_of h fun _ => Iff.rfl).symm
theorem newL_newL (l : List Lt) : newL (newL l) = newL l := newL_id (asc_newL l)
theorem newL_ext {a b : List Lt} (h : ∀ x, x ∈ a ↔ x ∈ b) : newL a = newL b := newL_of (asc_newL a) fun x => by rw [mem_newL, h x]

-- ClauseOk
noncomputable def clOkB (p : Pj) (l : List Lt) : Bool := decide (l.length ≤ 24) && (l.all (litOkB p) && ascLB l)
theorem clOk_len {p : Pj} {l : List Lt} (h : ¬ l.length ≤ 24) : clOkB p l = false := by simp [clOkB, h]
theorem clOk_at {p : Pj} {l : List Lt} {j : Nat} (hj : j < l.length) (h : litOkB p l[j] = false) : clOkB p l = false := by
  have : l.all (litOkB p) = false := by
    rw [List.all_eq_false]
    exact ⟨_, List.getElem_mem hj, by simp [h]⟩
  simp [clOkB, this]
theorem clOk_asc {p : Pj} {l : List Lt} (h : ascLB l = false) : clOkB p l = false := by simp [clOkB, h]
theorem clOk_yes {p : Pj} {l : List Lt} (h : l.length ≤ 24) (h2 : ∀ j, (hj : j < l.length) → litOkB p l[j] = true) (h3 : ascLB l = true) : clOkB p l = true := by
  have : l.all (litOkB p) = true := by
    rw [List.all_eq_true]
    intro x hx
    obtain ⟨j, hj, rfl⟩ := List.getElem_of_mem hx
    exact h2 j hj
  simp [clOkB, h, this, h3]
structure ClOk (p : Pj) (l : List Lt) : Prop where
  len : l.length ≤ 24
  ok : ∀ x ∈ l, litOkB p x = true
  asc : AscL l
theorem clOk_of {p : Pj} {l : List Lt} (h : clOkB p l = true) : ClOk p l := by
  simp only [clOkB, Bool.and_eq_true, decide_eq_true_eq, List.all_eq_true] at h
  exact ⟨h.1, h.2.1, ascLB_asc.1 h.2.2⟩
theorem clOk_iff {p : Pj} {l : List Lt} : clOkB p l = true ↔ ClOk p l := by
  refine ⟨clOk_of, fun h => ?_⟩
  simp only [clOkB, Bool.and_eq_true, decide_eq_true_eq, List.all_eq_true]
  exact ⟨h.len, h.ok, ascLB_asc.2 h.asc⟩
theorem clOk_nil (p : Pj) : clOkB p [] = true := rfl

-- ClauseHolds
def clHoldB (l : List Lt) (s : Sc) : Bool := l.any fun x => holdB x s
theorem clHold_at {l : List Lt} {s : Sc} {j : Nat} (hj : j < l.length) (h : holdB l[j] s = true) : clHoldB l s = true := List.any_eq_true.2 ⟨_, List.getElem_mem hj, h⟩
theorem clHold_no {l : List Lt} {s : Sc} (h : ∀ j, (hj : j < l.length) → holdB l[j] s = false) : clHoldB l s = false := by
  rw [clHoldB, List.any_eq_false]
  intro x hx
  obtain ⟨j, hj, rfl⟩ := List.getElem_of_mem hx
  simp [h j hj]
theorem clHold_iff {l : List Lt} {s : Sc} : clHoldB l s = true ↔ ∃ x ∈ l, holdB x s = true := by rw [clHoldB, List.any_eq_true]
theorem clHold_new (l : List Lt) (s : Sc) : clHoldB (newL l) s = clHoldB l s := by
  rw [Bool.eq_iff_iff, clHold_iff, clHold_iff]
  simp only [mem_newL]

-- NegatedDomain
noncomputable def negDK (p : Pj) (l : List Lt) (k : Nat) : Dm := (l.take k).foldl (fun d x => restD d (negL x)) (initD p)
noncomputable def negDm (p : Pj) (l : List Lt) : Dm := if pokB p = true then negDK p l l.length else ⟨[], [], []⟩
theorem negDm_no {p : Pj} {l : List Lt} (h : pokB p = false) : negDm p l = ⟨[], [], []⟩ := by rw [negDm, h]; simp
theorem negDm_yes {p : Pj} {l : List Lt} (h : pokB p = true) : negDm p l = negDK p l l.length := by rw [negDm, if_pos h]
theorem negDK_zero (p : Pj) (l : List Lt) : negDK p l 0 = initD p := rfl
theorem negDK_succ {p : Pj} {l : List Lt} {k : Nat} (h : k < l.length) : negDK p l (k + 1) = restD (negDK p l k) (negL l[k]) := by
  rw [negDK, List.take_succ_eq_append_getElem h, List.foldl_append]; rfl

-- ClauseStatus
/-- The literals whose value is 0, of the first k. -/
def openK (d : Dm) (l : List Lt) (k : Nat) : List Lt := (l.take k).filter fun x => decide (lvalD d x = 0)
def statD (d : Dm) (l : List Lt) : Int × Lt :=
  if l.any (fun x => decide (lvalD d x = 1)) = true then (1, litNone)
  else match openK d l l.length with
    | [] => (-1, litNone)
    | [x] => (0, x)
    | _ => (0, litNone)
theorem openK_zero (d : Dm) (l : List Lt) : openK d l 0 = [] := rfl
theorem openK_succ {d : Dm} {l : List Lt} {k : Nat} (h : k < l.length) : openK d l (k + 1) = if lvalD d l[k] = 0 then openK d l k ++ [l[k]] else openK d l k := by
  rw [openK, List.take_succ_eq_append_getElem h, List.filter_append]
  by_cases h0 : lvalD d l[k] = 0
  · rw [if_pos h0, List.filter_cons_of_pos (by simpa using h0)]; rfl
  · rw [if_neg h0, List.filter_cons_of_neg (by simpa using h0), List.filter_nil, List.append_nil]; rfl
theorem stat_one {d : Dm} {l : List Lt} {j : Nat} (hj : j < l.length) (h : lvalD d l[j] = 1) : statD d l = (1, litNone) := by
  rw [statD, if_pos]
  exact List.any_eq_true.2 ⟨_, List.getElem_mem hj, by simpa using h⟩
theorem stat_any {d : Dm} {l : List Lt} (h : ∀ j, (hj : j < l.length) → ¬ lvalD d l[j] = 1) : ¬ l.any (fun x => decide (lvalD d x = 1)) = true := by
  rw [List.any_eq_true]
  rintro ⟨x, hx, h1⟩
  obtain ⟨j, hj, rfl⟩ := List.getElem_of_mem hx
  exact h j hj (by simpa using h1)
theorem stat_rest {d : Dm} {l : List Lt} (h : ∀ j, (hj : j < l.length) → ¬ lvalD d l[j] = 1) : statD d l = (if (openK d l l.length).length = 0 then (-1, litNone) else if (openK d l l.length).length = 1 then (0, (openK d l l.length).getD 0 litNone) else (0, litNone)) := by
  rw [statD, if_neg (stat_any h)]
  rcases openK d l l.length with _ | ⟨x, _ | ⟨y, t⟩⟩
  · rfl
  · rfl
  · simp

-- Resolve
def resLits (a b : List Lt) (l : Lt) : List Lt := (a.filter fun x => x != l) ++ (b.filter fun x => x != negL l)
def resL (a b : List Lt) (l : Lt) : List Lt := newL (resLits a b l)
/-- Resolution preserves truth: wherever l and its negation are not both true. -/
theorem res_holds {a b : List Lt} {l : Lt} {s : Sc} (ha : clHoldB a s = true) (hb : clHoldB b s = true) (hn : ¬ (holdB l s = true ∧ holdB (negL l) s = true)) : clHoldB (resL a b l) s = true := by
  rw [resL, clHold_new, clHold_iff]
  obtain ⟨x, hx, hxs⟩ := clHold_iff.1 ha
  obtain ⟨y, hy, hys⟩ := clHold_iff.1 hb
  by_cases e : x = l
  · by_cases e2 : y = negL l
    · exact absurd ⟨e ▸ hxs, e2 ▸ hys⟩ hn
    · exact ⟨y, by simp [resLits, hy, e2], hys⟩
  · exact ⟨x, by simp [resLits, hx, e], hxs⟩
theorem filter_snoc {α : Type} {f : α → Bool} {l : List α} {k : Nat} (h : k < l.length) : (l.take (k + 1)).filter f = (l.take k).filter f ++ (if f l[k] = true then [l[k]] else []) := by
  rw [List.take_succ_eq_append_getElem h, List.filter_append]
  congr 1
  by_cases h0 : f l[k] = true
  · rw [if_pos h0, List.filter_cons_of_pos h0]; rfl
  · rw [if_neg h0, List.filter_cons_of_neg h0]; rfl

-- ClauseEqual
def eqCl (a b : List Lt) : Bool := decide (a = b)
theorem eqCl_len {a b : List Lt} (h : ¬ a.length = b.length) : eqCl a b = false := by
  rw [eqCl, decide_eq_false_iff_not]
  rintro rfl
  exact h rfl
theorem eqCl_at {a b : List Lt} {k : Nat} (h1 : k < a.length) (h2 : k < b.length) (h : ¬ a[k] = b[k]) : eqCl a b = false := by
  rw [eqCl, decide_eq_false_iff_not]
  rintro rfl
  exact h rfl
theorem eqCl_yes {a b : List Lt} (h : a.length = b.length) (he : ∀ k, (hk : k < a.length) → a[k] = b[k]'(h ▸ hk)) : eqCl a b = true := decide_eq_true (List.ext_getElem h fun k h1 _ => he k h1)

-- WithoutLiteral
def woL (l : List Lt) (a : Int) : List Lt := if 0 ≤ a ∧ a < (l.length : Int) then l.eraseIdx a.toNat else l
theorem woL_no {l : List Lt} {a : Int} (h : ¬ (0 ≤ a ∧ a < (l.length : Int))) : woL l a = l := by rw [woL, if_neg h]
theorem woL_yes {l : List Lt} {n : Nat} (h : n < l.length) : woL l (n : Int) = l.take n ++ l.drop (n + 1) := by
  rw [woL, if_pos (by omega), Int.toNat_natCast, List.eraseIdx_eq_take_drop_succ]
theorem woL_len (l : List Lt) (a : Int) : (woL l a).length ≤ l.length := by
  unfold woL
  split
  · exact List.length_eraseIdx_le _ _
  · exact Nat.le_refl _
theorem woL_snoc {l : List Lt} {k : Nat} (a : Int) (h : k < l.length) : woL (l.take (k + 1)) a = if (k : Int) = a then woL (l.take k) a else woL (l.take k) a ++ [l[k]] := by
  have e1 : (l.take (k + 1)).length = k + 1 := by rw [List.length_take]; omega
  have e0 : (l.take k).length = k := by rw [List.length_take]; omega
  have es := List.take_succ_eq_append_getElem h
  by_cases e : (k : Int) = a
  · rw [if_pos e]
    subst e
    rw [woL_yes (by omega), woL_no (by omega), es, List.take_left' e0, List.drop_eq_nil_of_le (by simp; omega), List.append_nil]
  · rw [if_neg e]
    by_cases hr : 0 ≤ a ∧ a < (k : Int)
    · obtain ⟨n, rfl⟩ : ∃ n : Nat, a = (n : Int) := ⟨a.toNat, by omega⟩
      rw [woL_yes (by omega), woL_yes (by omega), es, List.take_append_of_le_length (by omega), List.drop_append_of_le_length (by omega), List.append_assoc]
    · rw [woL_no (by omega), woL_no (by omega), es]
theorem woL_nil (a : Int) : woL [] a = [] := by
  unfold woL
  split
  · rfl
  · rfl
/-- Where x is there, it is at its place. -/
theorem putL_in {l : List Lt} {x : Lt} {k : Nat} (hk : k < l.length) (e : l[k] = x) : putL l x = l := by
  rw [putL, if_pos]
  exact e ▸ List.getElem_mem hk
theorem putL_new {l : List Lt} {x : Lt} {k : Nat} (ha : AscL l) (hk : k ≤ l.length) (h1 : ∀ i, (h : i < l.length) → i < k → LtL l[i] x) (h2 : ∀ h : k < l.length, ¬ LtL l[k] x) (h3 : ∀ h : k < l.length, ¬ l[k] = x) : putL l x = l.take k ++ [x] ++ l.drop k := by
  have e := kL_eq l x k hk h1 h2
  have hn : ¬ x ∈ l := fun hx => by
    obtain ⟨j, hj, ej⟩ := List.getElem_of_mem hx
    by_cases h : j < k
    · have := h1 j hj h
      rw [ej] at this
      exact ltL_irr x this
    · by_cases h4 : j = k
      · subst h4; exact h3 hj ej
      · have hk2 : k < l.length := by omega
        have := List.pairwise_iff_getElem.1 ha k j hk2 hj (by omega)
        rw [ej] at this
        exact h2 hk2 this
  rw [putL, if_neg hn, e]
end Go.Proofs.YtgbpomakomddjabGreatDoor
