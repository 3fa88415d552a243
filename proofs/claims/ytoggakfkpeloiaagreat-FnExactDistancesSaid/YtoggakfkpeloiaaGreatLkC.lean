/- DERIVED. MATHEMATICS of the search for a positive cycle: the program's search by hand and the model's by recursion give the same cycle. -/
import Derived.Test.YtoggakfkpeloiaaGreatLkM
namespace Go.Proofs.YtoggakfkpeloiaaGreat
open Go.RowKit
set_option linter.unusedVariables false

def up (l : List Nat) : List Int := l.map fun (n : Nat) => (n : Int)
theorem up_snoc (l : List Nat) (k : Nat) : up (l ++ [k]) = up l ++ [(k : Int)] := by simp [up]
theorem up_len (l : List Nat) : (up l).length = l.length := by simp [up]
theorem up_at {l : List Nat} {i : Nat} (h : i < l.length) : (up l)[i]'(by rw [up_len]; exact h) = (l[i] : Int) := by simp [up]
def frA (ls : List Lk) (k : Nat) : Int := match ls[k]? with | some l => l.fr | none => 0
def toA (ls : List Lk) (k : Nat) : Int := match ls[k]? with | some l => l.to | none => 0
theorem frA_yes {ls : List Lk} {k : Nat} (h : k < ls.length) : frA ls k = ls[k].fr := by rw [frA, List.getElem?_eq_getElem h]
theorem toA_yes {ls : List Lk} {k : Nat} (h : k < ls.length) : toA ls k = ls[k].to := by rw [toA, List.getElem?_eq_getElem h]
def sumG (G : List Int) (chain : List Nat) : Int := chain.foldl (fun s k => wrap64 (s + G.getD k 0)) 0
theorem sumG_take {G : List Int} {chain : List Nat} {j : Nat} (h : j < chain.length) : sumG G (chain.take (j + 1)) = wrap64 (sumG G (chain.take j) + G.getD chain[j] 0) := by
  rw [sumG, List.take_succ_eq_append_getElem h, List.foldl_append]; rfl
def leavesB (ls : List Lk) (chain : List Nat) (y : Int) : Bool := chain.any fun x => decide (frA ls x = y)
def folB (ls : List Lk) (c : Nat) (chain : List Nat) (k : Nat) : Bool :=
  match chain with
  | [] => true
  | c0 :: _ => decide (frA ls k = toA ls (chain.getLastD 0)) && (if chain.length + 1 = c then decide (toA ls k = frA ls c0) else !(leavesB ls chain (toA ls k)))
theorem folB_cons (ls : List Lk) (c c0 : Nat) (cs : List Nat) (k : Nat) : folB ls c (c0 :: cs) k = (decide (frA ls k = toA ls ((c0 :: cs).getLastD 0)) && (if (c0 :: cs).length + 1 = c then decide (toA ls k = frA ls c0) else !(leavesB ls (c0 :: cs) (toA ls k)))) := rfl
def loC : List Nat → Nat
  | [] => 0
  | c0 :: _ => c0 + 1
theorem loC_snoc (chain : List Nat) (k : Nat) (h : chain ≠ []) : loC (chain ++ [k]) = loC chain := by
  cases chain with
  | nil => exact absurd rfl h
  | cons _ _ => rfl

def srch (ls : List Lk) (G : List Int) (c : Nat) : Nat → List Nat → Option (List Nat)
  | 0, _ => none
  | d + 1, chain => (List.range' (loC chain) (ls.length - loC chain)).findSome? fun k =>
      if folB ls c chain k = true then (if chain.length + 1 = c then (if 0 < sumG G (chain ++ [k]) then some (chain ++ [k]) else none) else srch ls G c d (chain ++ [k])) else none
def tryK (ls : List Lk) (G : List Int) (c : Nat) (chain : List Nat) (k : Nat) : Option (List Nat) :=
  if folB ls c chain k = true then (if chain.length + 1 = c then (if 0 < sumG G (chain ++ [k]) then some (chain ++ [k]) else none) else srch ls G c (c - (chain.length + 1)) (chain ++ [k])) else none
def resK (ls : List Lk) (G : List Int) (c : Nat) (chain : List Nat) (k : Nat) : Option (List Nat) := (List.range' k (ls.length - k)).findSome? (tryK ls G c chain)
theorem srch_eq {ls : List Lk} {G : List Int} {c : Nat} {chain : List Nat} (h : chain.length < c) : srch ls G c (c - chain.length) chain = resK ls G c chain (loC chain) := by
  obtain ⟨d, hd⟩ : ∃ d, c - chain.length = d + 1 := ⟨c - chain.length - 1, by omega⟩
  rw [hd, srch, resK]
  congr 1
  funext k
  rw [tryK, show c - (chain.length + 1) = d by omega]
theorem resK_step {ls : List Lk} {G : List Int} {c : Nat} {chain : List Nat} {k : Nat} (h : k < ls.length) : resK ls G c chain k = (tryK ls G c chain k).or (resK ls G c chain (k + 1)) := by
  rw [resK, show ls.length - k = (ls.length - (k + 1)) + 1 by omega, List.range'_succ, List.findSome?_cons]
  cases tryK ls G c chain k <;> rfl
theorem resK_done {ls : List Lk} {G : List Int} {c : Nat} {chain : List Nat} {k : Nat} (h : ls.length ≤ k) : resK ls G c chain k = none := by
  rw [resK, show ls.length - k = 0 by omega]; rfl
/-- What is still to come: the chain stands turned round. -/
def contR (ls : List Lk) (G : List Int) (c : Nat) : List Nat → Nat → Option (List Nat)
  | [], k => resK ls G c [] k
  | x :: rc, k => (resK ls G c (x :: rc).reverse k).or (contR ls G c rc (x + 1))
def contC (ls : List Lk) (G : List Int) (c : Nat) (chain : List Nat) (k : Nat) : Option (List Nat) := contR ls G c chain.reverse k
theorem contR_eq (ls : List Lk) (G : List Int) (c : Nat) (rc : List Nat) (k : Nat) : contR ls G c rc k = (resK ls G c rc.reverse k).or (match rc with | [] => none | x :: rc => contR ls G c rc (x + 1)) := by
  cases rc with
  | nil => rw [contR]; simp
  | cons x rc => rw [contR]
theorem cont_step {ls : List Lk} {G : List Int} {c : Nat} {chain : List Nat} {k : Nat} (h : k < ls.length) : contC ls G c chain k = (tryK ls G c chain k).or (contC ls G c chain (k + 1)) := by
  rw [contC, contC, contR_eq, contR_eq _ _ _ _ (k + 1), List.reverse_reverse, resK_step h, Option.or_assoc]
theorem cont_skip {ls : List Lk} {G : List Int} {c : Nat} {chain : List Nat} {k : Nat} (h : k < ls.length) (hf : folB ls c chain k = false) : contC ls G c chain k = contC ls G c chain (k + 1) := by
  rw [cont_step h, tryK, if_neg (by rw [hf]; simp)]; rfl
theorem cont_push {ls : List Lk} {G : List Int} {c : Nat} {chain : List Nat} {k : Nat} (h : k < ls.length) (hf : folB ls c chain k = true) (hc : chain.length + 1 < c) : contC ls G c chain k = contC ls G c (chain ++ [k]) (loC (chain ++ [k])) := by
  rw [cont_step h, tryK, if_pos hf, if_neg (by omega)]
  have hs := srch_eq (ls := ls) (G := G) (c := c) (chain := chain ++ [k]) (by simpa using hc)
  rw [List.length_append, List.length_singleton] at hs
  rw [hs, contC, contC, List.reverse_append, List.reverse_singleton, List.singleton_append, contR_eq _ _ _ (k :: _)]
  simp
theorem cont_found {ls : List Lk} {G : List Int} {c : Nat} {chain : List Nat} {k : Nat} (h : k < ls.length) (hf : folB ls c chain k = true) (hc : chain.length + 1 = c) (hs : 0 < sumG G (chain ++ [k])) : contC ls G c chain k = some (chain ++ [k]) := by
  rw [cont_step h, tryK, if_pos hf, if_pos hc, if_pos hs]; rfl
theorem cont_poor {ls : List Lk} {G : List Int} {c : Nat} {chain : List Nat} {k : Nat} (h : k < ls.length) (hf : folB ls c chain k = true) (hc : chain.length + 1 = c) (hs : ¬ 0 < sumG G (chain ++ [k])) : contC ls G c chain k = contC ls G c chain (k + 1) := by
  rw [cont_step h, tryK, if_pos hf, if_pos hc, if_neg hs]; rfl
theorem cont_pop {ls : List Lk} {G : List Int} {c : Nat} {chain : List Nat} {x k : Nat} (h : ls.length ≤ k) : contC ls G c (chain ++ [x]) k = contC ls G c chain (x + 1) := by
  rw [contC, contC, List.reverse_append, List.reverse_singleton, List.singleton_append, contR_eq, resK_done h]; simp
theorem cont_none {ls : List Lk} {G : List Int} {c : Nat} {k : Nat} (h : ls.length ≤ k) : contC ls G c [] k = none := by
  rw [contC, List.reverse_nil, contR, resK_done h]

/-- How far the program's search has come: it falls at each push and at each pop. -/
def digs (nl c : Nat) : List Nat → Nat
  | [] => 0
  | x :: rc => (nl - x - 1) * (nl + 1) ^ (c - rc.length) + digs nl c rc
def mu (nl c : Nat) (chain : List Nat) (k : Nat) : Nat := (digs nl c chain.reverse + (nl - k) * (nl + 1) ^ (c - chain.length)) * (c + 1) + chain.length
theorem mu_push {nl c : Nat} {chain : List Nat} {k0 k k' : Nat} (h0 : k0 ≤ k) (h : k < nl) (hc : chain.length + 1 < c) : mu nl c (chain ++ [k]) k' < mu nl c chain k0 := by
  rw [mu, mu, List.reverse_append, List.reverse_singleton, List.singleton_append, digs, List.length_append, List.length_singleton, List.length_reverse]
  obtain ⟨e, he⟩ : ∃ e, c - chain.length = e + 2 := ⟨c - chain.length - 2, by omega⟩
  rw [he, show c - (chain.length + 1) = e + 1 by omega]
  have h1 : (nl - k') * (nl + 1) ^ (e + 1) ≤ nl * (nl + 1) ^ (e + 1) := Nat.mul_le_mul_right _ (by omega)
  have h2 : (nl + 1) ^ (e + 2) = nl * (nl + 1) ^ (e + 1) + (nl + 1) ^ (e + 1) := by rw [Nat.pow_succ (n := nl + 1) (m := e + 1), Nat.mul_add, Nat.mul_one, Nat.mul_comm]
  have h3 : 0 < (nl + 1) ^ (e + 1) := Nat.pow_pos (by omega)
  have h4 : (nl - k - 1) * (nl + 1) ^ (e + 2) + (nl + 1) ^ (e + 2) ≤ (nl - k0) * (nl + 1) ^ (e + 2) := by
    have : nl - k - 1 + 1 ≤ nl - k0 := by omega
    calc (nl - k - 1) * (nl + 1) ^ (e + 2) + (nl + 1) ^ (e + 2) = (nl - k - 1 + 1) * (nl + 1) ^ (e + 2) := by rw [Nat.add_mul, Nat.one_mul]
      _ ≤ _ := Nat.mul_le_mul_right _ this
  generalize digs nl c chain.reverse = D at *
  generalize (nl - k - 1) * (nl + 1) ^ (e + 2) = A at *
  generalize (nl - k') * (nl + 1) ^ (e + 1) = B at *
  generalize (nl - k0) * (nl + 1) ^ (e + 2) = C at *
  generalize nl * (nl + 1) ^ (e + 1) = M at *
  generalize (nl + 1) ^ (e + 1) = P at *
  generalize (nl + 1) ^ (e + 2) = Q at *
  have h5 : A + D + B + 1 ≤ D + C := by omega
  have h6 : (A + D + B) * (c + 1) + (c + 1) ≤ (D + C) * (c + 1) := by
    calc (A + D + B) * (c + 1) + (c + 1) = (A + D + B + 1) * (c + 1) := by rw [Nat.add_mul (A + D + B) 1, Nat.one_mul]
      _ ≤ _ := Nat.mul_le_mul_right _ h5
  omega
theorem mu_pop {nl c : Nat} {chain : List Nat} {x k : Nat} : mu nl c chain (x + 1) < mu nl c (chain ++ [x]) k := by
  rw [mu, mu, List.reverse_append, List.reverse_singleton, List.singleton_append, digs, List.length_append, List.length_singleton, List.length_reverse, show nl - (x + 1) = nl - x - 1 by omega]
  have : (digs nl c chain.reverse + (nl - x - 1) * (nl + 1) ^ (c - chain.length)) * (c + 1) ≤ ((nl - x - 1) * (nl + 1) ^ (c - chain.length) + digs nl c chain.reverse + (nl - k) * (nl + 1) ^ (c - (chain.length + 1))) * (c + 1) :=
    Nat.mul_le_mul_right _ (by omega)
  omega

/-- The model's search, by recursion. -/
def ringS (ls : List Lk) (G : List Int) : Nat → List Nat → Option (List Nat)
  | 0, way => if toA ls (way.getLastD 0) = frA ls (way.headD 0) then (if 0 < sumG G way then some way else none) else none
  | f + 1, way => if toA ls (way.getLastD 0) = frA ls (way.headD 0) then none
      else if (way.dropLast.any fun x => decide (toA ls x = toA ls (way.getLastD 0))) = true then none
      else (List.range ls.length).findSome? fun k => if frA ls k = toA ls (way.getLastD 0) ∧ way.headD 0 < k then ringS ls G f (way ++ [k]) else none
inductive Lnk (ls : List Lk) : List Nat → Prop where
  | one (k : Nat) : Lnk ls [k]
  | more {chain : List Nat} {k : Nat} : Lnk ls chain → frA ls k = toA ls (chain.getLastD 0) → Lnk ls (chain ++ [k])
theorem lastD_snoc (l : List Nat) (k : Nat) : (l ++ [k]).getLastD 0 = k := by rw [List.getLastD_eq_getLast?, List.getLast?_append]; simp
theorem lnk_ne {ls : List Lk} {chain : List Nat} (h : Lnk ls chain) : chain ≠ [] := by cases h <;> simp
theorem last_drop {chain : List Nat} (h : chain ≠ []) : chain.dropLast ++ [chain.getLastD 0] = chain := by
  rw [List.getLastD_eq_getLast?, List.getLast?_eq_some_getLast h]
  exact List.dropLast_concat_getLast h
theorem lnk_leaves {ls : List Lk} {chain : List Nat} (h : Lnk ls chain) (y : Int) : leavesB ls chain y = (decide (frA ls (chain.headD 0) = y) || chain.dropLast.any fun x => decide (toA ls x = y)) := by
  induction h with
  | one k => simp [leavesB]
  | @more chain k hl hk ih =>
    have hne := lnk_ne hl
    have h1 : leavesB ls (chain ++ [k]) y = (leavesB ls chain y || decide (frA ls k = y)) := by simp [leavesB]
    have h2 : (chain ++ [k]).headD 0 = chain.headD 0 := by cases chain; exact absurd rfl hne; rfl
    have h3 : (chain ++ [k]).dropLast = chain := by simp
    have h4 : (chain.any fun x => decide (toA ls x = y)) = ((chain.dropLast.any fun x => decide (toA ls x = y)) || decide (toA ls (chain.getLastD 0) = y)) := by
      rw [← last_drop hne]; simp
    rw [h1, h2, h3, h4, ih, hk, Bool.or_assoc]
theorem findSome_congr {α β : Type} {l : List α} {f g : α → Option β} (h : ∀ x ∈ l, f x = g x) : l.findSome? f = l.findSome? g := by
  induction l with
  | nil => rfl
  | cons x l ih => rw [List.findSome?_cons, List.findSome?_cons, h x (by simp), ih fun y hy => h y (by simp [hy])]
theorem find_shift (n m : Nat) (f : Nat → Option (List Nat)) : (List.range n).findSome? (fun k => if m < k then f k else none) = (List.range' (m + 1) (n - (m + 1))).findSome? f := by
  induction n with
  | zero => simp
  | succ n ih =>
    rw [List.range_succ, List.findSome?_append, ih]
    by_cases h : m < n
    · rw [show n + 1 - (m + 1) = (n - (m + 1)) + 1 by omega, List.range'_concat, List.findSome?_append]
      congr 1
      simp [h, show m + 1 + (n - (m + 1)) = n by omega]
    · rw [show n + 1 - (m + 1) = 0 by omega, show n - (m + 1) = 0 by omega]
      simp [h]
/-- Along a linked chain the two searches go the same ways. -/
theorem ring_srch {ls : List Lk} {G : List Int} {c : Nat} (hv : ∀ k, k < ls.length → frA ls k ≠ toA ls k) : ∀ (d : Nat) (chain : List Nat), Lnk ls chain → chain.length + d + 1 = c →
    srch ls G c (d + 1) chain = (List.range ls.length).findSome? fun k => if frA ls k = toA ls (chain.getLastD 0) ∧ chain.headD 0 < k then ringS ls G d (chain ++ [k]) else none := by
  intro d
  induction d with
  | zero =>
    intro chain hl hc
    obtain ⟨c0, cs, rfl⟩ : ∃ c0 cs, chain = c0 :: cs := by cases chain; exact absurd rfl (lnk_ne hl); exact ⟨_, _, rfl⟩
    rw [srch, show loC (c0 :: cs) = (c0 :: cs).headD 0 + 1 from rfl, ← find_shift]
    refine findSome_congr fun k hk => ?_
    by_cases h1 : (c0 :: cs).headD 0 < k
    · rw [if_pos h1]
      have hc1 : (c0 :: cs).length + 1 = c := by omega
      by_cases h2 : frA ls k = toA ls ((c0 :: cs).getLastD 0)
      · rw [if_pos (show frA ls k = toA ls ((c0 :: cs).getLastD 0) ∧ (c0 :: cs).headD 0 < k from ⟨h2, h1⟩), ringS, folB_cons, if_pos hc1, decide_eq_true h2, Bool.true_and, if_pos hc1]
        have e1 : ((c0 :: cs) ++ [k]).getLastD 0 = k := lastD_snoc _ _
        have e2 : ((c0 :: cs) ++ [k]).headD 0 = c0 := rfl
        rw [e1, e2]
        by_cases h3 : toA ls k = frA ls c0
        · rw [if_pos (decide_eq_true h3), if_pos h3]
        · rw [if_neg (by simpa using h3), if_neg h3]
      · rw [if_neg (show ¬ (frA ls k = toA ls ((c0 :: cs).getLastD 0) ∧ (c0 :: cs).headD 0 < k) from fun h => h2 h.1), folB_cons, decide_eq_false h2, Bool.false_and]
        rfl
    · rw [if_neg h1, if_neg (show ¬ (frA ls k = toA ls ((c0 :: cs).getLastD 0) ∧ (c0 :: cs).headD 0 < k) from fun h => h1 h.2)]
  | succ d ih =>
    intro chain hl hc
    have hne := lnk_ne hl
    obtain ⟨c0, cs, rfl⟩ : ∃ c0 cs, chain = c0 :: cs := by cases chain; exact absurd rfl hne; exact ⟨_, _, rfl⟩
    rw [srch, show loC (c0 :: cs) = (c0 :: cs).headD 0 + 1 from rfl, ← find_shift]
    refine findSome_congr fun k hk => ?_
    have hk := List.mem_range.1 hk
    by_cases h1 : (c0 :: cs).headD 0 < k
    · rw [if_pos h1]
      by_cases h2 : frA ls k = toA ls ((c0 :: cs).getLastD 0)
      · have hc1 : ¬ (c0 :: cs).length + 1 = c := by omega
        rw [if_pos (show frA ls k = toA ls ((c0 :: cs).getLastD 0) ∧ (c0 :: cs).headD 0 < k from ⟨h2, h1⟩), ringS, folB_cons, if_neg hc1, decide_eq_true h2, Bool.true_and, if_neg hc1]
        have e1 : ((c0 :: cs) ++ [k]).getLastD 0 = k := lastD_snoc _ _
        have e2 : ((c0 :: cs) ++ [k]).headD 0 = c0 := rfl
        have e3 : ((c0 :: cs) ++ [k]).dropLast = c0 :: cs := List.dropLast_concat
        rw [e1, e2, e3, lnk_leaves hl]
        have e4 : ((c0 :: cs).any fun x => decide (toA ls x = toA ls k)) = (c0 :: cs).dropLast.any fun x => decide (toA ls x = toA ls k) := by
          conv => lhs; rw [← last_drop hne]
          rw [List.any_append]
          simp only [List.any_cons, List.any_nil, Bool.or_false]
          rw [← h2, decide_eq_false (hv k hk), Bool.or_false]
        rw [e4, show (c0 :: cs).headD 0 = c0 from rfl]
        by_cases h3 : frA ls c0 = toA ls k
        · rw [if_pos (show toA ls k = frA ls c0 from h3.symm), decide_eq_true h3]; simp
        · rw [if_neg (show ¬ toA ls k = frA ls c0 from fun h => h3 h.symm), decide_eq_false h3, Bool.false_or]
          by_cases h4 : ((c0 :: cs).dropLast.any fun x => decide (toA ls x = toA ls k)) = true
          · rw [if_pos h4, h4]; rfl
          · rw [if_neg h4, Bool.eq_false_iff.2 h4]
            have := ih ((c0 :: cs) ++ [k]) (.more hl h2) (by rw [List.length_append, List.length_singleton]; omega)
            rw [e1, e2] at this
            exact this
      · rw [if_neg (show ¬ (frA ls k = toA ls ((c0 :: cs).getLastD 0) ∧ (c0 :: cs).headD 0 < k) from fun h => h2 h.1), folB_cons, decide_eq_false h2, Bool.false_and]
        rfl
    · rw [if_neg h1, if_neg (show ¬ (frA ls k = toA ls ((c0 :: cs).getLastD 0) ∧ (c0 :: cs).headD 0 < k) from fun h => h1 h.2)]
theorem ring_one {ls : List Lk} {G : List Int} {c k : Nat} (hv : ∀ k, k < ls.length → frA ls k ≠ toA ls k) (hk : k < ls.length) : ringS ls G (c + 1) [k] = srch ls G (c + 2) (c + 1) [k] := by
  rw [ring_srch hv c [k] (.one k) (by simp; omega), ringS]
  simp only [List.getLastD_cons, List.getLastD_nil, List.headD_cons, List.dropLast_singleton, List.any_nil]
  rw [if_neg (fun h => hv k hk h.symm), if_neg (by simp)]
end Go.Proofs.YtoggakfkpeloiaaGreat
