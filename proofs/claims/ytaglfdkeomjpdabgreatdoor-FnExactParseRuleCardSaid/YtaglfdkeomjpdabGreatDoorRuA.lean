/- DERIVED. Rows of rules in the walk's state. -/
import Derived.Test.YtaglfdkeomjpdabGreatDoorScM
import Derived.Test.YtaglfdkeomjpdabGreatDoorPrF
import Derived.Test.YtaglfdkeomjpdabGreatDoorDats
import Derived.Test.YtaglfdkeomjpdabGreatDoorModT
import Derived.Deep.RegionWith
import Derived.Deep.RegionHeld3
import Derived.Test.YtaglfdkeomjpdabGreatDoorRegZ

section
namespace Go.Proofs.YtaglfdkeomjpdabGreatDoor
open Go.RowKit
set_option linter.unusedVariables false

def rsA (p : Pj) (r : Nat) : Rs := p.ress.getD r ⟨[], []⟩
def lkA (p : Pj) (i : Nat) : Lk := p.lks.getD i ⟨0, 0, false, 0⟩
def skA (p : Pj) (i : Nat) : Int := p.stk.getD i 0
theorem rsA_at {p : Pj} {r : Nat} (h : r < p.ress.length) : rsA p r = p.ress[r] := by simp [rsA, List.getD, List.getElem?_eq_getElem h]
theorem lkA_at {p : Pj} {r : Nat} (h : r < p.lks.length) : lkA p r = p.lks[r] := by simp [lkA, List.getD, List.getElem?_eq_getElem h]
theorem skA_at {p : Pj} {r : Nat} (h : r < p.stk.length) : skA p r = p.stk[r] := by simp [skA, List.getD, List.getElem?_eq_getElem h]

/-- A rule as a condition of its kind. -/
inductive Cd where
  | lnk (a : Int)
  | fin (a : Int)
  | tim (a b : Int)
  | wrk (a b c : Int)
  | par (a b c : Int)
  | stk (a : Int)
def Cd.ru : Cd → Ru
  | .lnk a => ⟨1, a, 0, 0⟩
  | .fin a => ⟨2, a, 0, 0⟩
  | .tim a b => ⟨3, a, b, 0⟩
  | .wrk a b c => ⟨4, a, b, c⟩
  | .par a b c => ⟨5, a, b, c⟩
  | .stk a => ⟨6, a, 0, 0⟩
/-- The condition of a rule's kind, whatever stands in the fields that it does not use. -/
def kindC (r : Ru) : Option Cd :=
  if r.ki = 1 then some (.lnk r.a) else if r.ki = 2 then some (.fin r.a) else if r.ki = 3 then some (.tim r.a r.b)
  else if r.ki = 4 then some (.wrk r.a r.b r.c) else if r.ki = 5 then some (.par r.a r.b r.c) else if r.ki = 6 then some (.stk r.a) else none
def condOf (r : Ru) : Option Cd := match kindC r with | some c => if c.ru = r then some c else none | none => none
theorem kind_ru (c : Cd) : kindC c.ru = some c := by cases c <;> rfl
theorem cond_ru (c : Cd) : condOf c.ru = some c := by rw [condOf, kind_ru]; simp
theorem cond_some {r : Ru} {c : Cd} (h : condOf r = some c) : c.ru = r := by
  unfold condOf at h
  split at h
  · split at h
    · next e => exact (Option.some.inj h) ▸ e
    · cases h
  · cases h
theorem cond_none {r : Ru} (h : kindC r = none) : condOf r = none := by rw [condOf, h]
theorem cond_odd {r : Ru} {c : Cd} (h : kindC r = some c) (hn : ¬ c.ru = r) : condOf r = none := by rw [condOf, h]; simp [hn]
theorem cond_yes {r : Ru} {c : Cd} (h : kindC r = some c) (he : c.ru = r) : condOf r = some c := by rw [condOf, h]; simp [he]

def thereC (p : Pj) : Cd → Bool
  | .lnk a => inB a 0 ((p.lks.length : Int) - 1)
  | .fin a => inB a 0 ((p.acts.length : Int) - 1)
  | .tim a b => inB a 0 ((p.ress.length : Int) - 1) && inB b 0 60
  | .wrk a b c => inB a 0 ((p.ress.length : Int) - 1) && (inB b 0 60 && (inB c 0 60 && decide (b < c)))
  | .par a b c => machB p a && (inB b 0 (c - 1) && inB c 0 ((p.acts.length : Int) - 1))
  | .stk a => inB a 0 ((p.stk.length : Int) - 1)
noncomputable def ruOkB (p : Pj) (r : Ru) : Bool := pokB p && (match condOf r with | some c => thereC p c | none => false)
theorem ruOk_none {p : Pj} {r : Ru} (h : condOf r = none) : ruOkB p r = false := by rw [ruOkB, h]; simp
theorem ruOk_pok {p : Pj} {r : Ru} (h : pokB p = false) : ruOkB p r = false := by rw [ruOkB, h]; simp
theorem ruOk_some {p : Pj} {r : Ru} {c : Cd} (h : condOf r = some c) (hp : pokB p = true) : ruOkB p r = thereC p c := by rw [ruOkB, h, hp]; simp
theorem ruOk_ru {p : Pj} {c : Cd} (hp : pokB p = true) : ruOkB p c.ru = thereC p c := ruOk_some (cond_ru c) hp

-- work
def lastsA (p : Pj) (s : Sc) (x y : Int) (a : Nat) : Int := max 0 (min (endA p s a) y - max (stA s a) x)
def wsumK (p : Pj) (s : Sc) (r : Nat) (x y : Int) : Nat → Int
  | 0 => 0
  | k + 1 => wsumK p s r x y k + lastsA p s x y k * usA p s r k
def wrkT (p : Pj) (s : Sc) (r : Nat) (x : Int) (n : Nat) : Nat → Int
  | 0 => 0
  | k + 1 => wrkT p s r x n k + useK p s r (x + k) n
theorem wsum_none (p : Pj) (s : Sc) (r : Nat) (x : Int) : ∀ m, wsumK p s r x x m = 0
  | 0 => rfl
  | m + 1 => by
    rw [wsumK, wsum_none p s r x m, show lastsA p s x x m = 0 from by unfold lastsA; omega, Int.zero_mul]; rfl
theorem lasts_next (p : Pj) (s : Sc) {x y : Int} (h : x ≤ y) (a : Nat) : lastsA p s x (y + 1) a = lastsA p s x y a + if runA p s y a = true then 1 else 0 := by
  unfold lastsA runA
  simp only [Bool.and_eq_true, decide_eq_true_eq]
  split <;> omega
theorem wsum_next (p : Pj) (s : Sc) (r : Nat) {x y : Int} (h : x ≤ y) : ∀ m, wsumK p s r x (y + 1) m = wsumK p s r x y m + useK p s r y m
  | 0 => rfl
  | m + 1 => by
    rw [wsumK, wsumK, useK, wsum_next p s r h m, lasts_next p s h m, Int.add_mul]
    by_cases e : runA p s y m = true
    · rw [if_pos e, if_pos e, Int.one_mul]; omega
    · rw [if_neg e, if_neg e, Int.zero_mul]; omega
theorem wsum_wrk (p : Pj) (s : Sc) (r : Nat) (x : Int) (m : Nat) : ∀ k : Nat, wsumK p s r x (x + k) m = wrkT p s r x m k
  | 0 => by rw [show x + ((0 : Nat) : Int) = x from by omega, wsum_none]; rfl
  | k + 1 => by rw [show x + ((k + 1 : Nat) : Int) = x + k + 1 from by omega, wsum_next p s r (by omega), wsum_wrk p s r x m k]; rfl
theorem wsum_one (p : Pj) (s : Sc) (r : Nat) (t : Int) (m : Nat) : wsumK p s r t (t + 1) m = useK p s r t m := by rw [wsum_next p s r (Int.le_refl _), wsum_none, Int.zero_add]
theorem lasts_hi {p : Pj} {s : Sc} (h : Form p s) {a : Nat} (ha : a < p.acts.length) (x y : Int) : 0 ≤ lastsA p s x y a ∧ lastsA p s x y a ≤ 12 := by
  have := h.du ha
  unfold lastsA endA
  omega
theorem term_hi {p : Pj} {s : Sc} (h : Form p s) {r a : Nat} (hr : r < p.ress.length) (ha : a < p.acts.length) (x y : Int) : 0 ≤ lastsA p s x y a * usA p s r a ∧ lastsA p s x y a * usA p s r a ≤ 240 := by
  have h1 := lasts_hi h ha x y
  have h2 := (h.us ha hr).2
  refine ⟨Int.mul_nonneg h1.1 h2.1, ?_⟩
  have := Int.mul_le_mul h1.2 h2.2 h2.1 (by omega)
  omega
theorem wsum_hi {p : Pj} {s : Sc} (h : Form p s) {r : Nat} (hr : r < p.ress.length) (x y : Int) : ∀ m, m ≤ p.acts.length → 0 ≤ wsumK p s r x y m ∧ wsumK p s r x y m ≤ 240 * m
  | 0, _ => by simp [wsumK]
  | m + 1, hm => by
    have i := wsum_hi h hr x y m (by omega)
    have t := term_hi h hr (a := m) (by omega) x y
    rw [wsumK]
    constructor <;> omega
theorem wrkT_hi {p : Pj} {s : Sc} (h : Form p s) {r : Nat} (hr : r < p.ress.length) (x : Int) : ∀ k, 0 ≤ wrkT p s r x p.acts.length k ∧ wrkT p s r x p.acts.length k ≤ 120 * k
  | 0 => by simp [wrkT]
  | k + 1 => by
    have i := wrkT_hi h hr x k
    have u := useK_hi (t := x + k) h hr p.acts.length (Nat.le_refl _)
    have := h.n6
    rw [wrkT]
    constructor <;> omega

-- what fails
def frA (p : Pj) (s : Sc) (l : Lk) : Int := if l.fe = true then endA p s l.fr.toNat else stA s l.fr.toNat
noncomputable def aheadB (p : Pj) (s : Sc) (r a b : Nat) : Bool := decide (endA p s a + setupT p (r : Int) (a : Int) (b : Int) ≤ stA s b)
noncomputable def pairF (p : Pj) (s : Sc) (r a b : Nat) : Bool := !(decide (usA p s r a = 0)) && (!(decide (usA p s r b = 0)) && (!aheadB p s r a b && !aheadB p s r b a))
noncomputable def failC (p : Pj) (s : Sc) : Cd → Bool
  | .lnk a => decide (stA s (lkA p a.toNat).to.toNat < frA p s (lkA p a.toNat) + (lkA p a.toNat).lag)
  | .fin a => decide (p.dl < endA p s a.toNat)
  | .tim a b => decide (atP (rsA p a.toNat).st b < useK p s a.toNat b p.acts.length)
  | .wrk a b c => decide (sumT (rsA p a.toNat).st b c < wrkT p s a.toNat b p.acts.length (c - b).toNat)
  | .par a b c => pairF p s a.toNat b.toNat c.toNat
  | .stk a => decide (skA p a.toNat < conK p s a.toNat p.acts.length)
noncomputable def violB (p : Pj) (s : Sc) (r : Ru) : Bool := formB p s && (match condOf r with | some c => thereC p c && failC p s c | none => false)
theorem viol_form {p : Pj} {s : Sc} {r : Ru} (h : formB p s = false) : violB p s r = false := by rw [violB, h]; rfl
theorem viol_none {p : Pj} {s : Sc} {r : Ru} (h : condOf r = none) : violB p s r = false := by rw [violB, h]; simp
theorem viol_there {p : Pj} {s : Sc} {r : Ru} {c : Cd} (h : condOf r = some c) (ht : thereC p c = false) : violB p s r = false := by rw [violB, h]; simp [ht]
theorem viol_yes {p : Pj} {s : Sc} {r : Ru} {c : Cd} (hf : formB p s = true) (h : condOf r = some c) (ht : thereC p c = true) : violB p s r = failC p s c := by rw [violB, h, hf]; simp [ht]
theorem viol_not {p : Pj} {s : Sc} {r : Ru} (h : ruOkB p r = false) : violB p s r = false := by
  rcases hf : formB p s with _ | _
  · exact viol_form hf
  · have hp := (form_of hf).ok
    rcases hc : condOf r with _ | c
    · exact viol_none hc
    · exact viol_there hc (by rw [← ruOk_some hc hp]; exact h)
theorem viol_ok {p : Pj} {s : Sc} {r : Ru} (hf : formB p s = true) (h : ruOkB p r = true) : ∃ c, condOf r = some c ∧ thereC p c = true ∧ violB p s r = failC p s c := by
  have hp := (form_of hf).ok
  rcases hc : condOf r with _ | c
  · rw [ruOk_none hc] at h; cases h
  · rw [ruOk_some hc hp] at h
    exact ⟨c, rfl, h, viol_yes hf hc h⟩

-- the listed rules
def lnkL (k : Nat) : List Cd := (List.range k).map fun (i : Nat) => .lnk (i : Int)
def finL (k : Nat) : List Cd := (List.range k).map fun (i : Nat) => .fin (i : Int)
def timL (r k : Nat) : List Cd := (List.range k).map fun (i : Nat) => .tim (r : Int) (i : Int)
def timsL (k : Nat) : List Cd := (List.range k).flatMap fun r => timL r 61
def parL (r b k : Nat) : List Cd := (List.range k).map fun (i : Nat) => .par (r : Int) (b : Int) ((b + 1 + i : Nat) : Int)
def parsL (r n k : Nat) : List Cd := (List.range k).flatMap fun b => parL r b (n - (b + 1))
def pairL (p : Pj) (r : Nat) : List Cd := if machB p (r : Int) = true then parsL r p.acts.length p.acts.length else []
def pairsL (p : Pj) (k : Nat) : List Cd := (List.range k).flatMap (pairL p)
def stkL (k : Nat) : List Cd := (List.range k).map fun (i : Nat) => .stk (i : Int)
theorem lnkL_succ (k : Nat) : lnkL (k + 1) = lnkL k ++ [.lnk (k : Int)] := by simp [lnkL, List.range_succ]
theorem finL_succ (k : Nat) : finL (k + 1) = finL k ++ [.fin (k : Int)] := by simp [finL, List.range_succ]
theorem timL_succ (r k : Nat) : timL r (k + 1) = timL r k ++ [.tim (r : Int) (k : Int)] := by simp [timL, List.range_succ]
theorem timsL_succ (k : Nat) : timsL (k + 1) = timsL k ++ timL k 61 := by simp [timsL, List.range_succ]
theorem parL_succ (r b k : Nat) : parL r b (k + 1) = parL r b k ++ [.par (r : Int) (b : Int) ((b + 1 + k : Nat) : Int)] := by simp [parL, List.range_succ]
theorem parsL_succ (r n k : Nat) : parsL r n (k + 1) = parsL r n k ++ parL r k (n - (k + 1)) := by simp [parsL, List.range_succ]
theorem pairsL_succ (p : Pj) (k : Nat) : pairsL p (k + 1) = pairsL p k ++ pairL p k := by simp [pairsL, List.range_succ]
theorem stkL_succ (k : Nat) : stkL (k + 1) = stkL k ++ [.stk (k : Int)] := by simp [stkL, List.range_succ]
theorem lnkL_len (k : Nat) : (lnkL k).length = k := by simp [lnkL]
theorem finL_len (k : Nat) : (finL k).length = k := by simp [finL]
theorem timL_len (r k : Nat) : (timL r k).length = k := by simp [timL]
theorem parL_len (r b k : Nat) : (parL r b k).length = k := by simp [parL]
theorem stkL_len (k : Nat) : (stkL k).length = k := by simp [stkL]
theorem timsL_len : ∀ k : Nat, (timsL k).length = 61 * k
  | 0 => rfl
  | k + 1 => by rw [timsL_succ, List.length_append, timsL_len k, timL_len]; omega
theorem parsL_len (r n : Nat) : ∀ k : Nat, (parsL r n k).length ≤ n * k
  | 0 => by simp [parsL]
  | k + 1 => by
    have := parsL_len r n k
    rw [parsL_succ, List.length_append, parL_len, Nat.mul_add]
    omega
theorem pairL_len (p : Pj) (r : Nat) : (pairL p r).length ≤ p.acts.length * p.acts.length := by
  unfold pairL
  split
  · exact parsL_len _ _ _
  · simp
theorem pairsL_len (p : Pj) : ∀ k : Nat, (pairsL p k).length ≤ p.acts.length * p.acts.length * k
  | 0 => by simp [pairsL]
  | k + 1 => by
    have := pairsL_len p k
    have := pairL_len p k
    rw [pairsL_succ, List.length_append, Nat.mul_add]
    omega
def listC (p : Pj) : List Cd := lnkL p.lks.length ++ finL p.acts.length ++ timsL p.ress.length ++ pairsL p p.ress.length ++ stkL p.stk.length
theorem pok_lens {p : Pj} (h : pokB p = true) : p.lks.length ≤ 12 ∧ p.acts.length ≤ 6 ∧ p.ress.length ≤ 3 ∧ p.stk.length ≤ 2 := by
  simp only [pokB, Bool.and_eq_true, decide_eq_true_eq] at h
  have := inB_iff.1 h.2.1
  omega
theorem sq_le {n k : Nat} (hn : n ≤ 6) (hk : k ≤ 3) : n * n * k ≤ 108 := by
  have h1 : n * n ≤ 36 := Nat.mul_le_mul hn hn
  exact Nat.mul_le_mul h1 hk
theorem listC_len {p : Pj} (h : pokB p = true) : (listC p).length ≤ 400 := by
  obtain ⟨h1, h2, h3, h4⟩ := pok_lens h
  have := pairsL_len p p.ress.length
  have := sq_le h2 h3
  simp only [listC, List.length_append, lnkL_len, finL_len, timsL_len, stkL_len]
  omega
theorem mem_listC {p : Pj} {c : Cd} (h : c ∈ listC p) : thereC p c = true := by
  simp only [listC, List.mem_append] at h
  rcases h with (((h | h) | h) | h) | h
  · simp only [lnkL, List.mem_map, List.mem_range] at h
    obtain ⟨i, hi, rfl⟩ := h
    exact inB_yes (by omega)
  · simp only [finL, List.mem_map, List.mem_range] at h
    obtain ⟨i, hi, rfl⟩ := h
    exact inB_yes (by omega)
  · simp only [timsL, timL, List.mem_flatMap, List.mem_map, List.mem_range] at h
    obtain ⟨r, hr, i, hi, rfl⟩ := h
    simp only [thereC, Bool.and_eq_true]
    exact ⟨inB_yes (by omega), inB_yes (by omega)⟩
  · simp only [pairsL, List.mem_flatMap, List.mem_range] at h
    obtain ⟨r, hr, h⟩ := h
    unfold pairL at h
    split at h
    · next hm =>
      simp only [parsL, parL, List.mem_flatMap, List.mem_map, List.mem_range] at h
      obtain ⟨b, hb, i, hi, rfl⟩ := h
      simp only [thereC, Bool.and_eq_true]
      exact ⟨hm, inB_yes (by omega), inB_yes (by omega)⟩
    · cases h
  · simp only [stkL, List.mem_map, List.mem_range] at h
    obtain ⟨i, hi, rfl⟩ := h
    exact inB_yes (by omega)
noncomputable def violL (p : Pj) (s : Sc) (l : List Cd) : List Cd := l.filter (failC p s)
theorem violL_yes {p : Pj} {s : Sc} {l : List Cd} {k : Nat} (hk : k < l.length) (h : failC p s l[k] = true) : violL p s (l.take (k + 1)) = violL p s (l.take k) ++ [l[k]] := by
  rw [violL, List.take_add_one, List.getElem?_eq_getElem hk, List.filter_append]
  show _ ++ List.filter _ [l[k]] = _
  rw [List.filter_cons_of_pos h]; rfl
theorem violL_no {p : Pj} {s : Sc} {l : List Cd} {k : Nat} (hk : k < l.length) (h : failC p s l[k] = false) : violL p s (l.take (k + 1)) = violL p s (l.take k) := by
  rw [violL, List.take_add_one, List.getElem?_eq_getElem hk, List.filter_append]
  show _ ++ List.filter _ [l[k]] = _
  rw [List.filter_cons_of_neg (by simp [h])]
  simp [violL]
theorem violL_len (p : Pj) (s : Sc) (l : List Cd) : (violL p s l).length ≤ l.length := List.length_filter_le _ _
noncomputable def violsB (p : Pj) (s : Sc) : List Ru := if formB p s = true then (violL p s (listC p)).map Cd.ru else []
theorem viols_bad {p : Pj} {s : Sc} (h : formB p s = false) : violsB p s = [] := by rw [violsB, h]; simp
theorem viols_yes {p : Pj} {s : Sc} (h : formB p s = true) : violsB p s = (violL p s (listC p)).map Cd.ru := by rw [violsB, if_pos h]
theorem viols_len (p : Pj) (s : Sc) : (violsB p s).length ≤ 400 := by
  rcases h : formB p s with _ | _
  · rw [viols_bad h]; simp
  · rw [viols_yes h, List.length_map]
    exact Nat.le_trans (violL_len _ _ _) (listC_len (form_of h).ok)
noncomputable def schedB (p : Pj) (s : Sc) : Bool := formB p s && decide ((violsB p s).length = 0)
theorem sched_bad {p : Pj} {s : Sc} (h : formB p s = false) : schedB p s = false := by rw [schedB, h]; rfl
theorem sched_yes {p : Pj} {s : Sc} (h : formB p s = true) (hl : ∀ c ∈ listC p, failC p s c = false) : schedB p s = true := by
  have : violL p s (listC p) = [] := List.filter_eq_nil_iff.2 fun c hc => by rw [hl c hc]; simp
  rw [schedB, h, viols_yes h, this]; rfl
theorem sched_no {p : Pj} {s : Sc} {c : Cd} (h : formB p s = true) (hc : c ∈ listC p) (hl : failC p s c = true) : schedB p s = false := by
  have : c ∈ violL p s (listC p) := List.mem_filter.2 ⟨hc, hl⟩
  have h0 : violL p s (listC p) ≠ [] := fun e => by rw [e] at this; cases this
  rw [schedB, h, viols_yes h, List.length_map]
  simp [h0]
end Go.Proofs.YtaglfdkeomjpdabGreatDoor
end

section
namespace Go.Proofs.YtaglfdkeomjpdabGreatDoor
open Go.RowKit
set_option linter.unusedVariables false

theorem thin_RuleL (d : Ru) : thinL (cellsRu d) := ⟨trivial, trivial, trivial, trivial, trivial⟩
theorem thin_RuleS (xs : List Ru) : (trRus xs).thins := thin_rows cellsRu_len (by omega) thin_RuleL xs
theorem szL_Rule0 : ∀ xs : List Ru, szL (xs.flatMap cellsRu) = 0
  | [] => rfl
  | x :: xs => by rw [List.flatMap_cons, szL_app, szL_Rule0 xs]; rfl

set_option maxRecDepth 100000 in
set_option maxHeartbeats 1000000 in
theorem eqRule_t (d : Ru) (v u : Value) (w : World) (hv : (trRu d).rd w v) (hu : (trRu d).rd w u) :
    Calls Tryz.prog 8 #[v, u] w fun e w' => e = .returned (.bool true) ∧ Below w.heap.size w w' := by
  obtain rfl := rdRule_t hv
  obtain rfl := rdRule_t hu
  clear hv hu
  have S0 := Lib.hid (((Sn.start w).box 30 [.int .i64 d.ki, .int .i64 d.a, .int .i64 d.b, .int .i64 d.c]).box 30 [.int .i64 d.ki, .int .i64 d.a, .int .i64 d.b, .int .i64 d.c])
  simp only [World.size_alloc] at S0
  go_enter Tryz.func8, Tryz.ntmps8
  go_wp2
  go_ret
  exact ⟨rfl, S0.out.1⟩

theorem infoRule_t : (Tryz.prog.info? 30).map (fun i => (i.zero, i.size, i.bytes)) = some (some (.agg #[.int .i64 0, .int .i64 0, .int .i64 0, .int .i64 0]), 4, 32) := by kernel_rfl

end Go.Proofs.YtaglfdkeomjpdabGreatDoor
end

section
namespace Go.Proofs.YtaglfdkeomjpdabGreatDoor
open Go.RowKit Go.Shelf
set_option linter.unusedVariables false

def Cd.ty : Cd → TypeId
  | .lnk _ => 142
  | .fin _ => 144
  | .tim _ _ => 146
  | .wrk _ _ _ => 148
  | .par _ _ _ => 150
  | .stk _ => 152
def Cd.cs : Cd → List Value
  | .lnk a => [.int .i64 a]
  | .fin a => [.int .i64 a]
  | .tim a b => [.int .i64 a, .int .i64 b]
  | .wrk a b c => [.int .i64 a, .int .i64 b, .int .i64 c]
  | .par a b c => [.int .i64 a, .int .i64 b, .int .i64 c]
  | .stk a => [.int .i64 a]
def Cd.val (c : Cd) : Value := .iface c.ty (.agg ⟨c.cs⟩)
def ruV (r : Ru) : Value := .agg #[.int .i64 r.ki, .int .i64 r.a, .int .i64 r.b, .int .i64 r.c]
theorem as0_0 (v : Value) (w : World) : (Instr.typeAssert (.iface 142 v) 91 142 true).run Tryz.prog w = .ok (.tuple #[v, .bool true]) w := by kernel_rfl
theorem as1_1 (v : Value) (w : World) : (Instr.typeAssert (.iface 144 v) 91 144 true).run Tryz.prog w = .ok (.tuple #[v, .bool true]) w := by kernel_rfl
theorem as1_0 (v : Value) (w : World) : (Instr.typeAssert (.iface 144 v) 91 142 true).run Tryz.prog w = .ok (.tuple #[.agg #[.int .i64 0], .bool false]) w := by kernel_rfl
theorem as2_2 (v : Value) (w : World) : (Instr.typeAssert (.iface 146 v) 91 146 true).run Tryz.prog w = .ok (.tuple #[v, .bool true]) w := by kernel_rfl
theorem as2_0 (v : Value) (w : World) : (Instr.typeAssert (.iface 146 v) 91 142 true).run Tryz.prog w = .ok (.tuple #[.agg #[.int .i64 0], .bool false]) w := by kernel_rfl
theorem as2_1 (v : Value) (w : World) : (Instr.typeAssert (.iface 146 v) 91 144 true).run Tryz.prog w = .ok (.tuple #[.agg #[.int .i64 0], .bool false]) w := by kernel_rfl
theorem as3_3 (v : Value) (w : World) : (Instr.typeAssert (.iface 148 v) 91 148 true).run Tryz.prog w = .ok (.tuple #[v, .bool true]) w := by kernel_rfl
theorem as3_0 (v : Value) (w : World) : (Instr.typeAssert (.iface 148 v) 91 142 true).run Tryz.prog w = .ok (.tuple #[.agg #[.int .i64 0], .bool false]) w := by kernel_rfl
theorem as3_1 (v : Value) (w : World) : (Instr.typeAssert (.iface 148 v) 91 144 true).run Tryz.prog w = .ok (.tuple #[.agg #[.int .i64 0], .bool false]) w := by kernel_rfl
theorem as3_2 (v : Value) (w : World) : (Instr.typeAssert (.iface 148 v) 91 146 true).run Tryz.prog w = .ok (.tuple #[.agg #[.int .i64 0, .int .i64 0], .bool false]) w := by kernel_rfl
theorem as4_4 (v : Value) (w : World) : (Instr.typeAssert (.iface 150 v) 91 150 true).run Tryz.prog w = .ok (.tuple #[v, .bool true]) w := by kernel_rfl
theorem as4_0 (v : Value) (w : World) : (Instr.typeAssert (.iface 150 v) 91 142 true).run Tryz.prog w = .ok (.tuple #[.agg #[.int .i64 0], .bool false]) w := by kernel_rfl
theorem as4_1 (v : Value) (w : World) : (Instr.typeAssert (.iface 150 v) 91 144 true).run Tryz.prog w = .ok (.tuple #[.agg #[.int .i64 0], .bool false]) w := by kernel_rfl
theorem as4_2 (v : Value) (w : World) : (Instr.typeAssert (.iface 150 v) 91 146 true).run Tryz.prog w = .ok (.tuple #[.agg #[.int .i64 0, .int .i64 0], .bool false]) w := by kernel_rfl
theorem as4_3 (v : Value) (w : World) : (Instr.typeAssert (.iface 150 v) 91 148 true).run Tryz.prog w = .ok (.tuple #[.agg #[.int .i64 0, .int .i64 0, .int .i64 0], .bool false]) w := by kernel_rfl
theorem as5_5 (v : Value) (w : World) : (Instr.typeAssert (.iface 152 v) 91 152 true).run Tryz.prog w = .ok (.tuple #[v, .bool true]) w := by kernel_rfl
theorem as5_0 (v : Value) (w : World) : (Instr.typeAssert (.iface 152 v) 91 142 true).run Tryz.prog w = .ok (.tuple #[.agg #[.int .i64 0], .bool false]) w := by kernel_rfl
theorem as5_1 (v : Value) (w : World) : (Instr.typeAssert (.iface 152 v) 91 144 true).run Tryz.prog w = .ok (.tuple #[.agg #[.int .i64 0], .bool false]) w := by kernel_rfl
theorem as5_2 (v : Value) (w : World) : (Instr.typeAssert (.iface 152 v) 91 146 true).run Tryz.prog w = .ok (.tuple #[.agg #[.int .i64 0, .int .i64 0], .bool false]) w := by kernel_rfl
theorem as5_3 (v : Value) (w : World) : (Instr.typeAssert (.iface 152 v) 91 148 true).run Tryz.prog w = .ok (.tuple #[.agg #[.int .i64 0, .int .i64 0, .int .i64 0], .bool false]) w := by kernel_rfl
theorem as5_4 (v : Value) (w : World) : (Instr.typeAssert (.iface 152 v) 91 150 true).run Tryz.prog w = .ok (.tuple #[.agg #[.int .i64 0, .int .i64 0, .int .i64 0], .bool false]) w := by kernel_rfl

set_option maxRecDepth 100000 in
set_option maxHeartbeats 8000000 in
theorem neq_ru (x y : Ru) (w : World) : (binOp .neq 30 (ruV x) (ruV y)).run Tryz.prog w = .ok (.bool (!decide (x = y))) w := by
  have h : (binOp .neq 30 (ruV x) (ruV y)).run Tryz.prog w = .ok (.bool (!((x.ki == y.ki) && ((x.a == y.a) && ((x.b == y.b) && (x.c == y.c)))))) w := by
    unfold ruV
    rw [run_neq_struct, run_equalIn_struct w 9999 30 _ _ (by kernel_rfl) (by kernel_rfl)]
    simp only [Program.fieldsOf, Tryz.underlying30]
    cases h0 : (x.ki == y.ki) <;> cases h1 : (x.a == y.a) <;> cases h2 : (x.b == y.b) <;> cases h3 : (x.c == y.c) <;> go_simp <;> simp_all
  rw [h]
  congr 3
  rw [Bool.eq_iff_iff]
  simp [ru_ext]

set_option maxRecDepth 100000 in
set_option maxHeartbeats 8000000 in
theorem ruleOf_lnk (a : Int) (w : World) :
    Calls Tryz.prog 84 #[.iface 142 (.agg #[.int .i64 a])] w fun e w' => e = .returned (.agg #[.int .i64 1, .int .i64 a, .int .i64 0, .int .i64 0]) ∧ Below w.heap.size w w' := by
  have q0 := as0_0
  go_enter Tryz.func84, Tryz.ntmps84
  go_wp2
  refine bodyPost_ret (v := .agg #[.int .i64 1, .int .i64 a, .int .i64 0, .int .i64 0]) (by simp [results, Tryz.results84, go_sem]) rfl ⟨rfl, ?_⟩
  repeat (first | exact Below.refl _ _ | refine Below.setCell ?_ (by simp) _ | refine Below.alloc ?_ (by first | (simp; done) | (simp; omega)) _)
set_option maxRecDepth 100000 in
set_option maxHeartbeats 8000000 in
theorem ruleOf_fin (a : Int) (w : World) :
    Calls Tryz.prog 84 #[.iface 144 (.agg #[.int .i64 a])] w fun e w' => e = .returned (.agg #[.int .i64 2, .int .i64 a, .int .i64 0, .int .i64 0]) ∧ Below w.heap.size w w' := by
  have q0 := as1_0
  have q1 := as1_1
  go_enter Tryz.func84, Tryz.ntmps84
  go_wp2
  refine bodyPost_ret (v := .agg #[.int .i64 2, .int .i64 a, .int .i64 0, .int .i64 0]) (by simp [results, Tryz.results84, go_sem]) rfl ⟨rfl, ?_⟩
  repeat (first | exact Below.refl _ _ | refine Below.setCell ?_ (by simp) _ | refine Below.alloc ?_ (by first | (simp; done) | (simp; omega)) _)
set_option maxRecDepth 100000 in
set_option maxHeartbeats 8000000 in
theorem ruleOf_tim (a b : Int) (w : World) :
    Calls Tryz.prog 84 #[.iface 146 (.agg #[.int .i64 a, .int .i64 b])] w fun e w' => e = .returned (.agg #[.int .i64 3, .int .i64 a, .int .i64 b, .int .i64 0]) ∧ Below w.heap.size w w' := by
  have q0 := as2_0
  have q1 := as2_1
  have q2 := as2_2
  go_enter Tryz.func84, Tryz.ntmps84
  go_wp2
  refine bodyPost_ret (v := .agg #[.int .i64 3, .int .i64 a, .int .i64 b, .int .i64 0]) (by simp [results, Tryz.results84, go_sem]) rfl ⟨rfl, ?_⟩
  repeat (first | exact Below.refl _ _ | refine Below.setCell ?_ (by simp) _ | refine Below.alloc ?_ (by first | (simp; done) | (simp; omega)) _)
set_option maxRecDepth 100000 in
set_option maxHeartbeats 8000000 in
theorem ruleOf_wrk (a b c : Int) (w : World) :
    Calls Tryz.prog 84 #[.iface 148 (.agg #[.int .i64 a, .int .i64 b, .int .i64 c])] w fun e w' => e = .returned (.agg #[.int .i64 4, .int .i64 a, .int .i64 b, .int .i64 c]) ∧ Below w.heap.size w w' := by
  have q0 := as3_0
  have q1 := as3_1
  have q2 := as3_2
  have q3 := as3_3
  go_enter Tryz.func84, Tryz.ntmps84
  go_wp2
  refine bodyPost_ret (v := .agg #[.int .i64 4, .int .i64 a, .int .i64 b, .int .i64 c]) (by simp [results, Tryz.results84, go_sem]) rfl ⟨rfl, ?_⟩
  repeat (first | exact Below.refl _ _ | refine Below.setCell ?_ (by simp) _ | refine Below.alloc ?_ (by first | (simp; done) | (simp; omega)) _)
set_option maxRecDepth 100000 in
set_option maxHeartbeats 8000000 in
theorem ruleOf_par (a b c : Int) (w : World) :
    Calls Tryz.prog 84 #[.iface 150 (.agg #[.int .i64 a, .int .i64 b, .int .i64 c])] w fun e w' => e = .returned (.agg #[.int .i64 5, .int .i64 a, .int .i64 b, .int .i64 c]) ∧ Below w.heap.size w w' := by
  have q0 := as4_0
  have q1 := as4_1
  have q2 := as4_2
  have q3 := as4_3
  have q4 := as4_4
  go_enter Tryz.func84, Tryz.ntmps84
  go_wp2
  refine bodyPost_ret (v := .agg #[.int .i64 5, .int .i64 a, .int .i64 b, .int .i64 c]) (by simp [results, Tryz.results84, go_sem]) rfl ⟨rfl, ?_⟩
  repeat (first | exact Below.refl _ _ | refine Below.setCell ?_ (by simp) _ | refine Below.alloc ?_ (by first | (simp; done) | (simp; omega)) _)
set_option maxRecDepth 100000 in
set_option maxHeartbeats 8000000 in
theorem ruleOf_stk (a : Int) (w : World) :
    Calls Tryz.prog 84 #[.iface 152 (.agg #[.int .i64 a])] w fun e w' => e = .returned (.agg #[.int .i64 6, .int .i64 a, .int .i64 0, .int .i64 0]) ∧ Below w.heap.size w w' := by
  have q0 := as5_0
  have q1 := as5_1
  have q2 := as5_2
  have q3 := as5_3
  have q4 := as5_4
  have q5 := as5_5
  go_enter Tryz.func84, Tryz.ntmps84
  go_wp2
  refine bodyPost_ret (v := .agg #[.int .i64 6, .int .i64 a, .int .i64 0, .int .i64 0]) (by simp [results, Tryz.results84, go_sem]) rfl ⟨rfl, ?_⟩
  repeat (first | exact Below.refl _ _ | refine Below.setCell ?_ (by simp) _ | refine Below.alloc ?_ (by first | (simp; done) | (simp; omega)) _)
theorem ruleOf_any (c : Cd) (w : World) :
    Calls Tryz.prog 84 #[c.val] w fun e w' => e = .returned (ruV c.ru) ∧ Below w.heap.size w w' := by
  cases c with
  | lnk a => exact ruleOf_lnk a w
  | fin a => exact ruleOf_fin a w
  | tim a b => exact ruleOf_tim a b w
  | wrk a b c => exact ruleOf_wrk a b c w
  | par a b c => exact ruleOf_par a b c w
  | stk a => exact ruleOf_stk a w

def optC (c : Option Cd) : Ending := match c with | some c => Ending.returned (.tuple #[c.val, .bool true]) | none => Ending.returned (.tuple #[.nilIface, .bool false])
set_option maxRecDepth 100000 in
set_option maxHeartbeats 8000000 in
theorem conditionOf_any (r : Ru) (w : World) :
    Calls Tryz.prog 67 #[ruV r] w fun e w' => e = optC (condOf r) ∧ Below w.heap.size w w' := by
  obtain ⟨ki, a, b, c⟩ := r
  have S0 := Lib.hid ((Sn.start w).box 30 [.int .i64 ki, .int .i64 a, .int .i64 b, .int .i64 c])
  generalize hres : optC (condOf ⟨ki, a, b, c⟩) = res
  have RES := Lib.hid hres
  clear hres
  unfold ruV
  by_cases k0 : ki = 1
  · subst k0
    have HN := Lib.hid (cond_odd (r := ⟨1, a, b, c⟩) (c := .lnk a) (by simp [kindC]))
    have HY := Lib.hid (cond_yes (r := ⟨1, a, b, c⟩) (c := .lnk a) (by simp [kindC]))
    have hq : ∀ w : World, (binOp .neq 30 (.agg #[.int .i64 1, .int .i64 a, .int .i64 0, .int .i64 0]) (.agg #[.int .i64 1, .int .i64 a, .int .i64 b, .int .i64 c])).run Tryz.prog w = .ok (.bool (!decide ((Cd.lnk a).ru = ⟨1, a, b, c⟩))) w := fun w => neq_ru (Cd.lnk a).ru ⟨1, a, b, c⟩ w
    generalize hbb : decide ((Cd.lnk a).ru = ⟨1, a, b, c⟩) = bb at hq
    have HB := Lib.hid hbb
    clear hbb
    go_enter Tryz.func67, Tryz.ntmps67
    go_wp2_with fail
    generalize World.alloc w _ = wv at S0 ⊢
    obtain ⟨e0, e1, e2, e3, ef⟩ := (S0.out.bk 0 rfl).c4
    have hl0 := (S0.out.bk 0 rfl).lt
    have S1 := Lib.hid S0.out.drew1
    have CE := Lib.hid (fun (W : World) (h : Wr [] wv.drew W) => show Hid (Wr [] wv.drew W) ∧ W.cell? ⟨w.heap.size, 0, none⟩ = some (.int .i64 1) ∧ W.cell? ⟨w.heap.size, 1, none⟩ = some (.int .i64 a) ∧ W.cell? ⟨w.heap.size, 2, none⟩ = some (.int .i64 b) ∧ W.cell? ⟨w.heap.size, 3, none⟩ = some (.int .i64 c) from ⟨Lib.hid h, (wr_cell h (p := ⟨w.heap.size, 0, none⟩) hl0 (by simp)).trans (by exact by simpa using e0), (wr_cell h (p := ⟨w.heap.size, 1, none⟩) hl0 (by simp)).trans (by exact by simpa using e1), (wr_cell h (p := ⟨w.heap.size, 2, none⟩) hl0 (by simp)).trans (by exact by simpa using e2), (wr_cell h (p := ⟨w.heap.size, 3, none⟩) hl0 (by simp)).trans (by exact by simpa using e3)⟩)
    have INIT := Lib.hid (CE.out _ (Wr.refl _ _))
    have KW := Lib.hid (fun (W2 W : World) (hb : Wr [] W W2) (h : Hid (Wr [] wv.drew W) ∧ W.cell? ⟨w.heap.size, 0, none⟩ = some (.int .i64 1) ∧ W.cell? ⟨w.heap.size, 1, none⟩ = some (.int .i64 a) ∧ W.cell? ⟨w.heap.size, 2, none⟩ = some (.int .i64 b) ∧ W.cell? ⟨w.heap.size, 3, none⟩ = some (.int .i64 c)) => CE.out W2 (h.1.out.trans hb))
    clear e0 e1 e2 e3 ef
    go_region_held3 (fun W => Hid (Wr [] wv.drew W) ∧ W.cell? ⟨w.heap.size, 0, none⟩ = some (.int .i64 1) ∧ W.cell? ⟨w.heap.size, 1, none⟩ = some (.int .i64 a) ∧ W.cell? ⟨w.heap.size, 2, none⟩ = some (.int .i64 b) ∧ W.cell? ⟨w.heap.size, 3, none⟩ = some (.int .i64 c)) (first | exact INIT.out | exact KW.out _ _ (by assumption) (by assumption) | exact KW.out _ _ (Wr.of_below (by assumption) (Nat.le_refl _)) (by assumption) | exact KW.out _ _ (Wr.of_below ((Below.refl _ _).alloc (Nat.le_refl _) _) (Nat.le_refl _)) (by assumption))
      ((go_at_call 84; refine (ruleOf_lnk a _).mono ?_; rintro e w5 ⟨rfl, b5⟩; have S2 := Lib.hid (S1.out.go b5)))
    rename_i hHeld
    clear hHeld CE INIT KW S1 b5 hl0
    rcases bb with _ | _
    · have HC := Lib.hid (HN.out (of_decide_eq_false HB.out))
      go_wp2
      go_ret2
      exact ⟨by rw [← RES.out, HC.out]; rfl, S2.out.1⟩
    · have HC := Lib.hid (HY.out (of_decide_eq_true HB.out))
      go_wp2
      go_ret2
      exact ⟨by rw [← RES.out, HC.out]; rfl, S2.out.1⟩
  by_cases k1 : ki = 2
  · subst k1
    have HN := Lib.hid (cond_odd (r := ⟨2, a, b, c⟩) (c := .fin a) (by simp [kindC]))
    have HY := Lib.hid (cond_yes (r := ⟨2, a, b, c⟩) (c := .fin a) (by simp [kindC]))
    have hq : ∀ w : World, (binOp .neq 30 (.agg #[.int .i64 2, .int .i64 a, .int .i64 0, .int .i64 0]) (.agg #[.int .i64 2, .int .i64 a, .int .i64 b, .int .i64 c])).run Tryz.prog w = .ok (.bool (!decide ((Cd.fin a).ru = ⟨2, a, b, c⟩))) w := fun w => neq_ru (Cd.fin a).ru ⟨2, a, b, c⟩ w
    generalize hbb : decide ((Cd.fin a).ru = ⟨2, a, b, c⟩) = bb at hq
    have HB := Lib.hid hbb
    clear hbb
    go_enter Tryz.func67, Tryz.ntmps67
    go_wp2_with fail
    generalize World.alloc w _ = wv at S0 ⊢
    obtain ⟨e0, e1, e2, e3, ef⟩ := (S0.out.bk 0 rfl).c4
    have hl0 := (S0.out.bk 0 rfl).lt
    have S1 := Lib.hid S0.out.drew1
    have CE := Lib.hid (fun (W : World) (h : Wr [] wv.drew W) => show Hid (Wr [] wv.drew W) ∧ W.cell? ⟨w.heap.size, 0, none⟩ = some (.int .i64 2) ∧ W.cell? ⟨w.heap.size, 1, none⟩ = some (.int .i64 a) ∧ W.cell? ⟨w.heap.size, 2, none⟩ = some (.int .i64 b) ∧ W.cell? ⟨w.heap.size, 3, none⟩ = some (.int .i64 c) from ⟨Lib.hid h, (wr_cell h (p := ⟨w.heap.size, 0, none⟩) hl0 (by simp)).trans (by exact by simpa using e0), (wr_cell h (p := ⟨w.heap.size, 1, none⟩) hl0 (by simp)).trans (by exact by simpa using e1), (wr_cell h (p := ⟨w.heap.size, 2, none⟩) hl0 (by simp)).trans (by exact by simpa using e2), (wr_cell h (p := ⟨w.heap.size, 3, none⟩) hl0 (by simp)).trans (by exact by simpa using e3)⟩)
    have INIT := Lib.hid (CE.out _ (Wr.refl _ _))
    have KW := Lib.hid (fun (W2 W : World) (hb : Wr [] W W2) (h : Hid (Wr [] wv.drew W) ∧ W.cell? ⟨w.heap.size, 0, none⟩ = some (.int .i64 2) ∧ W.cell? ⟨w.heap.size, 1, none⟩ = some (.int .i64 a) ∧ W.cell? ⟨w.heap.size, 2, none⟩ = some (.int .i64 b) ∧ W.cell? ⟨w.heap.size, 3, none⟩ = some (.int .i64 c)) => CE.out W2 (h.1.out.trans hb))
    clear e0 e1 e2 e3 ef
    go_region_held3 (fun W => Hid (Wr [] wv.drew W) ∧ W.cell? ⟨w.heap.size, 0, none⟩ = some (.int .i64 2) ∧ W.cell? ⟨w.heap.size, 1, none⟩ = some (.int .i64 a) ∧ W.cell? ⟨w.heap.size, 2, none⟩ = some (.int .i64 b) ∧ W.cell? ⟨w.heap.size, 3, none⟩ = some (.int .i64 c)) (first | exact INIT.out | exact KW.out _ _ (by assumption) (by assumption) | exact KW.out _ _ (Wr.of_below (by assumption) (Nat.le_refl _)) (by assumption) | exact KW.out _ _ (Wr.of_below ((Below.refl _ _).alloc (Nat.le_refl _) _) (Nat.le_refl _)) (by assumption))
      ((go_at_call 84; refine (ruleOf_fin a _).mono ?_; rintro e w5 ⟨rfl, b5⟩; have S2 := Lib.hid (S1.out.go b5)))
    rename_i hHeld
    clear hHeld CE INIT KW S1 b5 hl0
    rcases bb with _ | _
    · have HC := Lib.hid (HN.out (of_decide_eq_false HB.out))
      go_wp2
      go_ret2
      exact ⟨by rw [← RES.out, HC.out]; rfl, S2.out.1⟩
    · have HC := Lib.hid (HY.out (of_decide_eq_true HB.out))
      go_wp2
      go_ret2
      exact ⟨by rw [← RES.out, HC.out]; rfl, S2.out.1⟩
  by_cases k2 : ki = 3
  · subst k2
    have HN := Lib.hid (cond_odd (r := ⟨3, a, b, c⟩) (c := .tim a b) (by simp [kindC]))
    have HY := Lib.hid (cond_yes (r := ⟨3, a, b, c⟩) (c := .tim a b) (by simp [kindC]))
    have hq : ∀ w : World, (binOp .neq 30 (.agg #[.int .i64 3, .int .i64 a, .int .i64 b, .int .i64 0]) (.agg #[.int .i64 3, .int .i64 a, .int .i64 b, .int .i64 c])).run Tryz.prog w = .ok (.bool (!decide ((Cd.tim a b).ru = ⟨3, a, b, c⟩))) w := fun w => neq_ru (Cd.tim a b).ru ⟨3, a, b, c⟩ w
    generalize hbb : decide ((Cd.tim a b).ru = ⟨3, a, b, c⟩) = bb at hq
    have HB := Lib.hid hbb
    clear hbb
    go_enter Tryz.func67, Tryz.ntmps67
    go_wp2_with fail
    generalize World.alloc w _ = wv at S0 ⊢
    obtain ⟨e0, e1, e2, e3, ef⟩ := (S0.out.bk 0 rfl).c4
    have hl0 := (S0.out.bk 0 rfl).lt
    have S1 := Lib.hid S0.out.drew1
    have CE := Lib.hid (fun (W : World) (h : Wr [] wv.drew W) => show Hid (Wr [] wv.drew W) ∧ W.cell? ⟨w.heap.size, 0, none⟩ = some (.int .i64 3) ∧ W.cell? ⟨w.heap.size, 1, none⟩ = some (.int .i64 a) ∧ W.cell? ⟨w.heap.size, 2, none⟩ = some (.int .i64 b) ∧ W.cell? ⟨w.heap.size, 3, none⟩ = some (.int .i64 c) from ⟨Lib.hid h, (wr_cell h (p := ⟨w.heap.size, 0, none⟩) hl0 (by simp)).trans (by exact by simpa using e0), (wr_cell h (p := ⟨w.heap.size, 1, none⟩) hl0 (by simp)).trans (by exact by simpa using e1), (wr_cell h (p := ⟨w.heap.size, 2, none⟩) hl0 (by simp)).trans (by exact by simpa using e2), (wr_cell h (p := ⟨w.heap.size, 3, none⟩) hl0 (by simp)).trans (by exact by simpa using e3)⟩)
    have INIT := Lib.hid (CE.out _ (Wr.refl _ _))
    have KW := Lib.hid (fun (W2 W : World) (hb : Wr [] W W2) (h : Hid (Wr [] wv.drew W) ∧ W.cell? ⟨w.heap.size, 0, none⟩ = some (.int .i64 3) ∧ W.cell? ⟨w.heap.size, 1, none⟩ = some (.int .i64 a) ∧ W.cell? ⟨w.heap.size, 2, none⟩ = some (.int .i64 b) ∧ W.cell? ⟨w.heap.size, 3, none⟩ = some (.int .i64 c)) => CE.out W2 (h.1.out.trans hb))
    clear e0 e1 e2 e3 ef
    go_region_held3 (fun W => Hid (Wr [] wv.drew W) ∧ W.cell? ⟨w.heap.size, 0, none⟩ = some (.int .i64 3) ∧ W.cell? ⟨w.heap.size, 1, none⟩ = some (.int .i64 a) ∧ W.cell? ⟨w.heap.size, 2, none⟩ = some (.int .i64 b) ∧ W.cell? ⟨w.heap.size, 3, none⟩ = some (.int .i64 c)) (first | exact INIT.out | exact KW.out _ _ (by assumption) (by assumption) | exact KW.out _ _ (Wr.of_below (by assumption) (Nat.le_refl _)) (by assumption) | exact KW.out _ _ (Wr.of_below ((Below.refl _ _).alloc (Nat.le_refl _) _) (Nat.le_refl _)) (by assumption))
      ((go_at_call 84; refine (ruleOf_tim a b _).mono ?_; rintro e w5 ⟨rfl, b5⟩; have S2 := Lib.hid (S1.out.go b5)))
    rename_i hHeld
    clear hHeld CE INIT KW S1 b5 hl0
    rcases bb with _ | _
    · have HC := Lib.hid (HN.out (of_decide_eq_false HB.out))
      go_wp2
      go_ret2
      exact ⟨by rw [← RES.out, HC.out]; rfl, S2.out.1⟩
    · have HC := Lib.hid (HY.out (of_decide_eq_true HB.out))
      go_wp2
      go_ret2
      exact ⟨by rw [← RES.out, HC.out]; rfl, S2.out.1⟩
  by_cases k3 : ki = 4
  · subst k3
    have HN := Lib.hid (cond_odd (r := ⟨4, a, b, c⟩) (c := .wrk a b c) (by simp [kindC]))
    have HY := Lib.hid (cond_yes (r := ⟨4, a, b, c⟩) (c := .wrk a b c) (by simp [kindC]))
    have hq : ∀ w : World, (binOp .neq 30 (.agg #[.int .i64 4, .int .i64 a, .int .i64 b, .int .i64 c]) (.agg #[.int .i64 4, .int .i64 a, .int .i64 b, .int .i64 c])).run Tryz.prog w = .ok (.bool (!decide ((Cd.wrk a b c).ru = ⟨4, a, b, c⟩))) w := fun w => neq_ru (Cd.wrk a b c).ru ⟨4, a, b, c⟩ w
    generalize hbb : decide ((Cd.wrk a b c).ru = ⟨4, a, b, c⟩) = bb at hq
    have HB := Lib.hid hbb
    clear hbb
    go_enter Tryz.func67, Tryz.ntmps67
    go_wp2_with fail
    generalize World.alloc w _ = wv at S0 ⊢
    obtain ⟨e0, e1, e2, e3, ef⟩ := (S0.out.bk 0 rfl).c4
    have hl0 := (S0.out.bk 0 rfl).lt
    have S1 := Lib.hid S0.out.drew1
    have CE := Lib.hid (fun (W : World) (h : Wr [] wv.drew W) => show Hid (Wr [] wv.drew W) ∧ W.cell? ⟨w.heap.size, 0, none⟩ = some (.int .i64 4) ∧ W.cell? ⟨w.heap.size, 1, none⟩ = some (.int .i64 a) ∧ W.cell? ⟨w.heap.size, 2, none⟩ = some (.int .i64 b) ∧ W.cell? ⟨w.heap.size, 3, none⟩ = some (.int .i64 c) from ⟨Lib.hid h, (wr_cell h (p := ⟨w.heap.size, 0, none⟩) hl0 (by simp)).trans (by exact by simpa using e0), (wr_cell h (p := ⟨w.heap.size, 1, none⟩) hl0 (by simp)).trans (by exact by simpa using e1), (wr_cell h (p := ⟨w.heap.size, 2, none⟩) hl0 (by simp)).trans (by exact by simpa using e2), (wr_cell h (p := ⟨w.heap.size, 3, none⟩) hl0 (by simp)).trans (by exact by simpa using e3)⟩)
    have INIT := Lib.hid (CE.out _ (Wr.refl _ _))
    have KW := Lib.hid (fun (W2 W : World) (hb : Wr [] W W2) (h : Hid (Wr [] wv.drew W) ∧ W.cell? ⟨w.heap.size, 0, none⟩ = some (.int .i64 4) ∧ W.cell? ⟨w.heap.size, 1, none⟩ = some (.int .i64 a) ∧ W.cell? ⟨w.heap.size, 2, none⟩ = some (.int .i64 b) ∧ W.cell? ⟨w.heap.size, 3, none⟩ = some (.int .i64 c)) => CE.out W2 (h.1.out.trans hb))
    clear e0 e1 e2 e3 ef
    go_region_held3 (fun W => Hid (Wr [] wv.drew W) ∧ W.cell? ⟨w.heap.size, 0, none⟩ = some (.int .i64 4) ∧ W.cell? ⟨w.heap.size, 1, none⟩ = some (.int .i64 a) ∧ W.cell? ⟨w.heap.size, 2, none⟩ = some (.int .i64 b) ∧ W.cell? ⟨w.heap.size, 3, none⟩ = some (.int .i64 c)) (first | exact INIT.out | exact KW.out _ _ (by assumption) (by assumption) | exact KW.out _ _ (Wr.of_below (by assumption) (Nat.le_refl _)) (by assumption) | exact KW.out _ _ (Wr.of_below ((Below.refl _ _).alloc (Nat.le_refl _) _) (Nat.le_refl _)) (by assumption))
      ((go_at_call 84; refine (ruleOf_wrk a b c _).mono ?_; rintro e w5 ⟨rfl, b5⟩; have S2 := Lib.hid (S1.out.go b5)))
    rename_i hHeld
    clear hHeld CE INIT KW S1 b5 hl0
    rcases bb with _ | _
    · have HC := Lib.hid (HN.out (of_decide_eq_false HB.out))
      go_wp2
      go_ret2
      exact ⟨by rw [← RES.out, HC.out]; rfl, S2.out.1⟩
    · have HC := Lib.hid (HY.out (of_decide_eq_true HB.out))
      go_wp2
      go_ret2
      exact ⟨by rw [← RES.out, HC.out]; rfl, S2.out.1⟩
  by_cases k4 : ki = 5
  · subst k4
    have HN := Lib.hid (cond_odd (r := ⟨5, a, b, c⟩) (c := .par a b c) (by simp [kindC]))
    have HY := Lib.hid (cond_yes (r := ⟨5, a, b, c⟩) (c := .par a b c) (by simp [kindC]))
    have hq : ∀ w : World, (binOp .neq 30 (.agg #[.int .i64 5, .int .i64 a, .int .i64 b, .int .i64 c]) (.agg #[.int .i64 5, .int .i64 a, .int .i64 b, .int .i64 c])).run Tryz.prog w = .ok (.bool (!decide ((Cd.par a b c).ru = ⟨5, a, b, c⟩))) w := fun w => neq_ru (Cd.par a b c).ru ⟨5, a, b, c⟩ w
    generalize hbb : decide ((Cd.par a b c).ru = ⟨5, a, b, c⟩) = bb at hq
    have HB := Lib.hid hbb
    clear hbb
    go_enter Tryz.func67, Tryz.ntmps67
    go_wp2_with fail
    generalize World.alloc w _ = wv at S0 ⊢
    obtain ⟨e0, e1, e2, e3, ef⟩ := (S0.out.bk 0 rfl).c4
    have hl0 := (S0.out.bk 0 rfl).lt
    have S1 := Lib.hid S0.out.drew1
    have CE := Lib.hid (fun (W : World) (h : Wr [] wv.drew W) => show Hid (Wr [] wv.drew W) ∧ W.cell? ⟨w.heap.size, 0, none⟩ = some (.int .i64 5) ∧ W.cell? ⟨w.heap.size, 1, none⟩ = some (.int .i64 a) ∧ W.cell? ⟨w.heap.size, 2, none⟩ = some (.int .i64 b) ∧ W.cell? ⟨w.heap.size, 3, none⟩ = some (.int .i64 c) from ⟨Lib.hid h, (wr_cell h (p := ⟨w.heap.size, 0, none⟩) hl0 (by simp)).trans (by exact by simpa using e0), (wr_cell h (p := ⟨w.heap.size, 1, none⟩) hl0 (by simp)).trans (by exact by simpa using e1), (wr_cell h (p := ⟨w.heap.size, 2, none⟩) hl0 (by simp)).trans (by exact by simpa using e2), (wr_cell h (p := ⟨w.heap.size, 3, none⟩) hl0 (by simp)).trans (by exact by simpa using e3)⟩)
    have INIT := Lib.hid (CE.out _ (Wr.refl _ _))
    have KW := Lib.hid (fun (W2 W : World) (hb : Wr [] W W2) (h : Hid (Wr [] wv.drew W) ∧ W.cell? ⟨w.heap.size, 0, none⟩ = some (.int .i64 5) ∧ W.cell? ⟨w.heap.size, 1, none⟩ = some (.int .i64 a) ∧ W.cell? ⟨w.heap.size, 2, none⟩ = some (.int .i64 b) ∧ W.cell? ⟨w.heap.size, 3, none⟩ = some (.int .i64 c)) => CE.out W2 (h.1.out.trans hb))
    clear e0 e1 e2 e3 ef
    go_region_held3 (fun W => Hid (Wr [] wv.drew W) ∧ W.cell? ⟨w.heap.size, 0, none⟩ = some (.int .i64 5) ∧ W.cell? ⟨w.heap.size, 1, none⟩ = some (.int .i64 a) ∧ W.cell? ⟨w.heap.size, 2, none⟩ = some (.int .i64 b) ∧ W.cell? ⟨w.heap.size, 3, none⟩ = some (.int .i64 c)) (first | exact INIT.out | exact KW.out _ _ (by assumption) (by assumption) | exact KW.out _ _ (Wr.of_below (by assumption) (Nat.le_refl _)) (by assumption) | exact KW.out _ _ (Wr.of_below ((Below.refl _ _).alloc (Nat.le_refl _) _) (Nat.le_refl _)) (by assumption))
      ((go_at_call 84; refine (ruleOf_par a b c _).mono ?_; rintro e w5 ⟨rfl, b5⟩; have S2 := Lib.hid (S1.out.go b5)))
    rename_i hHeld
    clear hHeld CE INIT KW S1 b5 hl0
    rcases bb with _ | _
    · have HC := Lib.hid (HN.out (of_decide_eq_false HB.out))
      go_wp2
      go_ret2
      exact ⟨by rw [← RES.out, HC.out]; rfl, S2.out.1⟩
    · have HC := Lib.hid (HY.out (of_decide_eq_true HB.out))
      go_wp2
      go_ret2
      exact ⟨by rw [← RES.out, HC.out]; rfl, S2.out.1⟩
  by_cases k5 : ki = 6
  · subst k5
    have HN := Lib.hid (cond_odd (r := ⟨6, a, b, c⟩) (c := .stk a) (by simp [kindC]))
    have HY := Lib.hid (cond_yes (r := ⟨6, a, b, c⟩) (c := .stk a) (by simp [kindC]))
    have hq : ∀ w : World, (binOp .neq 30 (.agg #[.int .i64 6, .int .i64 a, .int .i64 0, .int .i64 0]) (.agg #[.int .i64 6, .int .i64 a, .int .i64 b, .int .i64 c])).run Tryz.prog w = .ok (.bool (!decide ((Cd.stk a).ru = ⟨6, a, b, c⟩))) w := fun w => neq_ru (Cd.stk a).ru ⟨6, a, b, c⟩ w
    generalize hbb : decide ((Cd.stk a).ru = ⟨6, a, b, c⟩) = bb at hq
    have HB := Lib.hid hbb
    clear hbb
    go_enter Tryz.func67, Tryz.ntmps67
    go_wp2_with fail
    generalize World.alloc w _ = wv at S0 ⊢
    obtain ⟨e0, e1, e2, e3, ef⟩ := (S0.out.bk 0 rfl).c4
    have hl0 := (S0.out.bk 0 rfl).lt
    have S1 := Lib.hid S0.out.drew1
    have CE := Lib.hid (fun (W : World) (h : Wr [] wv.drew W) => show Hid (Wr [] wv.drew W) ∧ W.cell? ⟨w.heap.size, 0, none⟩ = some (.int .i64 6) ∧ W.cell? ⟨w.heap.size, 1, none⟩ = some (.int .i64 a) ∧ W.cell? ⟨w.heap.size, 2, none⟩ = some (.int .i64 b) ∧ W.cell? ⟨w.heap.size, 3, none⟩ = some (.int .i64 c) from ⟨Lib.hid h, (wr_cell h (p := ⟨w.heap.size, 0, none⟩) hl0 (by simp)).trans (by exact by simpa using e0), (wr_cell h (p := ⟨w.heap.size, 1, none⟩) hl0 (by simp)).trans (by exact by simpa using e1), (wr_cell h (p := ⟨w.heap.size, 2, none⟩) hl0 (by simp)).trans (by exact by simpa using e2), (wr_cell h (p := ⟨w.heap.size, 3, none⟩) hl0 (by simp)).trans (by exact by simpa using e3)⟩)
    have INIT := Lib.hid (CE.out _ (Wr.refl _ _))
    have KW := Lib.hid (fun (W2 W : World) (hb : Wr [] W W2) (h : Hid (Wr [] wv.drew W) ∧ W.cell? ⟨w.heap.size, 0, none⟩ = some (.int .i64 6) ∧ W.cell? ⟨w.heap.size, 1, none⟩ = some (.int .i64 a) ∧ W.cell? ⟨w.heap.size, 2, none⟩ = some (.int .i64 b) ∧ W.cell? ⟨w.heap.size, 3, none⟩ = some (.int .i64 c)) => CE.out W2 (h.1.out.trans hb))
    clear e0 e1 e2 e3 ef
    go_region_held3 (fun W => Hid (Wr [] wv.drew W) ∧ W.cell? ⟨w.heap.size, 0, none⟩ = some (.int .i64 6) ∧ W.cell? ⟨w.heap.size, 1, none⟩ = some (.int .i64 a) ∧ W.cell? ⟨w.heap.size, 2, none⟩ = some (.int .i64 b) ∧ W.cell? ⟨w.heap.size, 3, none⟩ = some (.int .i64 c)) (first | exact INIT.out | exact KW.out _ _ (by assumption) (by assumption) | exact KW.out _ _ (Wr.of_below (by assumption) (Nat.le_refl _)) (by assumption) | exact KW.out _ _ (Wr.of_below ((Below.refl _ _).alloc (Nat.le_refl _) _) (Nat.le_refl _)) (by assumption))
      ((go_at_call 84; refine (ruleOf_stk a _).mono ?_; rintro e w5 ⟨rfl, b5⟩; have S2 := Lib.hid (S1.out.go b5)))
    rename_i hHeld
    clear hHeld CE INIT KW S1 b5 hl0
    rcases bb with _ | _
    · have HC := Lib.hid (HN.out (of_decide_eq_false HB.out))
      go_wp2
      go_ret2
      exact ⟨by rw [← RES.out, HC.out]; rfl, S2.out.1⟩
    · have HC := Lib.hid (HY.out (of_decide_eq_true HB.out))
      go_wp2
      go_ret2
      exact ⟨by rw [← RES.out, HC.out]; rfl, S2.out.1⟩
  have CN := Lib.hid (cond_none (r := ⟨ki, a, b, c⟩) (by simp [kindC, k0, k1, k2, k3, k4, k5]))
  go_enter Tryz.func67, Tryz.ntmps67
  go_wp2
  go_ret2
  exact ⟨by rw [← RES.out, CN.out]; rfl, S0.out.1⟩
end Go.Proofs.YtaglfdkeomjpdabGreatDoor
end

section
namespace Go.Proofs.YtaglfdkeomjpdabGreatDoor
open Go.RowKit
set_option linter.unusedVariables false

theorem Sn.setV {w0 W : World} {L : List Item} {e : TypeId} {xs : List Value} {g n c : Nat} {F : List Nat} (h : Sn w0 W (⟨flat e xs, .slice (some ⟨g, 0, none⟩) n c, F⟩ :: L)) (hl : xs.length = n) (i : Nat) (y : Value) :
    Sn w0 (W.setCell ⟨g, i, none⟩ y) (⟨flat e (xs.set i y), .slice (some ⟨g, 0, none⟩) n c, F⟩ :: L) := by
  have ho := (own_flat h.2.1).1
  have hF : F = [g] := (own_flat h.2.1).2
  have ho : W.ownsRow w0.heap.size e 1 (.slice (some ⟨g, 0, none⟩) n c) xs.length xs := ho
  rw [hl] at ho
  have hs := (ho.stored i y).1
  have hf := flat_own hs
  subst hF
  exact h.turn (t' := flat e (xs.set i y)) hf.1 hf.2 (fun k hk => .inl hk) (Wr.setCell W ⟨g, i, none⟩ (by simp) _)
theorem Sn.cellV {w0 W : World} {L : List Item} {e : TypeId} {xs : List Value} {g n c : Nat} {F : List Nat} (h : Sn w0 W (⟨flat e xs, .slice (some ⟨g, 0, none⟩) n c, F⟩ :: L)) (hl : xs.length = n) {i : Nat} (hi : i < xs.length) :
    W.cell? ⟨g, i, none⟩ = some xs[i] ∧ W.frozen? ⟨g, i, none⟩ = false := by
  obtain ⟨ho, _⟩ := own_flat h.2.1
  have ho : W.ownsRow w0.heap.size e 1 (.slice (some ⟨g, 0, none⟩) n c) xs.length xs := ho
  rw [hl] at ho
  exact ⟨(ho.cellAt i (by omega)).trans (List.getElem?_eq_getElem hi), ho.frozenAt i⟩
theorem Sn.appV {w0 W w6 : World} {L : List Item} {e : TypeId} {xs : List Value} {v v' : Value} {F : List Nat} {r : Value} {n : Nat} {o : Obj}
    (h : Sn w0 W (⟨flat e xs, v, F⟩ :: L)) (hown : w6.ownsRow w0.heap.size e 1 v' n (xs ++ [r]))
    (hg : (W.alloc o).grownBy w6 v.ownBlock) (hat : v'.ownBlock = v.ownBlock ∨ v'.ownBlock = some (W.heap.size + 1)) : ∃ F', Sn w0 w6 (⟨flat e (xs ++ [r]), v', F'⟩ :: L) := by
  have h1 := h.go ((Below.refl W.heap.size W).alloc (Nat.le_refl _) o)
  have hF : F = v.ownBlock.toList := (own_flat h1.2.1).2
  have hw : Wr F (W.alloc o) w6 := hF ▸ Wr.of_grown hg
  refine ⟨_, h1.turn (t' := flat e (xs ++ [r])) (flat_own hown).1 (flat_own hown).2 (fun k hk => ?_) hw⟩
  rcases hat with h2 | h2
  · left; show k ∈ F; rw [hF, ← h2]; exact hk
  · right
    rw [h2] at hk
    simp at hk
    rw [World.size_alloc]; omega
/-- A row of n elements of s plain cells. -/
def flatN (e : TypeId) (s n : Nat) (xs : List Value) : Tr := .row e s n (xs.map .one)
theorem flatN_own {w : World} {B : Nat} {e : TypeId} {s n : Nat} {xs : List Value} {v : Value} (h : w.ownsRow B e s v n xs) : (flatN e s n xs).own w B v v.ownBlock.toList ∧ v.ownBlock.toList.Nodup :=
  ⟨⟨xs, [], h, ownL_ones.2 ⟨rfl, rfl⟩, by simp⟩, by cases v.ownBlock <;> simp⟩
theorem own_flatN {w : World} {B : Nat} {e : TypeId} {s n : Nat} {xs : List Value} {v : Value} {F : List Nat} (h : (flatN e s n xs).own w B v F) : w.ownsRow B e s v n xs ∧ F = v.ownBlock.toList := by
  obtain ⟨vs, G, ho, hv, hF⟩ := h
  obtain ⟨rfl, rfl⟩ := ownL_ones.1 hv
  exact ⟨ho, by simpa using hF⟩
theorem Sn.ownN {w0 W : World} {L : List Item} {e : TypeId} {s n : Nat} {xs : List Value} {v : Value} {F : List Nat} (h : Sn w0 W (⟨flatN e s n xs, v, F⟩ :: L)) : W.ownsRow w0.heap.size e s v n xs := (own_flatN h.2.1).1
theorem Sn.appN {w0 W W1 w6 : World} {L : List Item} {e : TypeId} {s n n' : Nat} {xs rs : List Value} {v v' : Value} {F : List Nat}
    (h : Sn w0 W (⟨flatN e s n xs, v, F⟩ :: L)) (hW : Below W.heap.size W W1) (hown : w6.ownsRow w0.heap.size e s v' n' (xs ++ rs))
    (hg : W1.grownBy w6 v.ownBlock) (hat : v'.ownBlock = v.ownBlock ∨ v'.ownBlock = some W1.heap.size) : ∃ F', Sn w0 w6 (⟨flatN e s n' (xs ++ rs), v', F'⟩ :: L) := by
  have h1 := h.go hW
  have hF : F = v.ownBlock.toList := (own_flatN h1.2.1).2
  have hw : Wr F W1 w6 := hF ▸ Wr.of_grown hg
  refine ⟨_, h1.turn (t' := flatN e s n' (xs ++ rs)) (flatN_own hown).1 (flatN_own hown).2 (fun k hk => ?_) hw⟩
  rcases hat with h2 | h2
  · left; show k ∈ F; rw [hF, ← h2]; exact hk
  · right
    rw [h2] at hk
    simp at hk
    omega
theorem Sn.nilN {w0 W : World} {L : List Item} (e : TypeId) (s : Nat) (h : Sn w0 W L) : Sn w0 W (⟨flatN e s 0 [], .slice none 0 0, []⟩ :: L) :=
  ⟨h.1, ⟨[], [], ⟨by simp, .inl ⟨rfl, rfl⟩⟩, ⟨rfl, rfl⟩, rfl⟩, by simp, fun _ _ _ hk => by simp at hk, h.2⟩
theorem Sn.emptyN {w0 W : World} {L : List Item} (e : TypeId) (s : Nat) (h : Sn w0 W L) : Sn w0 (W.alloc (.cells #[] e)) (⟨flatN e s 0 [], .slice (some ⟨W.heap.size, 0, none⟩) 0 0, [W.heap.size]⟩ :: L) :=
  h.new ⟨[], [], ⟨by simp, .inr ⟨W.heap.size, 0, #[], rfl, Nat.le_refl _, heap_alloc_new W _, Nat.le_refl _, by unfold maxLen; omega, by simp, by simp⟩⟩, ⟨rfl, rfl⟩, rfl⟩ (by simp) ((Below.refl _ _).alloc (Nat.le_refl _) _)
theorem four_cells (w : World) (x y z u : Value) (t : TypeId) : ∀ j q, [x, y, z, u][j]? = some q → (w.alloc (.cells #[x, y, z, u] t)).cell? ((⟨w.heap.size, 0, none⟩ : Addr).add j) = some q := fun j q h => by
  obtain ⟨c0, c1, c2, c3, _⟩ := (Bk.new w t #[x, y, z, u]).c4
  have hj : j < 4 := by simpa using (List.getElem?_eq_some_iff.1 h).1
  rcases (by omega : j = 0 ∨ j = 1 ∨ j = 2 ∨ j = 3) with rfl | rfl | rfl | rfl
  · rw [show (⟨w.heap.size, 0, none⟩ : Addr).add 0 = ⟨w.heap.size, 0, none⟩ from by simp [Addr.add], c0]; exact h
  · rw [show (⟨w.heap.size, 0, none⟩ : Addr).add 1 = ⟨w.heap.size, 1, none⟩ from by simp [Addr.add], c1]; exact h
  · rw [show (⟨w.heap.size, 0, none⟩ : Addr).add 2 = ⟨w.heap.size, 2, none⟩ from by simp [Addr.add], c2]; exact h
  · rw [show (⟨w.heap.size, 0, none⟩ : Addr).add 3 = ⟨w.heap.size, 3, none⟩ from by simp [Addr.add], c3]; exact h
/-- A slice of plain cells appended whole to an own row. -/
theorem app_rdV {w : World} {ops : Array Oper} {rest : List Oper} {o : Oper} {a : Act} {Q : Exit → Act → World → Prop} (hgd : o.guard = none) (s x : Operand) (t e : TypeId) (i0 : TypeInfo) (z : Value) (by0 : Nat)
    (ho : o.op = .call { callee := .builtin .append, args := #[s, x], argTypes := #[t, t] }) (ht : Tryz.prog.underlying t = some (.slice e)) (hi : Tryz.prog.info? e = some i0) (hz0 : i0.zero = some z) (hz1 : i0.size = 1) (hz2 : i0.bytes = by0) (hzc : z.cells.size = 1) (hby : by0 ≤ 64)
    (base : Nat) (v vx : Value) (xs ys : List Value) (hs : a.eval s = v) (hx : a.eval x = vx) (hown : w.ownsRow base e 1 v xs.length xs) (hr : Rd w vx ys) (h1c : ∀ u ∈ ys, u.oneCell' = true) (hnil : NilOk vx)
    (hlen : xs.length + ys.length ≤ 1048576) (hbase : base ≤ w.heap.size)
    (h : ∀ v' w', w'.ownsRow base e 1 v' (xs ++ ys).length (xs ++ ys) → w.grownBy w' v.ownBlock → (v'.ownBlock = v.ownBlock ∨ v'.ownBlock = some w.heap.size) → wpList Tryz.prog ops Q rest (a.put o.dst v') w') :
    wpList Tryz.prog ops Q (o :: rest) a w := by
  obtain ⟨hl, A, c, rfl, hA⟩ := hr
  have hbb : (xs.length + ys.length) * by0 ≤ 140737488355328 := Nat.le_trans (Nat.mul_le_mul hlen hby) (by decide)
  have key : ∀ ad, A = some ad → (∀ j u, ys[j]? = some u → w.cell? (ad.add j) = some u) → wpList Tryz.prog ops Q (o :: rest) a w := by
    intro ad had hc
    subst had
    refine wpList_append_own_at w hgd s x t ho base e i0 z 1 by0 ht hi hz0 hz1 hz2 hzc (by decide) v xs.length xs hs hown ad ys.length c ys hx (by simp) hc h1c (by unfold maxLen; omega) hbb hbase ?_
    intro v' w' h1 h2 _ h4
    exact h v' w' (by rw [List.length_append]; exact h1) h2 h4
  rcases hA with hA | ⟨b, off, rfl, hb, hc⟩
  · subst hA
    cases A with
    | some ad => exact key ad rfl (by intro j u hu; simp at hu)
    | none =>
      have hc0 : c = 0 := hnil _ _ rfl
      subst hc0
      refine wpList_append_own_none hgd s x t ho base e i0 1 ht hi v xs.length xs hs hown hx ?_
      exact h v w (by simpa using hown) ⟨rfl, rfl, rfl, Nat.le_refl _, fun _ _ _ => rfl⟩ (.inl rfl)
  · refine key _ rfl fun j u hu => ?_
    obtain ⟨hj, rfl⟩ := List.getElem?_eq_some_iff.1 hu
    have hadd : (⟨b, off, none⟩ : Addr).add j = ⟨b, off + j, none⟩ := by unfold Addr.add; split <;> simp_all
    rw [hadd]
    exact hc j hj
end Go.Proofs.YtaglfdkeomjpdabGreatDoor
end

section
namespace Go.Proofs.YtaglfdkeomjpdabGreatDoor
open Go.RowKit Go.Shelf
set_option linter.unusedVariables false

def cells4 (l : List Ru) : List Value := l.flatMap fun r => [.int .i64 r.ki, .int .i64 r.a, .int .i64 r.b, .int .i64 r.c]
theorem flat_ru : ∀ xs : List Ru, xs.flatMap cellsRu = (cells4 xs).map .one
  | [] => rfl
  | r :: xs => by rw [List.flatMap_cons, flat_ru xs]; rfl
theorem cells4_app (l m : List Ru) : cells4 (l ++ m) = cells4 l ++ cells4 m := by simp [cells4]
theorem trRus_eq (xs : List Ru) : trRus xs = flatN 30 4 xs.length (cells4 xs) := by unfold trRus rows flatN; rw [flat_ru]
/-- A slice of the rules of conditions. -/
def rowR (l : List Cd) : Tr := flatN 30 4 l.length (cells4 (l.map Cd.ru))
theorem rowR_tr (l : List Cd) : rowR l = trRus (l.map Cd.ru) := by rw [trRus_eq, List.length_map]; rfl
section
variable {w0 W W1 w6 : World} {L : List Item} {l : List Cd} {v v' : Value} {F : List Nat}
theorem Sn.ownR (h : Sn w0 W (⟨rowR l, v, F⟩ :: L)) : W.ownsRow w0.heap.size 30 4 v l.length (cells4 (l.map Cd.ru)) := h.ownN
theorem Sn.appR {n : Nat} (c : Cd) (h : Sn w0 W (⟨rowR l, v, F⟩ :: L)) (hW : Below W.heap.size W W1) (hown : w6.ownsRow w0.heap.size 30 4 v' n (cells4 (l.map Cd.ru) ++ [.int .i64 c.ru.ki, .int .i64 c.ru.a, .int .i64 c.ru.b, .int .i64 c.ru.c]))
    (hn : n = l.length + 1) (hg : W1.grownBy w6 v.ownBlock) (hat : v'.ownBlock = v.ownBlock ∨ v'.ownBlock = some W1.heap.size) : ∃ F', Sn w0 w6 (⟨rowR (l ++ [c]), v', F'⟩ :: L) := by
  obtain ⟨F', h'⟩ := Sn.appN h hW hown hg hat
  refine ⟨F', ?_⟩
  have e : rowR (l ++ [c]) = flatN 30 4 n (cells4 (l.map Cd.ru) ++ [.int .i64 c.ru.ki, .int .i64 c.ru.a, .int .i64 c.ru.b, .int .i64 c.ru.c]) := by
    unfold rowR
    rw [List.map_append, cells4_app, hn, List.length_append]
    rfl
  rw [e]
  exact h'
theorem Sn.nilRu (h : Sn w0 W L) : Sn w0 W (⟨rowR [], .slice none 0 0, []⟩ :: L) := h.nilN 30 4
theorem Sn.emptyRu (h : Sn w0 W L) : Sn w0 (W.alloc (.cells #[] 30)) (⟨rowR [], .slice (some ⟨W.heap.size, 0, none⟩) 0 0, [W.heap.size]⟩ :: L) := h.emptyN 30 4
end
/-- A slice of plain cells opened at its indices. -/
theorem rdV {α : Type} {f : α → Value} {w : World} {A : Option Addr} {n c : Nat} {xs : List α} (h : Rd w (.slice A n c) (xs.map f)) : n = xs.length ∧ ∀ k, k < xs.length → ∃ b o, A = some ⟨b, o, none⟩ ∧ b < w.heap.size ∧ ∀ j, (hj : j < xs.length) → w.cell? ⟨b, o + j, none⟩ = some (f xs[j]) := by
  obtain ⟨_, A', c', he, h⟩ := h
  injection he with h1 h2 h3
  subst h1 h2
  simp only [List.length_map] at *
  refine ⟨trivial, fun k hk => ?_⟩
  rcases h with h | ⟨b, o, rfl, hb, hc⟩
  · have : xs = [] := by simpa using h
    subst this
    exact absurd hk (by simp)
  · exact ⟨b, o, rfl, hb, fun j hj => by simpa using hc j hj⟩
end Go.Proofs.YtaglfdkeomjpdabGreatDoor
end
