/- DERIVED. Mathematics of chapter 11 (rules). No dump. -/
import Derived.Test.YtaglfdkeomjpdaaGreatScM
import Derived.Test.YtaglfdkeomjpdaaGreatPrF
namespace Go.Proofs.YtaglfdkeomjpdaaGreat
open Go.RowKit
set_option linter.unusedVariables false

def rsA (p : Pj) (r : Nat) : Rs := p.ress.getD r ⟨[], []⟩
def lkA (p : Pj) (i : Nat) : Lk := p.lks.getD i ⟨0, 0, false, 0⟩
def skA (p : Pj) (i : Nat) : Int := p.stk.getD i 0
theorem rsA_at {p : Pj} {r : Nat} (h : r < p.ress.length) : rsA p r = p.ress[r] := by simp [rsA, List.getD, List.getElem?_eq_getElem h]
theorem lkA_at {p : Pj} {r : Nat} (h : r < p.lks.length) : lkA p r = p.lks[r] := by simp [lkA, List.getD, List.getElem?_eq_getElem h]
theorem skA_at {p : Pj} {r : Nat} (h : r < p.stk.length) : skA p r = p.stk[r] := by simp [skA, List.getD, List.getElem?_eq_getElem h]

/-- A rule as a condition of its kind. -/
inductive Cd where
  | lnk (a : Int)
  | fin (a : Int)
  | tim (a b : Int)
  | wrk (a b c : Int)
  | par (a b c : Int)
  | stk (a : Int)
def Cd.ru : Cd → Ru
  | .lnk a => ⟨1, a, 0, 0⟩
  | .fin a => ⟨2, a, 0, 0⟩
  | .tim a b => ⟨3, a, b, 0⟩
  | .wrk a b c => ⟨4, a, b, c⟩
  | .par a b c => ⟨5, a, b, c⟩
  | .stk a => ⟨6, a, 0, 0⟩
/-- The condition of a rule's kind, whatever stands in the fields that it does not use. -/
def kindC (r : Ru) : Option Cd :=
  if r.ki = 1 then some (.lnk r.a) else if r.ki = 2 then some (.fin r.a) else if r.ki = 3 then some (.tim r.a r.b)
  else if r.ki = 4 then some (.wrk r.a r.b r.c) else if r.ki = 5 then some (.par r.a r.b r.c) else if r.ki = 6 then some (.stk r.a) else none
def condOf (r : Ru) : Option Cd := match kindC r with | some c => if c.ru = r then some c else none | none => none
theorem kind_ru (c : Cd) : kindC c.ru = some c := by cases c <;> rfl
theorem cond_ru (c : Cd) : condOf c.ru = some c := by rw [condOf, kind_ru]; simp
theorem cond_some {r : Ru} {c : Cd} (h : condOf r = some c) : c.ru = r := by
  unfold condOf at h
  split at h
  · split at h
    · next e => exact (Option.some.inj h) ▸ e
    · cases h
  · cases h
theorem cond_none {r : Ru} (h : kindC r = none) : condOf r = none := by rw [condOf, h]
theorem cond_odd {r : Ru} {c : Cd} (h : kindC r = some c) (hn : ¬ c.ru = r) : condOf r = none := by rw [condOf, h]; simp [hn]
theorem cond_yes {r : Ru} {c : Cd} (h : kindC r = some c) (he : c.ru = r) : condOf r = some c := by rw [condOf, h]; simp [he]

def thereC (p : Pj) : Cd → Bool
  | .lnk a => inB a 0 ((p.lks.length : Int) - 1)
  | .fin a => inB a 0 ((p.acts.length : Int) - 1)
  | .tim a b => inB a 0 ((p.ress.length : Int) - 1) && inB b 0 60
  | .wrk a b c => inB a 0 ((p.ress.length : Int) - 1) && (inB b 0 60 && (inB c 0 60 && decide (b < c)))
  | .par a b c => machB p a && (inB b 0 (c - 1) && inB c 0 ((p.acts.length : Int) - 1))
  | .stk a => inB a 0 ((p.stk.length : Int) - 1)
noncomputable def ruOkB (p : Pj) (r : Ru) : Bool := pokB p && (match condOf r with | some c => thereC p c | none => false)
theorem ruOk_none {p : Pj} {r : Ru} (h : condOf r = none) : ruOkB p r = false := by rw [ruOkB, h]; simp
theorem ruOk_pok {p : Pj} {r : Ru} (h : pokB p = false) : ruOkB p r = false := by rw [ruOkB, h]; simp
theorem ruOk_some {p : Pj} {r : Ru} {c : Cd} (h : condOf r = some c) (hp : pokB p = true) : ruOkB p r = thereC p c := by rw [ruOkB, h, hp]; simp
theorem ruOk_ru {p : Pj} {c : Cd} (hp : pokB p = true) : ruOkB p c.ru = thereC p c := ruOk_some (cond_ru c) hp

-- work
def lastsA (p : Pj) (s : Sc) (x y : Int) (a : Nat) : Int := max 0 (min (endA p s a) y - max (stA s a) x)
def wsumK (p : Pj) (s : Sc) (r : Nat) (x y : Int) : Nat → Int
  | 0 => 0
  | k + 1 => wsumK p s r x y k + lastsA p s x y k * usA p s r k
def wrkT (p : Pj) (s : Sc) (r : Nat) (x : Int) (n : Nat) : Nat → Int
  | 0 => 0
  | k + 1 => wrkT p s r x n k + useK p s r (x + k) n
theorem wsum_none (p : Pj) (s : Sc) (r : Nat) (x : Int) : ∀ m, wsumK p s r x x m = 0
  | 0 => rfl
  | m + 1 => by
    rw [wsumK, wsum_none p s r x m, show lastsA p s x x m = 0 from by unfold lastsA; omega, Int.zero_mul]; rfl
theorem lasts_next (p : Pj) (s : Sc) {x y : Int} (h : x ≤ y) (a : Nat) : lastsA p s x (y + 1) a = lastsA p s x y a + if runA p s y a = true then 1 else 0 := by
  unfold lastsA runA
  simp only [Bool.and_eq_true, decide_eq_true_eq]
  split <;> omega
theorem wsum_next (p : Pj) (s : Sc) (r : Nat) {x y : Int} (h : x ≤ y) : ∀ m, wsumK p s r x (y + 1) m = wsumK p s r x y m + useK p s r y m
  | 0 => rfl
  | m + 1 => by
    rw [wsumK, wsumK, useK, wsum_next p s r h m, lasts_next p s h m, Int.add_mul]
    by_cases e : runA p s y m = true
    · rw [if_pos e, if_pos e, Int.one_mul]; omega
    · rw [if_neg e, if_neg e, Int.zero_mul]; omega
theorem wsum_wrk (p : Pj) (s : Sc) (r : Nat) (x : Int) (m : Nat) : ∀ k : Nat, wsumK p s r x (x + k) m = wrkT p s r x m k
  | 0 => by rw [show x + ((0 : Nat) : Int) = x from by omega, wsum_none]; rfl
  | k + 1 => by rw [show x + ((k + 1 : Nat) : Int) = x + k + 1 from by omega, wsum_next p s r (by omega), wsum_wrk p s r x m k]; rfl
theorem wsum_one (p : Pj) (s : Sc) (r : Nat) (t : Int) (m : Nat) : wsumK p s r t (t + 1) m = useK p s r t m := by rw [wsum_next p s r (Int.le_refl _), wsum_none, Int.zero_add]
theorem lasts_hi {p : Pj} {s : Sc} (h : Form p s) {a : Nat} (ha : a < p.acts.length) (x y : Int) : 0 ≤ lastsA p s x y a ∧ lastsA p s x y a ≤ 12 := by
  have := h.du ha
  unfold lastsA endA
  omega
theorem term_hi {p : Pj} {s : Sc} (h : Form p s) {r a : Nat} (hr : r < p.ress.length) (ha : a < p.acts.length) (x y : Int) : 0 ≤ lastsA p s x y a * usA p s r a ∧ lastsA p s x y a * usA p s r a ≤ 240 := by
  have h1 := lasts_hi h ha x y
  have h2 := (h.us ha hr).2
  refine ⟨Int.mul_nonneg h1.1 h2.1, ?_⟩
  have := Int.mul_le_mul h1.2 h2.2 h2.1 (by omega)
  omega
theorem wsum_hi {p : Pj} {s : Sc} (h : Form p s) {r : Nat} (hr : r < p.ress.length) (x y : Int) : ∀ m, m ≤ p.acts.length → 0 ≤ wsumK p s r x y m ∧ wsumK p s r x y m ≤ 240 * m
  | 0, _ => by simp [wsumK]
  | m + 1, hm => by
    have i := wsum_hi h hr x y m (by omega)
    have t := term_hi h hr (a := m) (by omega) x y
    rw [wsumK]
    constructor <;> omega
theorem wrkT_hi {p : Pj} {s : Sc} (h : Form p s) {r : Nat} (hr : r < p.ress.length) (x : Int) : ∀ k, 0 ≤ wrkT p s r x p.acts.length k ∧ wrkT p s r x p.acts.length k ≤ 120 * k
  | 0 => by simp [wrkT]
  | k + 1 => by
    have i := wrkT_hi h hr x k
    have u := useK_hi (t := x + k) h hr p.acts.length (Nat.le_refl _)
    have := h.n6
    rw [wrkT]
    constructor <;> omega

-- what fails
def frA (p : Pj) (s : Sc) (l : Lk) : Int := if l.fe = true then endA p s l.fr.toNat else stA s l.fr.toNat
noncomputable def aheadB (p : Pj) (s : Sc) (r a b : Nat) : Bool := decide (endA p s a + setupT p (r : Int) (a : Int) (b : Int) ≤ stA s b)
noncomputable def pairF (p : Pj) (s : Sc) (r a b : Nat) : Bool := !(decide (usA p s r a = 0)) && (!(decide (usA p s r b = 0)) && (!aheadB p s r a b && !aheadB p s r b a))
noncomputable def failC (p : Pj) (s : Sc) : Cd → Bool
  | .lnk a => decide (stA s (lkA p a.toNat).to.toNat < frA p s (lkA p a.toNat) + (lkA p a.toNat).lag)
  | .fin a => decide (p.dl < endA p s a.toNat)
  | .tim a b => decide (atP (rsA p a.toNat).st b < useK p s a.toNat b p.acts.length)
  | .wrk a b c => decide (sumT (rsA p a.toNat).st b c < wrkT p s a.toNat b p.acts.length (c - b).toNat)
  | .par a b c => pairF p s a.toNat b.toNat c.toNat
  | .stk a => decide (skA p a.toNat < conK p s a.toNat p.acts.length)
noncomputable def violB (p : Pj) (s : Sc) (r : Ru) : Bool := formB p s && (match condOf r with | some c => thereC p c && failC p s c | none => false)
theorem viol_form {p : Pj} {s : Sc} {r : Ru} (h : formB p s = false) : violB p s r = false := by rw [violB, h]; rfl
theorem viol_none {p : Pj} {s : Sc} {r : Ru} (h : condOf r = none) : violB p s r = false := by rw [violB, h]; simp
theorem viol_there {p : Pj} {s : Sc} {r : Ru} {c : Cd} (h : condOf r = some c) (ht : thereC p c = false) : violB p s r = false := by rw [violB, h]; simp [ht]
theorem viol_yes {p : Pj} {s : Sc} {r : Ru} {c : Cd} (hf : formB p s = true) (h : condOf r = some c) (ht : thereC p c = true) : violB p s r = failC p s c := by rw [violB, h, hf]; simp [ht]
theorem viol_not {p : Pj} {s : Sc} {r : Ru} (h : ruOkB p r = false) : violB p s r = false := by
  rcases hf : formB p s with _ | _
  · exact viol_form hf
  · have hp := (form_of hf).ok
    rcases hc : condOf r with _ | c
    · exact viol_none hc
    · exact viol_there hc (by rw [← ruOk_some hc hp]; exact h)
theorem viol_ok {p : Pj} {s : Sc} {r : Ru} (hf : formB p s = true) (h : ruOkB p r = true) : ∃ c, condOf r = some c ∧ thereC p c = true ∧ violB p s r = failC p s c := by
  have hp := (form_of hf).ok
  rcases hc : condOf r with _ | c
  · rw [ruOk_none hc] at h; cases h
  · rw [ruOk_some hc hp] at h
    exact ⟨c, rfl, h, viol_yes hf hc h⟩

-- the listed rules
def lnkL (k : Nat) : List Cd := (List.range k).map fun (i : Nat) => .lnk (i : Int)
def finL (k : Nat) : List Cd := (List.range k).map fun (i : Nat) => .fin (i : Int)
def timL (r k : Nat) : List Cd := (List.range k).map fun (i : Nat) => .tim (r : Int) (i : Int)
def timsL (k : Nat) : List Cd := (List.range k).flatMap fun r => timL r 61
def parL (r b k : Nat) : List Cd := (List.range k).map fun (i : Nat) => .par (r : Int) (b : Int) ((b + 1 + i : Nat) : Int)
def parsL (r n k : Nat) : List Cd := (List.range k).flatMap fun b => parL r b (n - (b + 1))
def pairL (p : Pj) (r : Nat) : List Cd := if machB p (r : Int) = true then parsL r p.acts.length p.acts.length else []
def pairsL (p : Pj) (k : Nat) : List Cd := (List.range k).flatMap (pairL p)
def stkL (k : Nat) : List Cd := (List.range k).map fun (i : Nat) => .stk (i : Int)
theorem lnkL_succ (k : Nat) : lnkL (k + 1) = lnkL k ++ [.lnk (k : Int)] := by simp [lnkL, List.range_succ]
theorem finL_succ (k : Nat) : finL (k + 1) = finL k ++ [.fin (k : Int)] := by simp [finL, List.range_succ]
theorem timL_succ (r k : Nat) : timL r (k + 1) = timL r k ++ [.tim (r : Int) (k : Int)] := by simp [timL, List.range_succ]
theorem timsL_succ (k : Nat) : timsL (k + 1) = timsL k ++ timL k 61 := by simp [timsL, List.range_succ]
theorem parL_succ (r b k : Nat) : parL r b (k + 1) = parL r b k ++ [.par (r : Int) (b : Int) ((b + 1 + k : Nat) : Int)] := by simp [parL, List.range_succ]
theorem parsL_succ (r n k : Nat) : parsL r n (k + 1) = parsL r n k ++ parL r k (n - (k + 1)) := by simp [parsL, List.range_succ]
theorem pairsL_succ (p : Pj) (k : Nat) : pairsL p (k + 1) = pairsL p k ++ pairL p k := by simp [pairsL, List.range_succ]
theorem stkL_succ (k : Nat) : stkL (k + 1) = stkL k ++ [.stk (k : Int)] := by simp [stkL, List.range_succ]
theorem lnkL_len (k : Nat) : (lnkL k).length = k := by simp [lnkL]
theorem finL_len (k : Nat) : (finL k).length = k := by simp [finL]
theorem timL_len (r k : Nat) : (timL r k).length = k := by simp [timL]
theorem parL_len (r b k : Nat) : (parL r b k).length = k := by simp [parL]
theorem stkL_len (k : Nat) : (stkL k).length = k := by simp [stkL]
theorem timsL_len : ∀ k : Nat, (timsL k).length = 61 * k
  | 0 => rfl
  | k + 1 => by rw [timsL_succ, List.length_append, timsL_len k, timL_len]; omega
theorem parsL_len (r n : Nat) : ∀ k : Nat, (parsL r n k).length ≤ n * k
  | 0 => by simp [parsL]
  | k + 1 => by
    have := parsL_len r n k
    rw [parsL_succ, List.length_append, parL_len, Nat.mul_add]
    omega
theorem pairL_len (p : Pj) (r : Nat) : (pairL p r).length ≤ p.acts.length * p.acts.length := by
  unfold pairL
  split
  · exact parsL_len _ _ _
  · simp
theorem pairsL_len (p : Pj) : ∀ k : Nat, (pairsL p k).length ≤ p.acts.length * p.acts.length * k
  | 0 => by simp [pairsL]
  | k + 1 => by
    have := pairsL_len p k
    have := pairL_len p k
    rw [pairsL_succ, List.length_append, Nat.mul_add]
    omega
def listC (p : Pj) : List Cd := lnkL p.lks.length ++ finL p.acts.length ++ timsL p.ress.length ++ pairsL p p.ress.length ++ stkL p.stk.length
theorem pok_lens {p : Pj} (h : pokB p = true) : p.lks.length ≤ 12 ∧ p.acts.length ≤ 6 ∧ p.ress.length ≤ 3 ∧ p.stk.length ≤ 2 := by
  simp only [pokB, Bool.and_eq_true, decide_eq_true_eq] at h
  have := inB_iff.1 h.2.1
  omega
theorem sq_le {n k : Nat} (hn : n ≤ 6) (hk : k ≤ 3) : n * n * k ≤ 108 := by
  have h1 : n * n ≤ 36 := Nat.mul_le_mul hn hn
  exact Nat.mul_le_mul h1 hk
theorem listC_len {p : Pj} (h : pokB p = true) : (listC p).length ≤ 400 := by
  obtain ⟨h1, h2, h3, h4⟩ := pok_lens h
  have := pairsL_len p p.ress.length
  have := sq_le h2 h3
  simp only [listC, List.length_append, lnkL_len, finL_len, timsL_len, stkL_len]
  omega
theorem mem_listC {p : Pj} {c : Cd} (h : c ∈ listC p) : thereC p c = true := by
  simp only [listC, List.mem_append] at h
  rcases h with (((h | h) | h) | h) | h
  · simp only [lnkL, List.mem_map, List.mem_range] at h
    obtain ⟨i, hi, rfl⟩ := h
    exact inB_yes (by omega)
  · simp only [finL, List.mem_map, List.mem_range] at h
    obtain ⟨i, hi, rfl⟩ := h
    exact inB_yes (by omega)
  · simp only [timsL, timL, List.mem_flatMap, List.mem_map, List.mem_range] at h
    obtain ⟨r, hr, i, hi, rfl⟩ := h
    simp only [thereC, Bool.and_eq_true]
    exact ⟨inB_yes (by omega), inB_yes (by omega)⟩
  · simp only [pairsL, List.mem_flatMap, List.mem_range] at h
    obtain ⟨r, hr, h⟩ := h
    unfold pairL at h
    split at h
    · next hm =>
      simp only [parsL, parL, List.mem_flatMap, List.mem_map, List.mem_range] at h
      obtain ⟨b, hb, i, hi, rfl⟩ := h
      simp only [thereC, Bool.and_eq_true]
      exact ⟨hm, inB_yes (by omega), inB_yes (by omega)⟩
    · cases h
  · simp only [stkL, List.mem_map, List.mem_range] at h
    obtain ⟨i, hi, rfl⟩ := h
    exact inB_yes (by omega)
noncomputable def violL (p : Pj) (s : Sc) (l : List Cd) : List Cd := l.filter (failC p s)
theorem violL_yes {p : Pj} {s : Sc} {l : List Cd} {k : Nat} (hk : k < l.length) (h : failC p s l[k] = true) : violL p s (l.take (k + 1)) = violL p s (l.take k) ++ [l[k]] := by
  rw [violL, List.take_add_one, List.getElem?_eq_getElem hk, List.filter_append]
  show _ ++ List.filter _ [l[k]] = _
  rw [List.filter_cons_of_pos h]; rfl
theorem violL_no {p : Pj} {s : Sc} {l : List Cd} {k : Nat} (hk : k < l.length) (h : failC p s l[k] = false) : violL p s (l.take (k + 1)) = violL p s (l.take k) := by
  rw [violL, List.take_add_one, List.getElem?_eq_getElem hk, List.filter_append]
  show _ ++ List.filter _ [l[k]] = _
  rw [List.filter_cons_of_neg (by simp [h])]
  simp [violL]
theorem violL_len (p : Pj) (s : Sc) (l : List Cd) : (violL p s l).length ≤ l.length := List.length_filter_le _ _
noncomputable def violsB (p : Pj) (s : Sc) : List Ru := if formB p s = true then (violL p s (listC p)).map Cd.ru else []
theorem viols_bad {p : Pj} {s : Sc} (h : formB p s = false) : violsB p s = [] := by rw [violsB, h]; simp
theorem viols_yes {p : Pj} {s : Sc} (h : formB p s = true) : violsB p s = (violL p s (listC p)).map Cd.ru := by rw [violsB, if_pos h]
theorem viols_len (p : Pj) (s : Sc) : (violsB p s).length ≤ 400 := by
  rcases h : formB p s with _ | _
  · rw [viols_bad h]; simp
  · rw [viols_yes h, List.length_map]
    exact Nat.le_trans (violL_len _ _ _) (listC_len (form_of h).ok)
noncomputable def schedB (p : Pj) (s : Sc) : Bool := formB p s && decide ((violsB p s).length = 0)
theorem sched_bad {p : Pj} {s : Sc} (h : formB p s = false) : schedB p s = false := by rw [schedB, h]; rfl
theorem sched_yes {p : Pj} {s : Sc} (h : formB p s = true) (hl : ∀ c ∈ listC p, failC p s c = false) : schedB p s = true := by
  have : violL p s (listC p) = [] := List.filter_eq_nil_iff.2 fun c hc => by rw [hl c hc]; simp
  rw [schedB, h, viols_yes h, this]; rfl
theorem sched_no {p : Pj} {s : Sc} {c : Cd} (h : formB p s = true) (hc : c ∈ listC p) (hl : failC p s c = true) : schedB p s = false := by
  have : c ∈ violL p s (listC p) := List.mem_filter.2 ⟨hc, hl⟩
  have h0 : violL p s (listC p) ≠ [] := fun e => by rw [e] at this; cases this
  rw [schedB, h, viols_yes h, List.length_map]
  simp [h0]
end Go.Proofs.YtaglfdkeomjpdaaGreat
