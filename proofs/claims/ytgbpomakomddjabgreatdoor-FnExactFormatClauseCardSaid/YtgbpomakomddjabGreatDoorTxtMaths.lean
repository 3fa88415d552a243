/- DERIVED. What is split at a byte is joined again, and what is joined is split again, whatever the byte. No contract. -/
import Derived.WalkKit
import Derived.Lib.ItoaNum
import Derived.Laws.BytesArg
import Derived.Test.YtgbpomakomddjabGreatDoorMaths
import Derived.Lib.Strings
import Derived.Lib.Bytealg
import Derived.Lib.IndexLaws
import Derived.Test.YtgbpomakomddjabGreatDoorJoin

section
namespace Go.Proofs.YtgbpomakomddjabGreatDoor
open Go.RowKit

def dc (k : Nat) : ByteArray := ⟨(Lib.decDigits k).toArray⟩
/-- What FormatInt answers. -/
def fmtB (n : Int) : ByteArray := if n < -100000 ∨ 100000 < n then ⟨#[]⟩ else ⟨(Lib.itoa n).toArray⟩
theorem fmtB_out {n : Int} (h : n < -100000 ∨ 100000 < n) : fmtB n = ⟨#[]⟩ := by unfold fmtB; rw [if_pos h]
theorem fmtB_in {n : Int} (h1 : -100000 ≤ n) (h2 : n ≤ 100000) : fmtB n = ⟨(Lib.itoa n).toArray⟩ := by unfold fmtB; rw [if_neg (by omega)]
theorem fmtB_pos {k : Nat} (h : k ≤ 100000) : fmtB k = dc k := by
  rw [fmtB_in (by omega) (by omega)]; unfold Lib.itoa dc; rw [if_neg (by omega)]; simp
theorem fmtB_neg {k : Nat} (h0 : 0 < k) (h : k ≤ 100000) : fmtB (-(k : Int)) = ⟨#[45]⟩ ++ dc k := by
  rw [fmtB_in (by omega) (by omega)]; unfold Lib.itoa dc; rw [if_pos (by omega)]
  apply ByteArray.ext
  simp [ByteArray.data_append]
def dg1 (k : Int) : ByteArray := strOfNums [48 + k]
theorem dg1_size (k : Int) : (dg1 k).size = 1 := by simp [dg1, strOfNums, ByteArray.size]
theorem dg1_eq {k : Nat} : dg1 k = ⟨#[UInt8.ofNat (48 + k)]⟩ := by
  unfold dg1 strOfNums
  have : ((48 : Int) + (k : Int)).toNat = 48 + k := by omega
  simp [this]
theorem dc_small {k : Nat} (h : k ≤ 9) (acc : ByteArray) : dc k ++ acc = dg1 k ++ acc := by
  unfold dc; rw [Lib.decDigits_one (by omega), dg1_eq]
theorem dc_big {k : Nat} (h : 9 < k) (acc : ByteArray) : dc k ++ acc = dc (k / 10) ++ (dg1 ((k % 10 : Nat) : Int) ++ acc) := by
  unfold dc
  rw [Lib.decDigits, dif_neg (by omega), dg1_eq]
  apply ByteArray.ext
  simp [ByteArray.data_append]
theorem app_empty (x : ByteArray) : x ++ (⟨#[]⟩ : ByteArray) = x := by
  apply ByteArray.ext; simp [ByteArray.data_append]
theorem nDigits_le : ∀ (f k : Nat), k < 10 ^ f → Lib.nDigits k ≤ f + 1
  | 0, k, h => by rw [Lib.nDigits_small (by simpa using Nat.lt_of_lt_of_le h (by omega))]; exact Nat.le_refl _
  | f + 1, k, h => by
    by_cases hk : k < 10
    · rw [Lib.nDigits_small hk]; omega
    · rw [Lib.nDigits_big hk]
      have := nDigits_le f (k / 10) (by rw [Nat.pow_succ] at h; omega)
      omega
theorem dc_size {k : Nat} (h : k ≤ 100000) : 1 ≤ (dc k).size ∧ (dc k).size ≤ 6 := by
  have h1 : (dc k).size = Lib.nDigits k := by simp [dc, ByteArray.size, Lib.decDigits_length]
  have h2 := Lib.nDigits_pos k
  have h3 : k = 100000 ∨ k < 10 ^ 5 := by omega
  rcases h3 with rfl | h3
  · rw [h1]
    have : Lib.nDigits 100000 = 6 := Lib.nDigits_unique 5 100000 (by decide) (by decide)
    omega
  · have := nDigits_le 5 k h3
    omega
theorem fmtB_size (n : Int) : (fmtB n).size ≤ 7 := by
  by_cases h : n < -100000 ∨ 100000 < n
  · rw [fmtB_out h]; decide
  · by_cases hn : n < 0
    · obtain ⟨k, hk⟩ : ∃ k : Nat, n = -(k : Int) := ⟨(-n).toNat, by omega⟩
      subst hk
      rw [fmtB_neg (by omega) (by omega), ByteArray.size_append]
      have := (dc_size (k := k) (by omega)).2
      have h1 : (⟨#[45]⟩ : ByteArray).size = 1 := rfl
      omega
    · obtain ⟨k, hk⟩ : ∃ k : Nat, n = (k : Int) := ⟨n.toNat, by omega⟩
      subst hk
      rw [fmtB_pos (by omega)]
      have := (dc_size (k := k) (by omega)).2
      omega
theorem fmtB_some {n : Int} (h1 : -100000 ≤ n) (h2 : n ≤ 100000) : 1 ≤ (fmtB n).size := by
  by_cases hn : n < 0
  · obtain ⟨k, hk⟩ : ∃ k : Nat, n = -(k : Int) := ⟨(-n).toNat, by omega⟩
    subst hk
    rw [fmtB_neg (by omega) (by omega), ByteArray.size_append]
    have h1 : (⟨#[45]⟩ : ByteArray).size = 1 := rfl
    omega
  · obtain ⟨k, hk⟩ : ∃ k : Nat, n = (k : Int) := ⟨n.toNat, by omega⟩
    subst hk
    rw [fmtB_pos (by omega)]
    exact (dc_size (k := k) (by omega)).1
end Go.Proofs.YtgbpomakomddjabGreatDoor
end

section
namespace Go.Proofs.YtgbpomakomddjabGreatDoor
open Go.RowKit

def byt (s : ByteArray) (k : Nat) : Nat := if h : k < s.size then s[k].toNat else 0
theorem byt_at {s : ByteArray} {k : Nat} (h : k < s.size) : byt s k = s[k].toNat := by unfold byt; rw [dif_pos h]
def negS (s : ByteArray) : Bool := decide (byt s 0 = 45)
/-- The value of the digits up to place k, a sign at place 0 left out. -/
def dv (s : ByteArray) : Nat → Nat
  | 0 => 0
  | k + 1 => if k = 0 ∧ negS s = true then 0 else dv s k * 10 + (byt s k - 48)
def dOk (s : ByteArray) (k : Nat) : Prop := (k = 0 ∧ negS s = true) ∨ (48 ≤ byt s k ∧ byt s k ≤ 57)
instance (s : ByteArray) (k : Nat) : Decidable (dOk s k) := by unfold dOk; infer_instance
def valS (s : ByteArray) : Int := if negS s = true then -(dv s s.size : Int) else (dv s s.size : Int)
def parseB (s : ByteArray) : Int × Bool := if (∀ k, k < s.size → dOk s k) ∧ 0 < s.size ∧ fmtB (valS s) = s then (valS s, true) else (0, false)

theorem par_bad {s : ByteArray} {k : Nat} (h : k < s.size) (hb : ¬ dOk s k) : parseB s = (0, false) := by
  unfold parseB; rw [if_neg]; rintro ⟨h1, _⟩; exact hb (h1 k h)
theorem par_ne {s : ByteArray} (h : fmtB (valS s) ≠ s) : parseB s = (0, false) := by
  unfold parseB; rw [if_neg]; rintro ⟨_, _, h3⟩; exact h h3
theorem par_long {s : ByteArray} (h : 8 < s.size) : parseB s = (0, false) := par_ne (fun e => by
  have := fmtB_size (valS s); rw [e] at this; omega)
theorem par_none {s : ByteArray} (h : s.size = 0) : parseB s = (0, false) := by
  unfold parseB; rw [if_neg]; rintro ⟨_, h2, _⟩; omega
theorem par_yes {s : ByteArray} (h : ∀ k, k < s.size → dOk s k) (h0 : 0 < s.size) (he : fmtB (valS s) = s) : parseB s = (valS s, true) := by
  unfold parseB; rw [if_pos ⟨h, h0, he⟩]
theorem dv_step {s : ByteArray} {k : Nat} (h : ¬ (k = 0 ∧ negS s = true)) : dv s (k + 1) = dv s k * 10 + (byt s k - 48) := by rw [dv, if_neg h]
theorem dv_sign {s : ByteArray} (h : negS s = true) : dv s 1 = 0 := by rw [dv, if_pos ⟨rfl, h⟩]
theorem dv_grow {s : ByteArray} {k : Nat} (hk : 0 < k) : ∀ d, dv s k ≤ dv s (k + d)
  | 0 => Nat.le_refl _
  | d + 1 => by
    have ih := dv_grow (s := s) hk d
    rw [← Nat.add_assoc, dv_step (by omega)]; omega
theorem par_big {s : ByteArray} {k : Nat} (h : k ≤ s.size) (hb : 100000 < dv s k) : parseB s = (0, false) := by
  have hk : 0 < k := by
    rcases Nat.eq_zero_or_pos k with rfl | hk
    · simp [dv] at hb
    · exact hk
  have hg := dv_grow (s := s) hk (s.size - k)
  rw [show k + (s.size - k) = s.size by omega] at hg
  refine par_ne (fun e => ?_)
  have : fmtB (valS s) = ⟨#[]⟩ := fmtB_out (by unfold valS; split <;> omega)
  rw [this] at e
  have h0 : s.size = 0 := by rw [← e]; rfl
  omega
theorem dv_lt {s : ByteArray} : ∀ k, (∀ j, j < k → dOk s j) → dv s k < 10 ^ k
  | 0, _ => by simp [dv]
  | k + 1, h => by
    have ih := dv_lt k (fun j hj => h j (by omega))
    by_cases hs : k = 0 ∧ negS s = true
    · rw [dv, if_pos hs]; exact Nat.pos_of_ne_zero (by simp)
    · rw [dv_step hs, Nat.pow_succ]
      rcases h k (by omega) with h' | h'
      · exact absurd h' hs
      · omega
theorem dv_le7 {s : ByteArray} {k : Nat} (h : ∀ j, j < k → dOk s j) (hk : k ≤ 7) : dv s k ≤ 9999999 := by
  have h1 := dv_lt k h
  have h2 : 10 ^ k ≤ 10 ^ 7 := Nat.pow_le_pow_right (by decide) hk
  omega
theorem dv_le8 {s : ByteArray} {k : Nat} (h : ∀ j, j < k → dOk s j) (hk : k ≤ 8) : dv s k ≤ 99999999 := by
  have h1 := dv_lt k h
  have h2 : 10 ^ k ≤ 10 ^ 8 := Nat.pow_le_pow_right (by decide) hk
  omega
theorem negS_prefix (s : ByteArray) : Lib.hasPrefix s.data.toList [45] = negS s := by
  unfold Lib.hasPrefix negS byt
  by_cases h : 0 < s.size
  · rw [dif_pos h]
    have hl : 0 < s.data.toList.length := by simpa using h
    have e : s[0] = s.data.toList[0] := rfl
    obtain ⟨c, r, hc⟩ : ∃ c r, s.data.toList = c :: r := List.exists_cons_of_ne_nil (List.ne_nil_of_length_pos hl)
    have e2 : s[0] = c := by rw [e]; simp [hc]
    rw [hc, e2]
    rw [Bool.eq_iff_iff]
    simp [List.isPrefixOf]
    constructor
    · intro h; rw [← h]; rfl
    · intro h; exact (UInt8.toNat_inj.1 (by rw [h]; rfl))
  · rw [dif_neg h]
    have hl : s.data.toList = [] := List.eq_nil_of_length_eq_zero (by have : s.data.toList.length = s.size := by simp
                                                                      omega)
    rw [hl]; decide
end Go.Proofs.YtgbpomakomddjabGreatDoor
end

section
namespace Go.Proofs.YtgbpomakomddjabGreatDoor
open Go.RowKit

def hitB (s b : ByteArray) (k : Nat) : Bool := decide (∃ j, ∃ h : j < b.size, ∃ h' : k < s.size, s[k] = b[j])
/-- After k bytes of s: the parts that are finished, and where the next one begins. -/
def spl (s b : ByteArray) : Nat → List ByteArray × Nat
  | 0 => ([], 0)
  | k + 1 => if hitB s b k then ((spl s b k).1 ++ [s.extract (spl s b k).2 k], k + 1) else spl s b k
/-- What SplitAny answers. -/
def splitB (s b : ByteArray) : List ByteArray := (spl s b s.size).1 ++ [s.extract (spl s b s.size).2 s.size]

theorem spl_le (s b : ByteArray) : ∀ k, (spl s b k).2 ≤ k ∧ (spl s b k).1.length ≤ k
  | 0 => by simp [spl]
  | k + 1 => by
    have := spl_le s b k
    unfold spl
    split
    · simp; omega
    · omega
theorem spl_hit {s b : ByteArray} {k : Nat} (h : hitB s b k = true) : spl s b (k + 1) = ((spl s b k).1 ++ [s.extract (spl s b k).2 k], k + 1) := by rw [spl, if_pos h]
theorem spl_miss {s b : ByteArray} {k : Nat} (h : hitB s b k = false) : spl s b (k + 1) = spl s b k := by rw [spl, if_neg (by simp [h])]
theorem hitB_mk {s b : ByteArray} {k j : Nat} (hk : k < s.size) (hj : j < b.size) (e : s[k] = b[j]) : hitB s b k = true := by
  unfold hitB; exact decide_eq_true ⟨j, hj, hk, e⟩
theorem hitB_no {s b : ByteArray} {k : Nat} (h : ∀ j, (hj : j < b.size) → (hk : k < s.size) → s[k] ≠ b[j]) : hitB s b k = false := by
  unfold hitB; rw [decide_eq_false_iff_not]; rintro ⟨j, hj, hk, e⟩; exact h j hj hk e
theorem splitB_len (s b : ByteArray) : 1 ≤ (splitB s b).length ∧ (splitB s b).length ≤ s.size + 1 := by
  have := (spl_le s b s.size).2
  unfold splitB; simp; omega

theorem hit_index {s b : ByteArray} {k : Nat} (hk : k < s.size) : hitB s b k = decide (0 ≤ Lib.indexByte b.data.toList s[k]) := by
  have hge := Lib.indexByte_ge b.data.toList s[k]
  by_cases h : 0 ≤ Lib.indexByte b.data.toList s[k]
  · obtain ⟨o, ho⟩ := Int.eq_ofNat_of_zero_le h
    have h1 := (Lib.indexByte_some ho).1
    obtain ⟨hlt, e⟩ := List.getElem?_eq_some_iff.1 h1
    have hlt' : o < b.size := by simpa using hlt
    rw [decide_eq_true h, hitB_mk hk hlt' (by rw [← e]; rfl)]
  · have h1 := Lib.indexByte_none (l := b.data.toList) (c := s[k]) (by omega)
    rw [decide_eq_false h, hitB_no]
    intro j hj _ e
    refine h1 j ?_
    rw [List.getElem?_eq_getElem (by simpa using hj), e]; rfl
end Go.Proofs.YtgbpomakomddjabGreatDoor
end

section
namespace Go.Proofs.YtgbpomakomddjabGreatDoor
open Go.RowKit

def partsB (s : ByteArray) : List ByteArray := splitB s ⟨#[44]⟩
def parN (p : ByteArray) : Int := (parseB p).1
def parsesB (s : ByteArray) : List Int × Bool :=
  if s = ⟨#[45]⟩ then ([], true) else if (∀ p, p ∈ partsB s → (parseB p).2 = true) then ((partsB s).map parN, true) else ([], false)
theorem pars_dash : parsesB ⟨#[45]⟩ = ([], true) := by unfold parsesB; rw [if_pos rfl]
theorem pars_bad {s : ByteArray} {k : Nat} (hs : s ≠ ⟨#[45]⟩) (h : k < (partsB s).length) (hb : (parseB (partsB s)[k]).2 = false) : parsesB s = ([], false) := by
  unfold parsesB; rw [if_neg hs, if_neg]
  intro h'; rw [h' _ (List.getElem_mem h)] at hb; cases hb
theorem pars_ok {s : ByteArray} (hs : s ≠ ⟨#[45]⟩) (h : ∀ j, (hj : j < (partsB s).length) → (parseB (partsB s)[j]).2 = true) : parsesB s = ((partsB s).map parN, true) := by
  unfold parsesB; rw [if_neg hs, if_pos]
  intro p hp
  obtain ⟨j, hj, rfl⟩ := List.getElem_of_mem hp
  exact h j hj
theorem spl_sizes (s b : ByteArray) : ∀ k, ∀ p ∈ (spl s b k).1, p.size ≤ s.size
  | 0 => by simp [spl]
  | k + 1 => by
    have ih := spl_sizes s b k
    unfold spl
    split
    · intro p hp
      simp only [List.mem_append, List.mem_singleton] at hp
      rcases hp with hp | rfl
      · exact ih p hp
      · rw [ByteArray.size_extract]; omega
    · exact ih
theorem parts_size (s : ByteArray) : ∀ p ∈ partsB s, p.size ≤ s.size := by
  intro p hp
  unfold partsB splitB at hp
  simp only [List.mem_append, List.mem_singleton] at hp
  rcases hp with hp | rfl
  · exact spl_sizes s _ _ p hp
  · rw [ByteArray.size_extract]; omega
theorem pars_len (s : ByteArray) : (parsesB s).1.length ≤ s.size + 1 := by
  have := (splitB_len s ⟨#[44]⟩).2
  unfold parsesB partsB
  split
  · simp
  · split
    · simpa using this
    · simp
end Go.Proofs.YtgbpomakomddjabGreatDoor
end

section
namespace Go.Proofs.YtgbpomakomddjabGreatDoor
open Go.RowKit

def fmtsB (l : List Int) : ByteArray := if l = [] then ⟨#[45]⟩ else if (∃ n, n ∈ l ∧ fmtB n = ⟨#[]⟩) then ⟨#[]⟩ else joinB (l.map fmtB) ⟨#[44]⟩
theorem fmts_nil : fmtsB [] = ⟨#[45]⟩ := by unfold fmtsB; rw [if_pos rfl]
theorem fmts_bad {l : List Int} {k : Nat} (h : k < l.length) (he : fmtB l[k] = ⟨#[]⟩) : fmtsB l = ⟨#[]⟩ := by
  unfold fmtsB
  rw [if_neg (by intro e; subst e; exact absurd h (by simp)), if_pos ⟨l[k], List.getElem_mem h, he⟩]
theorem fmts_ok {l : List Int} (h0 : 0 < l.length) (h : ∀ j, (hj : j < l.length) → fmtB l[j] ≠ ⟨#[]⟩) : fmtsB l = joinB (l.map fmtB) ⟨#[44]⟩ := by
  unfold fmtsB
  rw [if_neg (by intro e; subst e; exact absurd h0 (by simp)), if_neg]
  rintro ⟨n, hn, he⟩
  obtain ⟨j, hj, rfl⟩ := List.getElem_of_mem hn
  exact h j hj he
theorem fmts_tot : ∀ l : List Int, tot (l.map fmtB) ≤ 7 * l.length
  | [] => by simp [tot]
  | n :: l => by
    have ih := fmts_tot l
    have := fmtB_size n
    unfold tot at ih ⊢
    simp only [List.map_cons, List.sum_cons, List.length_cons]
    omega
end Go.Proofs.YtgbpomakomddjabGreatDoor
end

section
namespace Go.Proofs.YtgbpomakomddjabGreatDoor

def lst (s : ByteArray) : List UInt8 := s.data.toList
theorem lst_app (x y : ByteArray) : lst (x ++ y) = lst x ++ lst y := by simp only [lst, ByteArray.data_append, Array.toList_append]
theorem lst_len (x : ByteArray) : (lst x).length = x.size := Array.length_toList
theorem lst_inj {x y : ByteArray} (h : lst x = lst y) : x = y := ByteArray.ext (Array.toList_inj.1 h)
theorem size_app (x y : ByteArray) : (x ++ y).size = x.size + y.size := by rw [← lst_len, lst_app, List.length_append, lst_len, lst_len]
theorem byt_lst (s : ByteArray) (k : Nat) : byt s k = ((lst s).getD k 0).toNat := by
  unfold byt
  by_cases h : k < s.size
  · rw [dif_pos h]
    have h' : k < (lst s).length := by rw [lst_len]; exact h
    rw [List.getD_eq_getElem?_getD, List.getElem?_eq_getElem h']
    rfl
  · rw [dif_neg h]
    have h' : (lst s).length ≤ k := by rw [lst_len]; omega
    simp [List.getD, List.getElem?_eq_none h']
theorem getD_l {α : Type} {x y : List α} {k : Nat} (d : α) (h : k < x.length) : (x ++ y).getD k d = x.getD k d := by
  rw [List.getD_eq_getElem?_getD, List.getD_eq_getElem?_getD, List.getElem?_append_left h]
theorem getD_r {α : Type} {x y : List α} {k : Nat} (d : α) (h : x.length ≤ k) : (x ++ y).getD k d = y.getD (k - x.length) d := by
  rw [List.getD_eq_getElem?_getD, List.getD_eq_getElem?_getD, List.getElem?_append_right h]
theorem byt_l {x y : ByteArray} {k : Nat} (h : k < x.size) : byt (x ++ y) k = byt x k := by
  rw [byt_lst, byt_lst, lst_app, getD_l _ (by rw [lst_len]; exact h)]
theorem byt_r {x y : ByteArray} {k : Nat} : byt (x ++ y) (x.size + k) = byt y k := by
  rw [byt_lst, byt_lst, lst_app, getD_r _ (by rw [lst_len]; omega), lst_len]
  congr 2
  omega
theorem byt_out {s : ByteArray} {k : Nat} (h : s.size ≤ k) : byt s k = 0 := by unfold byt; rw [dif_neg (by omega)]
theorem dg1_byt {d : Nat} (h : d ≤ 9) : byt (dg1 (d : Int)) 0 = 48 + d := by
  rw [dg1_eq, byt_lst]
  simp [lst]
  omega
theorem negS_l {x y : ByteArray} (h : 0 < x.size) : negS (x ++ y) = negS x := by unfold negS; rw [byt_l h]
theorem dv_l {x y : ByteArray} : ∀ k, k ≤ x.size → dv (x ++ y) k = dv x k
  | 0, _ => rfl
  | k + 1, h => by
    rw [dv, dv, dv_l k (by omega), negS_l (by omega), byt_l (by omega)]

theorem dc_split {k : Nat} (h : 9 < k) : dc k = dc (k / 10) ++ dg1 ((k % 10 : Nat) : Int) := by
  have := dc_big h ⟨#[]⟩
  rw [app_empty, app_empty] at this
  exact this
theorem dc_one {k : Nat} (h : k ≤ 9) : dc k = dg1 (k : Int) := by
  have := dc_small h ⟨#[]⟩
  rwa [app_empty, app_empty] at this
theorem dc_pos : ∀ (f k : Nat), k < f → 1 ≤ (dc k).size
  | 0, k, h => by omega
  | f + 1, k, h => by
    by_cases h9 : k ≤ 9
    · rw [dc_one h9, dg1_size]; omega
    · rw [dc_split (by omega), size_app, dg1_size]; omega
/-- The digits of k behind a sign or nothing: each a digit, their value k. -/
theorem dc_ok (p : ByteArray) (hp : p = ⟨#[]⟩ ∨ p = ⟨#[45]⟩) : ∀ (f k : Nat), k < f → (∀ j, j < (dc k).size → 48 ≤ byt (dc k) j ∧ byt (dc k) j ≤ 57) ∧ dv (p ++ dc k) (p ++ dc k).size = k
  | 0, k, h => by omega
  | f + 1, k, h => by
    by_cases h9 : k ≤ 9
    · rw [dc_one h9]
      refine ⟨fun j hj => ?_, ?_⟩
      · rw [dg1_size] at hj
        obtain rfl : j = 0 := by omega
        rw [dg1_byt h9]; omega
      · rcases hp with rfl | rfl
        · have hs : ((⟨#[]⟩ : ByteArray) ++ dg1 (k : Int)).size = 0 + 1 := by rw [size_app, dg1_size]; rfl
          rw [hs, dv, empty_append, if_neg, dg1_byt h9]
          · simp [dv]
          · unfold negS; rw [dg1_byt h9]; simp; omega
        · have hs : ((⟨#[45]⟩ : ByteArray) ++ dg1 (k : Int)).size = 1 + 1 := by rw [size_app, dg1_size]; rfl
          have hb : byt ((⟨#[45]⟩ : ByteArray) ++ dg1 (k : Int)) 1 = 48 + k := by
            have := byt_r (x := (⟨#[45]⟩ : ByteArray)) (y := dg1 (k : Int)) (k := 0)
            rw [dg1_byt h9] at this
            exact this
          have hn : negS ((⟨#[45]⟩ : ByteArray) ++ dg1 (k : Int)) = true := by
            rw [negS_l (by decide)]; decide
          rw [hs, dv, if_neg (by omega), dv_sign hn, hb]
          omega
    · have hsp := dc_split (k := k) (by omega)
      obtain ⟨ih1, ih2⟩ := dc_ok p hp f (k / 10) (by omega)
      have hpos := dc_pos f (k / 10) (by omega)
      have hd : k % 10 ≤ 9 := by omega
      rw [hsp]
      refine ⟨fun j hj => ?_, ?_⟩
      · rw [size_app, dg1_size] at hj
        by_cases hj2 : j < (dc (k / 10)).size
        · rw [byt_l hj2]; exact ih1 j hj2
        · obtain rfl : j = (dc (k / 10)).size + 0 := by omega
          rw [byt_r, dg1_byt hd]; omega
      · have hassoc : p ++ (dc (k / 10) ++ dg1 ((k % 10 : Nat) : Int)) = (p ++ dc (k / 10)) ++ dg1 ((k % 10 : Nat) : Int) := lst_inj (by simp only [lst_app, List.append_assoc])
        have hs : ((p ++ dc (k / 10)) ++ dg1 ((k % 10 : Nat) : Int)).size = (p ++ dc (k / 10)).size + 1 := by rw [size_app _ (dg1 _), dg1_size]
        have hsz : 0 < (p ++ dc (k / 10)).size := by rw [size_app]; omega
        rw [hassoc, hs, dv, dv_l _ (Nat.le_refl _), ih2]
        have hb : byt ((p ++ dc (k / 10)) ++ dg1 ((k % 10 : Nat) : Int)) (p ++ dc (k / 10)).size = 48 + k % 10 := by
          have := byt_r (x := p ++ dc (k / 10)) (y := dg1 ((k % 10 : Nat) : Int)) (k := 0)
          rw [dg1_byt hd] at this
          exact this
        rw [hb, if_neg (by omega)]
        omega
theorem fmt_digits {n : Int} (h1 : -100000 ≤ n) (h2 : n ≤ 100000) : (∀ k, k < (fmtB n).size → dOk (fmtB n) k) ∧ valS (fmtB n) = n ∧ ((fmtB n).size = 1 → byt (fmtB n) 0 ≠ 45) ∧ ∀ k, byt (fmtB n) k ≠ 44 := by
  by_cases h0 : 0 ≤ n
  · obtain ⟨k, rfl⟩ : ∃ k : Nat, n = k := ⟨n.toNat, by omega⟩
    rw [fmtB_pos (by omega)]
    obtain ⟨hd, hv⟩ := dc_ok ⟨#[]⟩ (.inl rfl) (k + 1) k (by omega)
    rw [empty_append] at hv
    have hp := dc_pos (k + 1) k (by omega)
    have hneg : negS (dc k) = false := by unfold negS; have := hd 0 (by omega); simp; omega
    refine ⟨fun j hj => .inr (hd j hj), ?_, ?_, ?_⟩
    · unfold valS; rw [hneg, if_neg (by simp), hv]
    · intro _; have := hd 0 (by omega); omega
    · intro j
      by_cases hj : j < (dc k).size
      · have := hd j hj; omega
      · rw [byt_out (by omega)]; omega
  · obtain ⟨k, rfl, hk0⟩ : ∃ k : Nat, n = -(k : Int) ∧ 0 < k := ⟨(-n).toNat, by omega, by omega⟩
    rw [fmtB_neg hk0 (by omega)]
    obtain ⟨hd, hv⟩ := dc_ok ⟨#[45]⟩ (.inr rfl) (k + 1) k (by omega)
    have hp := dc_pos (k + 1) k (by omega)
    have hneg : negS ((⟨#[45]⟩ : ByteArray) ++ dc k) = true := by rw [negS_l (by decide)]; decide
    have hat : ∀ j, 0 < j → byt ((⟨#[45]⟩ : ByteArray) ++ dc k) j = byt (dc k) (j - 1) := fun j hj => by
      have := byt_r (x := (⟨#[45]⟩ : ByteArray)) (y := dc k) (k := j - 1)
      rw [← this]
      congr 1
      show j = 1 + (j - 1)
      omega
    have hsz : ((⟨#[45]⟩ : ByteArray) ++ dc k).size = 1 + (dc k).size := by rw [size_app]; rfl
    refine ⟨fun j hj => ?_, ?_, ?_, ?_⟩
    · by_cases hj0 : j = 0
      · exact .inl ⟨hj0, hneg⟩
      · refine .inr ?_
        rw [hat j (by omega)]
        exact hd (j - 1) (by omega)
    · unfold valS; rw [hneg, if_pos rfl, hv]
    · intro h; omega
    · intro j
      by_cases hj0 : j = 0
      · subst hj0; rw [byt_l (by decide)]; decide
      · rw [hat j (by omega)]
        by_cases hj : j - 1 < (dc k).size
        · have := hd (j - 1) hj; omega
        · rw [byt_out (by omega)]; omega
theorem parse_fmt {n : Int} (h1 : -100000 ≤ n) (h2 : n ≤ 100000) : parseB (fmtB n) = (n, true) := by
  obtain ⟨h3, h4, _, _⟩ := fmt_digits h1 h2
  rw [par_yes h3 (by have := fmtB_some h1 h2; omega) (by rw [h4]), h4]

/-! ### split and join at one byte -/
theorem jn_pre (xs ys : List ByteArray) (b : ByteArray) : ∀ k, k ≤ xs.length → jn (xs ++ ys) b k = jn xs b k
  | 0, _ => rfl
  | k + 1, h => by
    rw [jn, jn, jn_pre xs ys b k (by omega), getD_l _ (by omega)]
theorem join_snoc (xs : List ByteArray) (x b : ByteArray) (h : xs ≠ []) : joinB (xs ++ [x]) b = joinB xs b ++ b ++ x := by
  have h0 : 0 < xs.length := List.length_pos_iff.2 h
  unfold joinB
  rw [List.length_append, List.length_singleton, jn, if_neg (by omega), jn_pre _ _ _ _ (Nat.le_refl _), getD_r _ (Nat.le_refl _)]
  simp
theorem join_one (x b : ByteArray) : joinB [x] b = x := by
  unfold joinB
  rw [List.length_singleton, jn, if_pos rfl, jn]
  exact empty_append x
theorem ass (x y z : ByteArray) : x ++ (y ++ z) = (x ++ y) ++ z := lst_inj (by simp only [lst_app, List.append_assoc])
theorem join_grow (xs : List ByteArray) (x y b : ByteArray) : joinB (xs ++ [x ++ y]) b = joinB (xs ++ [x]) b ++ y := by
  by_cases h : xs = []
  · subst h; rw [List.nil_append, List.nil_append, join_one, join_one]
  · rw [join_snoc _ _ _ h, join_snoc _ _ _ h, ass]
def comma : ByteArray := ⟨#[44]⟩
theorem lst_ext (s : ByteArray) (i j : Nat) : lst (s.extract i j) = ((lst s).take j).drop i := by
  simp [lst, ByteArray.data_extract, Array.toList_extract, List.drop_take]
theorem ext_succ {s : ByteArray} {i k : Nat} (h : k < s.size) (hi : i ≤ k) : s.extract i (k + 1) = s.extract i k ++ ⟨#[s[k]]⟩ := by
  apply lst_inj
  have h' : k < (lst s).length := by rw [lst_len]; exact h
  rw [lst_app, lst_ext, lst_ext, List.take_succ_eq_append_getElem h', List.drop_append_of_le_length (by simp; omega)]
  rfl
theorem hit_comma {s : ByteArray} {k : Nat} : hitB s comma k = true ↔ byt s k = 44 := by
  unfold hitB comma
  rw [decide_eq_true_iff]
  constructor
  · rintro ⟨j, hj, hk, e⟩
    have hj' : j < 1 := hj
    obtain rfl : j = 0 := by omega
    rw [byt_at hk, e]
    rfl
  · intro h
    have hk : k < s.size := by
      by_cases hk : k < s.size
      · exact hk
      · rw [byt_out (by omega)] at h; cases h
    refine ⟨0, (by show 0 < 1; omega), hk, ?_⟩
    rw [byt_at hk] at h
    apply UInt8.toNat_inj.1
    rw [h]
    rfl
theorem join_spl (s : ByteArray) : ∀ k, k ≤ s.size → joinB ((spl s comma k).1 ++ [s.extract (spl s comma k).2 k]) comma = s.extract 0 k
  | 0, _ => by
    rw [spl, List.nil_append, join_one]
  | k + 1, hk => by
    have ih := join_spl s k (by omega)
    have hle := (spl_le s comma k).1
    rcases hh : hitB s comma k with _ | _
    · rw [spl_miss hh, ext_succ (by omega) hle, join_grow, ih, ext_succ (by omega) (Nat.zero_le _)]
    · rw [spl_hit hh]
      have he : s.extract (k + 1) (k + 1) = ⟨#[]⟩ := lst_inj (by rw [lst_ext, List.drop_of_length_le (by simp; omega)]; rfl)
      simp only [he]
      rw [join_snoc _ _ _ (by simp), ih, app_empty, ext_succ (by omega) (Nat.zero_le _)]
      congr 1
      have h44 := hit_comma.1 hh
      rw [byt_at (by omega)] at h44
      have : s[k] = 44 := UInt8.toNat_inj.1 (by rw [h44]; rfl)
      rw [this]
      rfl
theorem join_split (s : ByteArray) : joinB (splitB s comma) comma = s := by
  unfold splitB
  rw [join_spl s s.size (Nat.le_refl _)]
  exact lst_inj (by rw [lst_ext, ← lst_len]; simp)

theorem spl_pre (s t : ByteArray) : ∀ k, k ≤ s.size → spl (s ++ t) comma k = spl s comma k
  | 0, _ => rfl
  | k + 1, h => by
    have ih := spl_pre s t k (by omega)
    have hle := (spl_le s comma k).1
    have hb : hitB (s ++ t) comma k = hitB s comma k := by
      rw [Bool.eq_iff_iff, hit_comma, hit_comma, byt_l (by omega)]
    rw [spl, spl, ih, hb]
    have he : (s ++ t).extract (spl s comma k).2 k = s.extract (spl s comma k).2 k := by
      apply lst_inj
      rw [lst_ext, lst_ext, lst_app, List.take_append_of_le_length (by rw [lst_len]; omega)]
    rw [he]
theorem spl_none (s : ByteArray) (m : Nat) : ∀ d, (∀ j, m ≤ j → j < m + d → byt s j ≠ 44) → spl s comma (m + d) = spl s comma m
  | 0, _ => rfl
  | d + 1, h => by
    have hm : hitB s comma (m + d) = false := by
      rcases hh : hitB s comma (m + d) with _ | _
      · rfl
      · exact absurd (hit_comma.1 hh) (h _ (by omega) (by omega))
    rw [← Nat.add_assoc, spl_miss hm, spl_none s m d (fun j h1 h2 => h j h1 (by omega))]
theorem split_one {x : ByteArray} (h : ∀ k, byt x k ≠ 44) : splitB x comma = [x] := by
  have := spl_none x 0 x.size (fun j _ _ => h j)
  rw [Nat.zero_add] at this
  unfold splitB
  rw [this, spl]
  simp only [List.nil_append]
  congr 1
  exact lst_inj (by rw [lst_ext, ← lst_len]; simp)
theorem split_snoc (s x : ByteArray) (h : ∀ k, byt x k ≠ 44) : splitB (s ++ comma ++ x) comma = splitB s comma ++ [x] := by
  have hc : comma.size = 1 := rfl
  have hsz : (s ++ comma ++ x).size = (s.size + 1) + x.size := by rw [size_app, size_app, hc]
  have h1 : spl (s ++ comma ++ x) comma s.size = spl s comma s.size := by rw [← ass]; exact spl_pre _ _ _ (Nat.le_refl _)
  have hat : byt (s ++ comma ++ x) s.size = 44 := by
    rw [← ass]
    have := byt_r (x := s) (y := comma ++ x) (k := 0)
    rw [Nat.add_zero] at this
    rw [this, byt_l (by decide)]
    decide
  have h2 := spl_hit (hit_comma.2 hat)
  have h3 := spl_none (s ++ comma ++ x) (s.size + 1) x.size (fun j hj1 hj2 => by
    obtain ⟨i, rfl⟩ : ∃ i, j = (s ++ comma).size + i := ⟨j - (s.size + 1), by rw [size_app, hc]; omega⟩
    rw [byt_r]; exact h i)
  unfold splitB
  rw [hsz, h3, h2, h1]
  have e1 : (s ++ comma ++ x).extract (spl s comma s.size).2 s.size = s.extract (spl s comma s.size).2 s.size := by
    apply lst_inj
    rw [lst_ext, lst_ext, lst_app, lst_app, List.append_assoc, List.take_append_of_le_length (by rw [lst_len]; omega)]
  have e2 : (s ++ comma ++ x).extract (s.size + 1) (s.size + 1 + x.size) = x := by
    apply lst_inj
    rw [lst_ext, lst_app, List.take_of_length_le (by rw [List.length_append, lst_app, List.length_append, lst_len, lst_len, lst_len, hc]; omega), List.drop_append_of_le_length (by rw [lst_app, List.length_append, lst_len, lst_len, hc]; omega), List.drop_of_length_le (by rw [lst_app, List.length_append, lst_len, lst_len, hc]; omega)]
    rfl
  simp only [e1, e2]
theorem split_join_snoc : ∀ (n : Nat) (ys : List ByteArray) (y : ByteArray), ys.length = n → (∀ x ∈ ys ++ [y], ∀ k, byt x k ≠ 44) → splitB (joinB (ys ++ [y]) comma) comma = ys ++ [y]
  | 0, ys, y, hn, h => by
    obtain rfl := List.eq_nil_of_length_eq_zero hn
    rw [List.nil_append] at h ⊢
    rw [join_one, split_one (h y (by simp))]
  | n + 1, ys, y, hn, h => by
    have h0 : ys ≠ [] := by intro e; subst e; simp at hn
    obtain ⟨zs, z, rfl⟩ : ∃ zs z, ys = zs ++ [z] := ⟨ys.dropLast, ys.getLast h0, (List.dropLast_concat_getLast h0).symm⟩
    rw [join_snoc _ _ _ h0, split_snoc _ _ (h y (by simp)), split_join_snoc n zs z (by simpa using hn) (fun x hx => h x (List.mem_append_left _ hx))]
theorem split_join (xs : List ByteArray) (h : ∀ x ∈ xs, ∀ k, byt x k ≠ 44) (h0 : xs ≠ []) : splitB (joinB xs comma) comma = xs := by
  obtain ⟨ys, y, rfl⟩ : ∃ ys y, xs = ys ++ [y] := ⟨xs.dropLast, xs.getLast h0, (List.dropLast_concat_getLast h0).symm⟩
  exact split_join_snoc _ ys y rfl h

theorem parses_fmts {l : List Int} (h : ∀ n ∈ l, -100000 ≤ n ∧ n ≤ 100000) : parsesB (fmtsB l) = (l, true) := by
  by_cases h0 : l = []
  · subst h0; rw [fmts_nil, pars_dash]
  have hf : fmtsB l = joinB (l.map fmtB) comma := fmts_ok (List.length_pos_iff.2 h0) fun j hj e => by
    have := fmtB_some (h l[j] (List.getElem_mem hj)).1 (h l[j] (List.getElem_mem hj)).2
    rw [e] at this
    exact absurd this (by decide)
  have hparts : partsB (fmtsB l) = l.map fmtB := by
    rw [hf]
    exact split_join _ (fun x hx => by
      obtain ⟨n, hn, rfl⟩ := List.mem_map.1 hx
      exact (fmt_digits (h n hn).1 (h n hn).2).2.2.2) (by simpa using h0)
  have hne : fmtsB l ≠ ⟨#[45]⟩ := by
    intro e
    rw [e] at hparts
    have h1 : partsB (⟨#[45]⟩ : ByteArray) = [⟨#[45]⟩] := split_one (fun k => by
      by_cases hk : k = 0
      · subst hk; decide
      · rw [byt_out (by show 1 ≤ k; omega)]; omega)
    rw [h1] at hparts
    obtain ⟨n, rest, rfl⟩ : ∃ n rest, l = n :: rest := by cases l with
      | nil => exact absurd rfl h0
      | cons a b => exact ⟨a, b, rfl⟩
    simp only [List.map_cons, List.cons.injEq] at hparts
    have h3 := (fmt_digits (h n (by simp)).1 (h n (by simp)).2).2.2.1
    rw [← hparts.1] at h3
    exact absurd rfl (h3 rfl)
  rw [pars_ok hne (by
    rw [hparts]
    intro j hj
    have hj' : j < l.length := by simpa using hj
    rw [List.getElem_map, parse_fmt (h _ (List.getElem_mem hj')).1 (h _ (List.getElem_mem hj')).2]), hparts]
  congr 1
  rw [List.map_map]
  conv => rhs; rw [← List.map_id l]
  exact List.map_congr_left fun n hn => by
    show parN (fmtB n) = n
    unfold parN
    rw [parse_fmt (h n hn).1 (h n hn).2]
end Go.Proofs.YtgbpomakomddjabGreatDoor
end

section
namespace Go.Proofs.YtgbpomakomddjabGreatDoor

def sepS (c : UInt8) : ByteArray := ⟨#[c]⟩
theorem hit_sep_c {c : UInt8} (hc : 0 < c.toNat) {s : ByteArray} {k : Nat} : hitB s (sepS c) k = true ↔ byt s k = c.toNat := by
  unfold hitB sepS
  rw [decide_eq_true_iff]
  constructor
  · rintro ⟨j, hj, hk, e⟩
    have hj' : j < 1 := hj
    obtain rfl : j = 0 := by omega
    rw [byt_at hk, e]
    rfl
  · intro h
    have hk : k < s.size := by
      by_cases hk : k < s.size
      · exact hk
      · rw [byt_out (by omega)] at h; omega
    refine ⟨0, (by show 0 < 1; omega), hk, ?_⟩
    rw [byt_at hk] at h
    apply UInt8.toNat_inj.1
    rw [h]
    rfl
theorem join_spl_c {c : UInt8} (hc : 0 < c.toNat) (s : ByteArray) : ∀ k, k ≤ s.size → joinB ((spl s (sepS c) k).1 ++ [s.extract (spl s (sepS c) k).2 k]) (sepS c) = s.extract 0 k
  | 0, _ => by
    rw [spl, List.nil_append, join_one]
  | k + 1, hk => by
    have ih := join_spl_c hc s k (by omega)
    have hle := (spl_le s (sepS c) k).1
    rcases hh : hitB s (sepS c) k with _ | _
    · rw [spl_miss hh, ext_succ (by omega) hle, join_grow, ih, ext_succ (by omega) (Nat.zero_le _)]
    · rw [spl_hit hh]
      have he : s.extract (k + 1) (k + 1) = ⟨#[]⟩ := lst_inj (by rw [lst_ext, List.drop_of_length_le (by simp; omega)]; rfl)
      simp only [he]
      rw [join_snoc _ _ _ (by simp), ih, app_empty, ext_succ (by omega) (Nat.zero_le _)]
      congr 1
      have h44 := (hit_sep_c hc).1 hh
      rw [byt_at (by omega)] at h44
      have : s[k] = c := UInt8.toNat_inj.1 h44
      rw [this]
      rfl
theorem join_split_c {c : UInt8} (hc : 0 < c.toNat) (s : ByteArray) : joinB (splitB s (sepS c)) (sepS c) = s := by
  unfold splitB
  rw [join_spl_c hc s s.size (Nat.le_refl _)]
  exact lst_inj (by rw [lst_ext, ← lst_len]; simp)

theorem spl_pre_c {c : UInt8} (hc : 0 < c.toNat) (s t : ByteArray) : ∀ k, k ≤ s.size → spl (s ++ t) (sepS c) k = spl s (sepS c) k
  | 0, _ => rfl
  | k + 1, h => by
    have ih := spl_pre_c hc s t k (by omega)
    have hle := (spl_le s (sepS c) k).1
    have hb : hitB (s ++ t) (sepS c) k = hitB s (sepS c) k := by
      rw [Bool.eq_iff_iff, hit_sep_c hc, hit_sep_c hc, byt_l (by omega)]
    rw [spl, spl, ih, hb]
    have he : (s ++ t).extract (spl s (sepS c) k).2 k = s.extract (spl s (sepS c) k).2 k := by
      apply lst_inj
      rw [lst_ext, lst_ext, lst_app, List.take_append_of_le_length (by rw [lst_len]; omega)]
    rw [he]
theorem spl_none_c {c : UInt8} (hc : 0 < c.toNat) (s : ByteArray) (m : Nat) : ∀ d, (∀ j, m ≤ j → j < m + d → byt s j ≠ c.toNat) → spl s (sepS c) (m + d) = spl s (sepS c) m
  | 0, _ => rfl
  | d + 1, h => by
    have hm : hitB s (sepS c) (m + d) = false := by
      rcases hh : hitB s (sepS c) (m + d) with _ | _
      · rfl
      · exact absurd ((hit_sep_c hc).1 hh) (h _ (by omega) (by omega))
    rw [← Nat.add_assoc, spl_miss hm, spl_none_c hc s m d (fun j h1 h2 => h j h1 (by omega))]
theorem split_one_c {c : UInt8} (hc : 0 < c.toNat) {x : ByteArray} (h : ∀ k, byt x k ≠ c.toNat) : splitB x (sepS c) = [x] := by
  have := spl_none_c hc x 0 x.size (fun j _ _ => h j)
  rw [Nat.zero_add] at this
  unfold splitB
  rw [this, spl]
  simp only [List.nil_append]
  congr 1
  exact lst_inj (by rw [lst_ext, ← lst_len]; simp)
theorem split_snoc_c {c : UInt8} (hc : 0 < c.toNat) (s x : ByteArray) (h : ∀ k, byt x k ≠ c.toNat) : splitB (s ++ (sepS c) ++ x) (sepS c) = splitB s (sepS c) ++ [x] := by
  have hcs : (sepS c).size = 1 := rfl
  have hsz : (s ++ (sepS c) ++ x).size = (s.size + 1) + x.size := by rw [size_app, size_app, hcs]
  have h1 : spl (s ++ (sepS c) ++ x) (sepS c) s.size = spl s (sepS c) s.size := by rw [← ass]; exact spl_pre_c hc _ _ _ (Nat.le_refl _)
  have hat : byt (s ++ (sepS c) ++ x) s.size = c.toNat := by
    rw [← ass]
    have := byt_r (x := s) (y := (sepS c) ++ x) (k := 0)
    rw [Nat.add_zero] at this
    rw [this, byt_l (by show 0 < 1; omega)]
    rfl
  have h2 := spl_hit ((hit_sep_c hc).2 hat)
  have h3 := spl_none_c hc (s ++ (sepS c) ++ x) (s.size + 1) x.size (fun j hj1 hj2 => by
    obtain ⟨i, rfl⟩ : ∃ i, j = (s ++ (sepS c)).size + i := ⟨j - (s.size + 1), by rw [size_app, hcs]; omega⟩
    rw [byt_r]; exact h i)
  unfold splitB
  rw [hsz, h3, h2, h1]
  have e1 : (s ++ (sepS c) ++ x).extract (spl s (sepS c) s.size).2 s.size = s.extract (spl s (sepS c) s.size).2 s.size := by
    apply lst_inj
    rw [lst_ext, lst_ext, lst_app, lst_app, List.append_assoc, List.take_append_of_le_length (by rw [lst_len]; omega)]
  have e2 : (s ++ (sepS c) ++ x).extract (s.size + 1) (s.size + 1 + x.size) = x := by
    apply lst_inj
    rw [lst_ext, lst_app, List.take_of_length_le (by rw [List.length_append, lst_app, List.length_append, lst_len, lst_len, lst_len, hcs]; omega), List.drop_append_of_le_length (by rw [lst_app, List.length_append, lst_len, lst_len, hcs]; omega), List.drop_of_length_le (by rw [lst_app, List.length_append, lst_len, lst_len, hcs]; omega)]
    rfl
  simp only [e1, e2]
theorem split_join_snoc_c {c : UInt8} (hc : 0 < c.toNat) : ∀ (n : Nat) (ys : List ByteArray) (y : ByteArray), ys.length = n → (∀ x ∈ ys ++ [y], ∀ k, byt x k ≠ c.toNat) → splitB (joinB (ys ++ [y]) (sepS c)) (sepS c) = ys ++ [y]
  | 0, ys, y, hn, h => by
    obtain rfl := List.eq_nil_of_length_eq_zero hn
    rw [List.nil_append] at h ⊢
    rw [join_one, split_one_c hc (h y (by simp))]
  | n + 1, ys, y, hn, h => by
    have h0 : ys ≠ [] := by intro e; subst e; simp at hn
    obtain ⟨zs, z, rfl⟩ : ∃ zs z, ys = zs ++ [z] := ⟨ys.dropLast, ys.getLast h0, (List.dropLast_concat_getLast h0).symm⟩
    rw [join_snoc _ _ _ h0, split_snoc_c hc _ _ (h y (by simp)), split_join_snoc_c hc n zs z (by simpa using hn) (fun x hx => h x (List.mem_append_left _ hx))]
theorem split_join_c {c : UInt8} (hc : 0 < c.toNat) (xs : List ByteArray) (h : ∀ x ∈ xs, ∀ k, byt x k ≠ c.toNat) (h0 : xs ≠ []) : splitB (joinB xs (sepS c)) (sepS c) = xs := by
  obtain ⟨ys, y, rfl⟩ : ∃ ys y, xs = ys ++ [y] := ⟨xs.dropLast, xs.getLast h0, (List.dropLast_concat_getLast h0).symm⟩
  exact split_join_snoc_c hc _ ys y rfl h

end Go.Proofs.YtgbpomakomddjabGreatDoor
end
