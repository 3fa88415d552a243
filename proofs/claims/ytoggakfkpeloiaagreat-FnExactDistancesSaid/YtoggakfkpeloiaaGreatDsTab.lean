/- DERIVED. A region that draws its order, held by a condition that its last operation (number z, for which all others are waited) may break. No dump. -/
import Derived.Test.YtoggakfkpeloiaaGreatCore
import Derived.Lib.MinMax
import Derived.Lib.Hide
import Derived.BigQuiet
import Derived.Deep.RegionWith
import Derived.Deep.MidRow
import Derived.Deep.RegionHeld3
import Derived.Test.YtoggakfkpeloiaaGreatDats
import Derived.OrdersHeld

section
namespace Go.Proofs.YtoggakfkpeloiaaGreat
open Go.RowKit
set_option linter.unusedVariables false

abbrev Tb := Nat → Nat → Int
def upT (T : Tb) (f t : Nat) (x : Int) : Tb := fun a b => if a = f ∧ b = t then x else T a b
def raiseT (T : Tb) (f t : Nat) (x : Int) : Tb := upT T f t (max (T f t) x)
def tb0 (n : Nat) : Tb := fun a b => if a < n ∧ b < n then (if a = b then 0 else -1000) else 0
def stepT (T : Tb) (m i k : Nat) : Tb := if T i m = -1000 then T else if T m k = -1000 then T else raiseT T i k (wrap64 (T i m + T m k))
def rowT (T : Tb) (m i : Nat) : Nat → Tb
  | 0 => T
  | k + 1 => stepT (rowT T m i k) m i k
def midT (T : Tb) (m n : Nat) : Nat → Tb
  | 0 => T
  | i + 1 => rowT (midT T m n i) m i n
def outT (T : Tb) (n : Nat) : Nat → Tb
  | 0 => T
  | m + 1 => midT (outT T n m) m n n
def rowL (n : Nat) (T : Tb) (i : Nat) : List Int := (List.range n).map (T i)
def tabL (n : Nat) (T : Tb) : List (List Int) := (List.range n).map (rowL n T)
theorem rowL_len (n : Nat) (T : Tb) (i : Nat) : (rowL n T i).length = n := by simp [rowL]
theorem tabL_len (n : Nat) (T : Tb) : (tabL n T).length = n := by simp [tabL]
theorem rowL_at {n : Nat} {T : Tb} {i k : Nat} (h : k < (rowL n T i).length) : (rowL n T i)[k] = T i k := by simp [rowL]
theorem tabL_at {n : Nat} {T : Tb} {i : Nat} (h : i < (tabL n T).length) : (tabL n T)[i] = rowL n T i := by simp [tabL]
theorem rowL_same {n : Nat} {T U : Tb} {i : Nat} (h : ∀ k, k < n → T i k = U i k) : rowL n T i = rowL n U i := by
  unfold rowL
  exact List.map_congr_left fun k hk => h k (List.mem_range.1 hk)
theorem upT_row {n : Nat} {T : Tb} {f t : Nat} {x : Int} : rowL n (upT T f t x) f = (rowL n T f).set t x := by
  apply List.ext_getElem
  · simp [rowL]
  · intro k h1 h2
    rw [rowL_at, List.getElem_set]
    by_cases hk : t = k
    · subst hk; simp [upT]
    · rw [if_neg hk, rowL_at, upT, if_neg (by omega)]
theorem upT_other {n : Nat} {T : Tb} {f t i : Nat} {x : Int} (h : i ≠ f) : rowL n (upT T f t x) i = rowL n T i := rowL_same fun k _ => by rw [upT, if_neg (by omega)]
theorem upT_at (T : Tb) (f t : Nat) (x : Int) : upT T f t x f t = x := by simp [upT]
theorem tabL_up {n : Nat} {T : Tb} {f t : Nat} {x : Int} (hf : f < n) : tabL n (upT T f t x) = (tabL n T).set f ((rowL n T f).set t x) := by
  apply List.ext_getElem
  · simp [tabL]
  · intro k h1 h2
    rw [tabL_at, List.getElem_set]
    by_cases hk : f = k
    · subst hk; rw [if_pos rfl, upT_row]
    · rw [if_neg hk, tabL_at, upT_other (by omega)]
-- The table's cells as the program keeps them: the number of activities, six rows of six, six durations.
def timC (n : Nat) (T : Tb) (d : Nat → Int) : List Value := .int .i64 (n : Int) :: ((List.range 36).map (fun j => Value.int .i64 (T (j / 6) (j % 6))) ++ (List.range 6).map (fun i => Value.int .i64 (d i)))
theorem timC_len (n : Nat) (T : Tb) (d : Nat → Int) : (timC n T d).length = 43 := by simp [timC]
theorem timC_at {n : Nat} {T : Tb} {d : Nat → Int} {a b : Nat} (ha : a < 6) (hb : b < 6) : (timC n T d)[1 + a * 6 + b]? = some (.int .i64 (T a b)) := by
  have h1 : (a * 6 + b) / 6 = a := by omega
  have h2 : (a * 6 + b) % 6 = b := by omega
  rw [timC, show 1 + a * 6 + b = (a * 6 + b) + 1 by omega, List.getElem?_cons_succ, List.getElem?_append_left (by simp; omega), List.getElem?_map, List.getElem?_range (by omega), Option.map_some, h1, h2]
theorem timC_dur {n : Nat} {T : Tb} {d : Nat → Int} {i : Nat} (h : i < 6) : (timC n T d)[37 + i]? = some (.int .i64 (d i)) := by
  rw [timC, show 37 + i = (36 + i) + 1 by omega, List.getElem?_cons_succ, List.getElem?_append_right (by simp), List.length_map, List.length_range, show 36 + i - 36 = i by omega, List.getElem?_map, List.getElem?_range h, Option.map_some]
theorem timC_zero (n : Nat) (T : Tb) (d : Nat → Int) : (timC n T d)[0]? = some (.int .i64 (n : Int)) := rfl
def upD (d : Nat → Int) (i : Nat) (x : Int) : Nat → Int := fun j => if j = i then x else d j
theorem timC_up {n : Nat} {T : Tb} {d : Nat → Int} {a b : Nat} {x : Int} (ha : a < 6) (hb : b < 6) : (timC n T d).set (1 + a * 6 + b) (.int .i64 x) = timC n (upT T a b x) d := by
  apply List.ext_getElem?
  intro j
  rw [List.getElem?_set]
  by_cases hj : 1 + a * 6 + b = j
  · subst hj
    rw [if_pos rfl, if_pos (by rw [timC_len]; omega), timC_at ha hb, upT_at]
  · rw [if_neg hj]
    unfold timC
    rcases j with _ | j
    · rfl
    · rw [List.getElem?_cons_succ, List.getElem?_cons_succ]
      by_cases h36 : j < 36
      · rw [List.getElem?_append_left (by simpa using h36), List.getElem?_append_left (by simpa using h36), List.getElem?_map, List.getElem?_map, List.getElem?_range h36, Option.map_some, Option.map_some, upT, if_neg (by omega)]
      · rw [List.getElem?_append_right (by simp; omega), List.getElem?_append_right (by simp; omega), List.length_map, List.length_map]
theorem timC_upD {n : Nat} {T : Tb} {d : Nat → Int} {i : Nat} {x : Int} (h : i < 6) : (timC n T d).set (37 + i) (.int .i64 x) = timC n T (upD d i x) := by
  apply List.ext_getElem?
  intro j
  rw [List.getElem?_set]
  by_cases hj : 37 + i = j
  · subst hj
    rw [if_pos rfl, if_pos (by rw [timC_len]; omega), timC_dur h, upD, if_pos rfl]
  · rw [if_neg hj]
    unfold timC
    rcases j with _ | j
    · rfl
    · rw [List.getElem?_cons_succ, List.getElem?_cons_succ]
      by_cases h36 : j < 36
      · rw [List.getElem?_append_left (by simpa using h36), List.getElem?_append_left (by simpa using h36)]
      · rw [List.getElem?_append_right (by simp; omega), List.getElem?_append_right (by simp; omega), List.length_map, List.length_range, List.getElem?_map, List.getElem?_map]
        by_cases h42 : j - 36 < 6
        · rw [List.getElem?_range h42, Option.map_some, Option.map_some, upD, if_neg (by omega)]
        · rw [List.getElem?_eq_none (by simp; omega)]; rfl

-- Greatest values from 0 on.
def maxTo (f : Nat → Int) : Nat → Int
  | 0 => 0
  | n + 1 => max (maxTo f n) (f n)
theorem maxTo_zero (f : Nat → Int) : maxTo f 0 = 0 := rfl
theorem maxTo_nn (f : Nat → Int) : ∀ n, 0 ≤ maxTo f n
  | 0 => Int.le_refl _
  | n + 1 => by have := maxTo_nn f n; rw [maxTo]; omega
theorem maxTo_le {f : Nat → Int} {c : Int} (h0 : 0 ≤ c) : ∀ n, (∀ k, k < n → f k ≤ c) → maxTo f n ≤ c
  | 0, _ => h0
  | n + 1, h => by have h1 := maxTo_le h0 n (fun k hk => h k (by omega)); have h2 := h n (by omega); rw [maxTo]; omega
theorem maxTo_ge {f : Nat → Int} : ∀ {n k}, k < n → f k ≤ maxTo f n
  | n + 1, k, h => by
    rw [maxTo]
    by_cases hk : k = n
    · subst hk; omega
    · have := maxTo_ge (f := f) (n := n) (k := k) (by omega); omega
theorem maxTo_same {f g : Nat → Int} : ∀ n, (∀ k, k < n → f k = g k) → maxTo f n = maxTo g n
  | 0, _ => rfl
  | n + 1, h => by rw [maxTo, maxTo, maxTo_same n (fun k hk => h k (by omega)), h n (by omega)]
def earlyT (T : Tb) (n k : Nat) : Int := maxTo (fun i => T i k) n
def tailT (T : Tb) (d : Nat → Int) (n a : Nat) : Int := maxTo (fun k => wrap64 (T a k + d k)) n
def boundT (T : Tb) (d : Nat → Int) (n : Nat) : Int := maxTo (fun a => wrap64 (earlyT T n a + d a)) n
/-- The model's tail: only where there is a path. -/
def tailS (T : Tb) (d : Nat → Int) (a : Nat) : Nat → Int
  | 0 => 0
  | k + 1 => if T a k = -1000 then tailS T d a k else max (tailS T d a k) (wrap64 (T a k + d k))
/-- The model's latest start. -/
def lateS (T : Tb) (d : Nat → Int) (t : Int) (a : Nat) : Nat → Int
  | 0 => wrap64 (t - d a)
  | k + 1 => if T a k = -1000 then lateS T d t a k else min (lateS T d t a k) (wrap64 (wrap64 (t - d k) - T a k))
def lateT (T : Tb) (d : Nat → Int) (n : Nat) (t : Int) (a : Nat) : Int := wrap64 (t - tailT T d n a)

-- Bounds.
def Bd (T : Tb) (n : Nat) (c : Int) : Prop := ∀ a b, a < n → b < n → -1000 ≤ T a b ∧ T a b ≤ c
theorem wr_id {x : Int} (h : -9223372036854775808 ≤ x) (h2 : x ≤ 9223372036854775807) : wrap64 x = x := by unfold wrap64; omega
/-- How far a place may have come in the turn of m. -/
def clsT (c : Int) (m a b : Nat) : Int := if a = m then (if b = m then 2 * c else 3 * c) else if b = m then 3 * c else 6 * c
def capT (c : Int) (m i k a b : Nat) : Int := if a < i ∨ (a = i ∧ b < k) then clsT c m a b else c
def Iv (T : Tb) (n : Nat) (c : Int) (m i k : Nat) : Prop := ∀ a b, a < n → b < n → -1000 ≤ T a b ∧ T a b ≤ capT c m i k a b
theorem capT_mono {c : Int} (h : 0 ≤ c) {m i k a b : Nat} : capT c m i k a b ≤ capT c m i (k + 1) a b := by
  unfold capT
  by_cases h1 : a < i ∨ (a = i ∧ b < k)
  · rw [if_pos h1, if_pos (by omega)]; exact Int.le_refl _
  · rw [if_neg h1]
    split
    · unfold clsT; split <;> split <;> omega
    · exact Int.le_refl _
theorem capT_new {c : Int} {m i k : Nat} : capT c m i (k + 1) i k = clsT c m i k := by unfold capT; rw [if_pos (by omega)]
theorem raiseT_other {T : Tb} {f t a b : Nat} {x : Int} (h : ¬ (a = f ∧ b = t)) : raiseT T f t x a b = T a b := by rw [raiseT, upT, if_neg h]
theorem raiseT_at (T : Tb) (f t : Nat) (x : Int) : raiseT T f t x f t = max (T f t) x := by simp [raiseT, upT]
theorem raiseT_ge (T : Tb) (f t : Nat) (x : Int) (a b : Nat) : T a b ≤ raiseT T f t x a b := by
  by_cases h : a = f ∧ b = t
  · obtain ⟨rfl, rfl⟩ := h; rw [raiseT_at]; omega
  · rw [raiseT_other h]; exact Int.le_refl _
theorem step_ge (T : Tb) (m i k a b : Nat) : T a b ≤ stepT T m i k a b := by
  unfold stepT
  split
  · exact Int.le_refl _
  · split
    · exact Int.le_refl _
    · exact raiseT_ge _ _ _ _ _ _
theorem cap_sum {c : Int} (h : 0 ≤ c) {m i k : Nat} {x y : Int} (hx : x ≤ capT c m i k i m) (hy : y ≤ capT c m i k m k) : x + y ≤ clsT c m i k := by
  unfold capT clsT at hx hy
  unfold clsT
  by_cases h1 : i = m
  · subst h1
    by_cases h2 : k = i
    · subst h2
      simp at hx hy ⊢
      omega
    · simp only [h2, if_false, if_true] at hx hy ⊢
      rw [if_neg (by omega)] at hy
      split at hx <;> omega
  · by_cases h2 : k = m
    · subst h2
      simp only [h1, if_false, if_true] at hx hy ⊢
      rw [if_neg (by omega)] at hx
      split at hy <;> omega
    · simp only [h1, h2, if_false, if_true] at hx hy ⊢
      split at hx <;> split at hy <;> omega
theorem clsT_ge {c : Int} (h : 0 ≤ c) {m a b : Nat} : c ≤ clsT c m a b := by unfold clsT; split <;> split <;> omega
theorem clsT_le {c : Int} (h : 0 ≤ c) {m a b : Nat} : clsT c m a b ≤ 6 * c := by unfold clsT; split <;> split <;> omega
theorem Iv.step {T : Tb} {n : Nat} {c : Int} {m i k : Nat} (h : Iv T n c m i k) (h0 : 0 ≤ c) (h1 : c ≤ 1000000000) (hm : m < n) (hi : i < n) (hk : k < n) : Iv (stepT T m i k) n c m i (k + 1) := by
  intro a b ha hb
  obtain ⟨l1, l2⟩ := h a b ha hb
  have l3 := capT_mono h0 (m := m) (i := i) (k := k) (a := a) (b := b)
  refine ⟨Int.le_trans l1 (step_ge _ _ _ _ _ _), ?_⟩
  unfold stepT
  split
  · omega
  · split
    · omega
    · by_cases hq : a = i ∧ b = k
      · obtain ⟨rfl, rfl⟩ := hq
        rw [raiseT_at, capT_new]
        obtain ⟨x1, x2⟩ := h a m ha hm
        obtain ⟨y1, y2⟩ := h m b hm hb
        have hs := cap_sum h0 x2 y2
        have hc := clsT_le h0 (m := m) (a := a) (b := b)
        rw [capT_new] at l3
        rw [wr_id (by omega) (by omega)]
        omega
      · rw [raiseT_other hq]
        omega
theorem Iv.row {T : Tb} {n : Nat} {c : Int} {m i : Nat} (h : Iv T n c m i 0) (h0 : 0 ≤ c) (h1 : c ≤ 1000000000) (hm : m < n) (hi : i < n) : ∀ k, k ≤ n → Iv (rowT T m i k) n c m i k
  | 0, _ => h
  | k + 1, hk => (Iv.row h h0 h1 hm hi k (by omega)).step h0 h1 hm hi (by omega)
theorem Iv.next {T : Tb} {n : Nat} {c : Int} {m i : Nat} (h : Iv T n c m i n) : Iv T n c m (i + 1) 0 := by
  intro a b ha hb
  obtain ⟨l1, l2⟩ := h a b ha hb
  refine ⟨l1, ?_⟩
  unfold capT at l2 ⊢
  by_cases h2 : a < i ∨ (a = i ∧ b < n)
  · rw [if_pos h2] at l2; rw [if_pos (by omega)]; exact l2
  · rw [if_neg h2] at l2; rw [if_neg (by omega)]; exact l2
theorem Iv.mid {T : Tb} {n : Nat} {c : Int} {m : Nat} (h : Iv T n c m 0 0) (h0 : 0 ≤ c) (h1 : c ≤ 1000000000) (hm : m < n) : ∀ i, i ≤ n → Iv (midT T m n i) n c m i 0
  | 0, _ => h
  | i + 1, hi => (Iv.row (Iv.mid h h0 h1 hm i (by omega)) h0 h1 hm (by omega) n (Nat.le_refl _)).next
theorem Bd.mid {T : Tb} {n : Nat} {c : Int} {m : Nat} (h : Bd T n c) (h0 : 0 ≤ c) (h1 : c ≤ 1000000000) (hm : m < n) : Bd (midT T m n n) n (6 * c) := by
  have hiv : Iv T n c m 0 0 := fun a b ha hb => by
    obtain ⟨l1, l2⟩ := h a b ha hb
    exact ⟨l1, by unfold capT; split <;> first | (have := clsT_ge h0 (m := m) (a := a) (b := b); omega) | exact l2⟩
  have hr := Iv.mid hiv h0 h1 hm n (Nat.le_refl _)
  intro a b ha hb
  obtain ⟨l1, l2⟩ := hr a b ha hb
  refine ⟨l1, ?_⟩
  have hc := clsT_le h0 (m := m) (a := a) (b := b)
  unfold capT at l2
  split at l2 <;> omega
theorem Bd.up {T : Tb} {n : Nat} {c d : Int} (h : Bd T n c) (hc : c ≤ d) : Bd T n d := fun a b ha hb => ⟨(h a b ha hb).1, Int.le_trans (h a b ha hb).2 hc⟩
theorem Bd.out {T : Tb} {n : Nat} (h : Bd T n 72) (hn : n ≤ 6) : ∀ m, m ≤ n → Bd (outT T n m) n (72 * 6 ^ m)
  | 0, _ => by simpa [outT] using h
  | m + 1, hm => by
    have hr := (Bd.out h hn m (by omega)).mid (by
      have : m = 0 ∨ m = 1 ∨ m = 2 ∨ m = 3 ∨ m = 4 ∨ m = 5 := by omega
      rcases this with rfl | rfl | rfl | rfl | rfl | rfl <;> decide) (by
      have : m = 0 ∨ m = 1 ∨ m = 2 ∨ m = 3 ∨ m = 4 ∨ m = 5 := by omega
      rcases this with rfl | rfl | rfl | rfl | rfl | rfl <;> decide) (m := m) (by omega)
    rw [outT]
    exact hr.up (by rw [Int.pow_succ]; omega)
theorem rowT_ge (T : Tb) (m i a b : Nat) : ∀ k, T a b ≤ rowT T m i k a b
  | 0 => Int.le_refl _
  | k + 1 => Int.le_trans (rowT_ge T m i a b k) (step_ge _ _ _ _ _ _)
theorem midT_ge (T : Tb) (m n a b : Nat) : ∀ i, T a b ≤ midT T m n i a b
  | 0 => Int.le_refl _
  | i + 1 => Int.le_trans (midT_ge T m n a b i) (rowT_ge _ _ _ _ _ _)
theorem outT_ge (T : Tb) (n a b : Nat) : ∀ m, T a b ≤ outT T n m a b
  | 0 => Int.le_refl _
  | m + 1 => Int.le_trans (outT_ge T n a b m) (midT_ge _ _ _ _ _ _)
/-- What the model leaves out makes no difference to a tail. -/
theorem tail_eq {T : Tb} {n : Nat} {d : Nat → Int} (h : Bd T n 3359232) (hd : ∀ k, k < n → 0 ≤ d k ∧ d k ≤ 12) {a : Nat} (ha : a < n) : ∀ k, k ≤ n → tailS T d a k = tailT T d k a
  | 0, _ => rfl
  | k + 1, hk => by
    have ih := tail_eq h hd ha k (by omega)
    have hb := h a k ha (by omega)
    have hdk := hd k (by omega)
    unfold tailT at ih ⊢
    rw [tailS, maxTo, ih, wr_id (by omega) (by omega)]
    split
    · have := maxTo_nn (fun k => wrap64 (T a k + d k)) k; omega
    · rfl
theorem tailT_in {T : Tb} {n : Nat} {d : Nat → Int} (h : Bd T n 3359232) (hd : ∀ k, k < n → 0 ≤ d k ∧ d k ≤ 12) {a : Nat} (ha : a < n) {k : Nat} (hk : k ≤ n) : 0 ≤ tailT T d k a ∧ tailT T d k a ≤ 3359244 :=
  ⟨maxTo_nn _ _, maxTo_le (by omega) _ fun j hj => by
    have hb := h a j ha (by omega)
    have hdk := hd j (by omega)
    rw [wr_id (by omega) (by omega)]; omega⟩
theorem late_aux {T : Tb} {n : Nat} {d : Nat → Int} {t : Int} (h : Bd T n 3359232) (hd : ∀ k, k < n → 0 ≤ d k ∧ d k ≤ 12) (ht : 0 ≤ t) (ht2 : t ≤ 1000000000) {a : Nat} (ha : a < n) : ∀ k, k ≤ n → lateS T d t a k = t - max (d a) (tailT T d k a)
  | 0, _ => by have := hd a ha; rw [lateS, tailT, maxTo, wr_id (by omega) (by omega)]; omega
  | k + 1, hk => by
    have ih := late_aux h hd ht ht2 ha k (by omega)
    have hb := h a k ha (by omega)
    have hdk := hd k (by omega)
    have hda := hd a ha
    have hin := tailT_in h hd ha (k := k) (by omega)
    unfold tailT at ih hin ⊢
    rw [lateS, maxTo, ih, wr_id (x := T a k + d k) (by omega) (by omega)]
    split
    · omega
    · rw [wr_id (x := t - d k) (by omega) (by omega), wr_id (by omega) (by omega)]; omega
/-- For a time that is no extreme, the model's latest start is the time less the tail. -/
theorem late_eq {T : Tb} {n : Nat} {d : Nat → Int} {t : Int} (h : Bd T n 3359232) (hs : ∀ a, 0 ≤ T a a) (hd : ∀ k, k < n → 0 ≤ d k ∧ d k ≤ 12) (ht : 0 ≤ t) (ht2 : t ≤ 1000000000) {a : Nat} (ha : a < n) : lateS T d t a n = lateT T d n t a := by
  rw [late_aux h hd ht ht2 ha n (Nat.le_refl _), lateT]
  have hin := tailT_in h hd ha (k := n) (Nat.le_refl _)
  have hge := maxTo_ge (f := fun k => wrap64 (T a k + d k)) (n := n) (k := a) ha
  have hda := hd a ha
  have hsa := hs a
  have hba := h a a ha ha
  unfold tailT at hin ⊢
  rw [wr_id (x := T a a + d a) (by omega) (by omega)] at hge
  rw [wr_id (x := t - maxTo _ n) (by omega) (by omega)]
  omega
theorem early_in {T : Tb} {n : Nat} (h : Bd T n 3359232) {k : Nat} (hk : k < n) : 0 ≤ earlyT T n k ∧ earlyT T n k ≤ 3359232 := ⟨maxTo_nn _ _, maxTo_le (by omega) _ fun i hi => (h i k hi hk).2⟩
theorem bound_in {T : Tb} {n : Nat} {d : Nat → Int} (h : Bd T n 3359232) (hd : ∀ k, k < n → 0 ≤ d k ∧ d k ≤ 12) : 0 ≤ boundT T d n ∧ boundT T d n ≤ 3359244 :=
  ⟨maxTo_nn _ _, maxTo_le (by omega) _ fun a ha => by
    have he := early_in h ha
    have hda := hd a ha
    rw [wr_id (by omega) (by omega)]; omega⟩

end Go.Proofs.YtoggakfkpeloiaaGreat
end

section
namespace Go.Proofs.YtoggakfkpeloiaaGreat
open Go.RowKit
set_option linter.unusedVariables false

theorem Bk.tim {w : World} {g : Nat} {t : TypeId} {n : Nat} {T : Tb} {d : Nat → Int} (h : Bk w g t ⟨timC n T d⟩) :
    w.cell? ⟨g, 0, none⟩ = some (.int .i64 (n : Int)) ∧ (∀ a b : Nat, a < 6 → b < 6 → w.cell? ⟨g, 1 + a * 6 + b, none⟩ = some (.int .i64 (T a b))) ∧ (∀ i : Nat, i < 6 → w.cell? ⟨g, 37 + i, none⟩ = some (.int .i64 (d i))) ∧ ∀ i, w.frozen? ⟨g, i, none⟩ = false :=
  ⟨h.cell 0, fun a b ha hb => (h.cell _).trans (by simpa using timC_at ha hb), fun i hi => (h.cell _).trans (by simpa using timC_dur hi), h.frozen⟩
theorem Bk.timUp {w : World} {g : Nat} {t : TypeId} {n : Nat} {T : Tb} {d : Nat → Int} (h : Bk w g t ⟨timC n T d⟩) {a b : Nat} (ha : a < 6) (hb : b < 6) (x : Int) : Bk (w.setCell ⟨g, 1 + a * 6 + b, none⟩ (.int .i64 x)) g t ⟨timC n (upT T a b x) d⟩ := by
  have := h.set (1 + a * 6 + b) (.int .i64 x)
  rw [← timC_up ha hb]
  simpa using this
theorem Bk.timD {w : World} {g : Nat} {t : TypeId} {n : Nat} {T : Tb} {d : Nat → Int} (h : Bk w g t ⟨timC n T d⟩) {i : Nat} (hi : i < 6) (x : Int) : Bk (w.setCell ⟨g, 37 + i, none⟩ (.int .i64 x)) g t ⟨timC n T (upD d i x)⟩ := by
  have := h.set (37 + i) (.int .i64 x)
  rw [← timC_upD hi]
  simpa using this
theorem wr_drew {F : List Nat} {w w' : World} (h : Wr F w w') : Wr F w w'.drew := h.trans ((Wr.of_below ((Below.refl w'.heap.size w').drew) (Nat.le_refl _)).sub (fun _ hk => hk))
theorem Sn.boxWr {w0 w w' : World} {L : List Item} {g : Nat} {t : TypeId} {cs cs' : List Value} (h : Sn w0 w L) (i : Nat) (hr : L[i]? = some (boxI g t cs)) (hb : Bk w' g t ⟨cs'⟩) (hw : Wr [g] w w') : Sn w0 w' (L.set i (boxI g t cs')) := by
  have ho := h.own i hr
  have hg := (Tr.own_lt _ _ _ ho.1 g (by simp)).1
  exact h.mark i hr (Bk.own hb hg) (by simp) (fun k hk => hk) hw

set_option maxRecDepth 100000 in
set_option maxHeartbeats 4000000 in
theorem raise_any (n : Nat) (T : Tb) (d : Nat → Int) (g a b : Nat) (x : Int) (w : World) (h : Bk w g 59 ⟨timC n T d⟩) (ha : a < 6) (hb : b < 6) :
    Calls Tryz.prog 80 #[.pointer (some ⟨g, 0, none⟩), .int .i64 (a : Int), .int .i64 (b : Int), .int .i64 x] w fun e w' => e = .returned (.tuple #[]) ∧ Bk w' g 59 ⟨timC n (raiseT T a b x) d⟩ ∧ Wr [g] w w' := by
  have R := Lib.hid (show Bk (w.setCell ⟨g, 1 + a * 6 + b, none⟩ (.int .i64 (max (T a b) x))).drew g 59 ⟨timC n (raiseT T a b x) d⟩ from (h.timUp ha hb (max (T a b) x)).drewN 1)
  have RW := Lib.hid (wr_drew (Wr.setCell (F := [g]) w ⟨g, 1 + a * 6 + b, none⟩ (by simp) (.int .i64 (max (T a b) x))))
  obtain ⟨_, hc, _, hf⟩ := h.tim
  have hx := hc a b ha hb
  have hfx := hf (1 + a * 6 + b)
  have hg := h.lt
  have ha' : (a : Int) < 6 := by omega
  have hb' : (b : Int) < 6 := by omega
  clear hc hf h
  go_enter Tryz.func80, Tryz.ntmps80
  go_wp2
  go_region
  go_end0
  exact ⟨rfl, R.out, RW.out⟩

set_option maxRecDepth 100000 in
set_option maxHeartbeats 4000000 in
theorem extend_any (n : Nat) (T : Tb) (d : Nat → Int) (g m : Nat) (w : World) (h : Bk w g 59 ⟨timC n T d⟩) (hn : n ≤ 6) (hm : m < n) :
    Calls Tryz.prog 81 #[.pointer (some ⟨g, 0, none⟩), .int .i64 (m : Int)] w fun e w' => e = .returned (.tuple #[]) ∧ Bk w' g 59 ⟨timC n (midT T m n n) d⟩ ∧ Wr [g] w w' := by
  have h0 := h.tim.1
  have H := Lib.hid h
  have hg := h.lt
  have hm' : (m : Int) < 6 := by omega
  clear h
  go_enter Tryz.func81, Tryz.ntmps81
  go_wp2
  go_loopw [12] (fun i wr => ∃ k : Nat, k ≤ n ∧ i = .int .i64 k ∧ Bk wr g 59 ⟨timC n (midT T m n k) d⟩ ∧ Wr [g] w wr) (fun i _ => n - (intOf i).toNat)
  case atStart => exact ⟨0, Nat.zero_le _, rfl, H.out, Wr.refl _ _⟩
  case round =>
    obtain ⟨k, hkn, rfl, hB, hW⟩ := hrel
    have B1 := Lib.hid hB
    have W1 := Lib.hid hW
    obtain ⟨wo, rfl⟩ : ∃ wo : World, wo = wr := ⟨_, rfl⟩
    have hgo := hB.lt
    have q0 := hB.tim.1
    clear hB hW H
    by_cases hlt : k < n
    · have hlt' : (k : Int) < (n : Int) := by omega
      have hk' : (k : Int) < 6 := by omega
      have NX := Lib.hid (show midT T m n (k + 1) = rowT (midT T m n k) m k n from rfl)
      generalize midT T m n k = U at B1 NX
      go_wp2
      go_loopw [19] (fun i ws => ∃ j : Nat, j ≤ n ∧ i = .int .i64 j ∧ Bk ws g 59 ⟨timC n (rowT U m k j) d⟩ ∧ Wr [g] w ws) (fun i _ => n - (intOf i).toNat)
      case atStart => exact ⟨0, Nat.zero_le _, rfl, B1.out, W1.out⟩
      case round =>
        obtain ⟨j, hjn, rfl, hB, hW⟩ := hrel
        have B2 := Lib.hid hB
        have W2 := Lib.hid hW
        have hgr := hB.lt
        obtain ⟨_, hc, _, _⟩ := hB.tim
        clear hB hW B1 W1 q0
        by_cases hlt2 : j < n
        · have hlt2' : (j : Int) < (n : Int) := by omega
          have hj' : (j : Int) < 6 := by omega
          have NY := Lib.hid (show rowT U m k (j + 1) = stepT (rowT U m k j) m k j from rfl)
          have x1 := hc k m (by omega) (by omega)
          have x2 := hc m j (by omega) (by omega)
          clear hc
          generalize rowT U m k j = V at B2 NY x1 x2
          have NZ := Lib.hid (show stepT V m k j = (if V k m = -1000 then V else if V m j = -1000 then V else raiseT V k j (wrap64 (V k m + V m j))) from rfl)
          generalize V k m = y1 at x1 NZ
          generalize V m j = y2 at x2 NZ
          by_cases hy1 : y1 = -1000
          · have NQ := Lib.hid (NY.out.trans (NZ.out.trans (if_pos hy1)))
            subst hy1
            clear NY NZ
            go_wp2
            go_region
            go_wp2
            go_roundw
            case rel => exact ⟨j + 1, by omega, by go_num, by rw [NQ.out]; exact B2.out.drewN 1, wr_drew W2.out⟩
            case measure => simp [intOf]; omega
          by_cases hy2 : y2 = -1000
          · have NQ := Lib.hid (NY.out.trans (NZ.out.trans ((if_neg hy1).trans (if_pos hy2))))
            have hy1' : (y1 != -1000) = true := by simp; omega
            subst hy2
            clear NY NZ hy1
            go_wp2
            go_region
            go_wp2
            go_roundw
            case rel => exact ⟨j + 1, by omega, by go_num, by rw [NQ.out]; exact B2.out.drewN 1, wr_drew W2.out⟩
            case measure => simp [intOf]; omega
          have NQ := Lib.hid (NY.out.trans (NZ.out.trans ((if_neg hy1).trans (if_neg hy2))))
          have hy1' : (y1 != -1000) = true := by simp; omega
          have hy2' : (y2 != -1000) = true := by simp; omega
          clear NY NZ hy1 hy2
          go_wp2
          go_region
          go_wp2_with fail
          refine (raise_any n V d g k j _ _ (by exact B2.out.drewN 1) (by omega) (by omega)).mono ?_
          rintro e w5 ⟨rfl, b5, r5⟩
          have B5 := Lib.hid b5
          have R5 := Lib.hid ((wr_drew W2.out).trans r5)
          clear b5 r5
          go_wp2
          go_roundw
          case rel => exact ⟨j + 1, by omega, by go_num, by rw [NQ.out]; exact B5.out, R5.out⟩
          case measure => simp [intOf]; omega
        · have hge : ¬ (j : Int) < (n : Int) := by omega
          obtain rfl : j = n := by omega
          clear hc
          go_wp2
          go_roundw
          case rel => exact ⟨k + 1, by omega, by go_num, by rw [NX.out]; exact B2.out, W2.out⟩
          case measure => simp [intOf]; omega
    · have hge : ¬ (k : Int) < (n : Int) := by omega
      obtain rfl : k = n := by omega
      go_wp2
      go_end0
      exact ⟨rfl, B1.out, W1.out⟩

set_option maxRecDepth 100000 in
set_option maxHeartbeats 4000000 in
theorem earliest_any (n : Nat) (T : Tb) (d : Nat → Int) (a : Nat) (w : World) (hn : n ≤ 6) (ha : a < n) :
    Calls Tryz.prog 55 #[.agg ⟨timC n T d⟩, .int .i64 (a : Int)] w fun e w' => e = .returned (.int .i64 (earlyT T n a)) ∧ Below w.heap.size w w' := by
  have S0 := Lib.hid ((Sn.start w).box 59 (timC n T d))
  have hC := timC_len n T d
  have hn0 := (S0.out.bk 0 rfl).tim.1
  have ha' : (a : Int) < 6 := by omega
  go_enter Tryz.func55, Tryz.ntmps55
  go_wp2
  clear hC hn0
  go_loopw [5, 9] (fun s i wr => ∃ k : Nat, k ≤ n ∧ i = .int .i64 k ∧ s = .int .i64 (maxTo (fun i => T i a) k) ∧ Sn w wr [boxI w.heap.size 59 (timC n T d)]) (fun _ i _ => n - (intOf i).toNat)
  case atStart => exact ⟨0, Nat.zero_le _, rfl, rfl, S0.out⟩
  case round =>
    obtain ⟨k, hkn, rfl, rfl, hS⟩ := hrel
    have S1 := Lib.hid hS
    clear hS S0
    by_cases hlt : k < n
    · have hlt' : (k : Int) < (n : Int) := by omega
      have hk' : (k : Int) < 6 := by omega
      have x1 := (S1.out.bk 0 rfl).tim.2.1 k a (by omega) (by omega)
      have NX := Lib.hid (show maxTo (fun i => T i a) (k + 1) = max (maxTo (fun i => T i a) k) (T k a) from rfl)
      generalize maxTo (fun i => T i a) k = s at NX ⊢
      generalize T k a = y at NX x1
      go_wp2
      go_roundw
      case rel => exact ⟨k + 1, by omega, by go_num, by rw [NX.out], S1.out⟩
      case measure => simp [intOf]; omega
    · have hge : ¬ (k : Int) < (n : Int) := by omega
      obtain rfl : k = n := by omega
      go_wp2
      go_ret
      exact ⟨rfl, S1.out.1⟩

set_option maxRecDepth 100000 in
set_option maxHeartbeats 4000000 in
theorem tail_any (n : Nat) (T : Tb) (d : Nat → Int) (a : Nat) (w : World) (hn : n ≤ 6) (ha : a < n) :
    Calls Tryz.prog 64 #[.agg ⟨timC n T d⟩, .int .i64 (a : Int)] w fun e w' => e = .returned (.int .i64 (tailT T d n a)) ∧ Below w.heap.size w w' := by
  have S0 := Lib.hid ((Sn.start w).box 59 (timC n T d))
  have hC := timC_len n T d
  have hn0 := (S0.out.bk 0 rfl).tim.1
  have ha' : (a : Int) < 6 := by omega
  go_enter Tryz.func64, Tryz.ntmps64
  go_wp2
  clear hC hn0
  go_loopw [5, 9] (fun s i wr => ∃ k : Nat, k ≤ n ∧ i = .int .i64 k ∧ s = .int .i64 (maxTo (fun k => wrap64 (T a k + d k)) k) ∧ Sn w wr [boxI w.heap.size 59 (timC n T d)]) (fun _ i _ => n - (intOf i).toNat)
  case atStart => exact ⟨0, Nat.zero_le _, rfl, rfl, S0.out⟩
  case round =>
    obtain ⟨k, hkn, rfl, rfl, hS⟩ := hrel
    have S1 := Lib.hid hS
    clear hS S0
    by_cases hlt : k < n
    · have hlt' : (k : Int) < (n : Int) := by omega
      have hk' : (k : Int) < 6 := by omega
      have x1 := (S1.out.bk 0 rfl).tim.2.1 a k (by omega) (by omega)
      have x2 := (S1.out.bk 0 rfl).tim.2.2.1 k (by omega)
      have hgr := (S1.out.bk 0 rfl).lt
      have NX := Lib.hid (show maxTo (fun k => wrap64 (T a k + d k)) (k + 1) = max (maxTo (fun k => wrap64 (T a k + d k)) k) (wrap64 (T a k + d k)) from rfl)
      generalize maxTo (fun k => wrap64 (T a k + d k)) k = s at NX ⊢
      generalize T a k = y at NX x1
      generalize d k = z at NX x2
      go_wp2
      go_region
      go_wp2
      go_roundw
      case rel => exact ⟨k + 1, by omega, by go_num, by rw [NX.out] <;> rfl, S1.out.drew1⟩
      case measure => simp [intOf]; omega
    · have hge : ¬ (k : Int) < (n : Int) := by omega
      obtain rfl : k = n := by omega
      go_wp2
      go_ret
      exact ⟨rfl, S1.out.1⟩

end Go.Proofs.YtoggakfkpeloiaaGreat
end

section
namespace Go.Proofs.YtoggakfkpeloiaaGreat
open Go.RowKit
set_option linter.unusedVariables false

theorem infoTiming : (Tryz.prog.info? 59).map (·.size) = some 43 := by kernel_rfl
theorem timC_info (n : Nat) (T : Tb) (d : Nat → Int) : (Tryz.prog.info? 59).map (·.size) = some (timC n T d).length := by rw [timC_len]; exact infoTiming
theorem bk_range {w : World} {g : Nat} {t : TypeId} {cs : List Value} (h : Bk w g t ⟨cs⟩) : w.rangeAt g 0 cs := fun j v hv => by
  rw [Nat.zero_add, h.cell]; simpa using hv
theorem bk_there {w : World} {g : Nat} {t : TypeId} {cs : List Value} {k : Nat} (h : Bk w g t ⟨cs⟩) (hk : k = cs.length) : w.there g 0 k := fun j hj => by
  refine ⟨?_, h.frozen _⟩
  rw [h.cell, Nat.zero_add]
  have : j < (⟨cs⟩ : Array Value).size := by show j < cs.length; omega
  rw [Array.getElem?_eq_getElem this]; rfl
theorem bk_setCells {g : Nat} {t : TypeId} : ∀ (vs : List Value) (o : Nat) (cs : List Value) (w : World), Bk w g t ⟨cs⟩ → o + vs.length ≤ cs.length → Bk (w.setCells g o vs) g t ⟨cs.take o ++ (vs ++ cs.drop (o + vs.length))⟩ ∧ Wr [g] w (w.setCells g o vs)
  | [], o, cs, w, h, _ => ⟨by simpa [World.setCells] using h, Wr.refl _ _⟩
  | v :: vs, o, cs, w, h, hl => by
    have h1 := h.set o v
    rw [show (⟨cs⟩ : Array Value).setIfInBounds o v = ⟨cs.set o v⟩ by simp] at h1
    simp only [List.length_cons] at hl
    obtain ⟨h2, h3⟩ := bk_setCells vs (o + 1) (cs.set o v) _ h1 (by rw [List.length_set]; omega)
    refine ⟨?_, (Wr.setCell w ⟨g, o, none⟩ (by simp) v).trans h3⟩
    have e : (cs.set o v).take (o + 1) ++ (vs ++ (cs.set o v).drop (o + 1 + vs.length)) = cs.take o ++ (v :: vs ++ cs.drop (o + (v :: vs).length)) := by
      rw [List.take_succ_eq_append_getElem (by rw [List.length_set]; omega), List.getElem_set_self, List.take_set_of_le (Nat.le_refl o), List.drop_set_of_lt (by omega), List.length_cons, show o + 1 + vs.length = o + (vs.length + 1) by omega]
      simp
    rw [← e]
    exact h2
theorem bk_whole {w : World} {g : Nat} {t : TypeId} {cs vs : List Value} (h : Bk w g t ⟨cs⟩) (hl : vs.length = cs.length) : Bk (w.setCells g 0 vs) g t ⟨vs⟩ ∧ Wr [g] w (w.setCells g 0 vs) := by
  obtain ⟨h1, h2⟩ := bk_setCells vs 0 cs w h (by omega)
  refine ⟨?_, h2⟩
  rw [show cs.take 0 ++ (vs ++ cs.drop (0 + vs.length)) = vs by simp [hl]] at h1
  exact h1
theorem oneMem (n : Nat) (T : Tb) (d : Nat → Int) : ∀ v ∈ timC n T d, v.oneCell' = true := fun v hv => by
  simp only [timC, List.mem_cons, List.mem_append, List.mem_map] at hv
  rcases hv with rfl | ⟨_, _, rfl⟩ | ⟨_, _, rfl⟩ <;> rfl
theorem oneAll (n : Nat) (T : Tb) (d : Nat → Int) : (⟨timC n T d⟩ : Array Value).all (·.oneCell') = true :=
  all_oneCell_toArray (oneMem n T d)

set_option maxRecDepth 100000 in
set_option maxHeartbeats 8000000 in
theorem latest_any (n : Nat) (T : Tb) (d : Nat → Int) (a : Nat) (t : Int) (w : World) (hn : n ≤ 6) (ha : a < n) :
    Calls Tryz.prog 59 #[.agg ⟨timC n T d⟩, .int .i64 (a : Int), .int .i64 t] w fun e w' => e = .returned (.int .i64 (lateT T d n t a)) ∧ Below w.heap.size w w' := by
  have S0 := Lib.hid ((Sn.start w).box 59 (timC n T d))
  have hC := timC_len n T d
  have L := Lib.hid (show lateT T d n t a = wrap64 (t - tailT T d n a) from rfl)
  go_enter Tryz.func59, Tryz.ntmps59
  go_wp2_with (first | (refine wpList_load_mid rfl 59 _ rfl (w.heap.size) 0 rfl (timC n T d) _ (bk_range (S0.out.bk 0 rfl)) Tryz.underlying59 rfl (timC_info n T d) ?_) | fail)
  refine (tail_any n T d a _ hn ha).mono ?_
  rintro e w1 ⟨rfl, b1⟩
  have S1 := Lib.hid (S0.out.go b1)
  clear S0 b1 hC
  generalize tailT T d n a = y at L ⊢
  go_wp2
  go_ret
  exact ⟨by rw [L.out] <;> rfl, S1.out.1⟩

theorem run_load43 {P : Program} {g n : Nat} {T : Tb} {d : Nat → Int} (W : World) (h : W.rangeAt g 0 (timC n T d)) : (loadCellsFrom ⟨g, 0, none⟩ 0 43 #[]).run P W = .ok ⟨timC n T d⟩ W := by
  have := run_loadCells_list (P := P) W ⟨g, 0, none⟩ (timC n T d) (fun j v hv => by rw [Addr.add_mid]; exact h j v hv)
  simpa [loadCells, timC_len] using this

set_option maxRecDepth 100000 in
set_option maxHeartbeats 8000000 in
theorem bound_any (n : Nat) (T : Tb) (d : Nat → Int) (w : World) (hn : n ≤ 6) :
    Calls Tryz.prog 60 #[.agg ⟨timC n T d⟩] w fun e w' => e = .returned (.int .i64 (boundT T d n)) ∧ Below w.heap.size w w' := by
  have S0 := Lib.hid ((Sn.start w).box 59 (timC n T d))
  have hC := timC_len n T d
  have hn0 := (S0.out.bk 0 rfl).tim.1
  go_enter Tryz.func60, Tryz.ntmps60
  go_wp2
  clear hn0
  go_loopw [3, 7] (fun s i wr => ∃ k : Nat, k ≤ n ∧ i = .int .i64 k ∧ s = .int .i64 (maxTo (fun a => wrap64 (earlyT T n a + d a)) k) ∧ Sn w wr [boxI w.heap.size 59 (timC n T d)]) (fun _ i _ => n - (intOf i).toNat)
  case atStart => exact ⟨0, Nat.zero_le _, rfl, rfl, S0.out⟩
  case round =>
    obtain ⟨k, hkn, rfl, rfl, hS⟩ := hrel
    have S1 := Lib.hid hS
    clear hS S0
    by_cases hlt : k < n
    · have hlt' : (k : Int) < (n : Int) := by omega
      have hk' : (k : Int) < 6 := by omega
      have hk0 : (0 : Int) ≤ (k : Int) := by omega
      have x2 := (S1.out.bk 0 rfl).tim.2.2.1 k (by omega)
      have hgr := (S1.out.bk 0 rfl).lt
      have BR := Lib.hid (S1.out.bk 0 rfl)
      have NX := Lib.hid (show maxTo (fun a => wrap64 (earlyT T n a + d a)) (k + 1) = max (maxTo (fun a => wrap64 (earlyT T n a + d a)) k) (wrap64 (earlyT T n k + d k)) from rfl)
      generalize maxTo (fun a => wrap64 (earlyT T n a + d a)) k = s at NX ⊢
      generalize hz : d k = z at NX x2
      clear hz
      go_wp2_with fail
      have CE := Lib.hid (fun (W : World) (h : Below wr.heap.size wr W) => show Hid (Below wr.heap.size wr W) ∧ W.rangeAt w.heap.size 0 (timC n T d) ∧ W.cell? ⟨w.heap.size, 37 + k, none⟩ = some (.int .i64 z) from ⟨Lib.hid h, bk_range (BR.out.below h (Nat.le_refl _)), (h.cell (p := ⟨w.heap.size, 37 + k, none⟩) hgr).trans x2⟩)
      have INIT := Lib.hid (CE.out _ (Below.refl _ _).drew)
      have KEEP := Lib.hid (fun (W2 W : World) (hb2 : Below W.heap.size W W2) (h : Hid (Below wr.heap.size wr W) ∧ W.rangeAt w.heap.size 0 (timC n T d) ∧ W.cell? ⟨w.heap.size, 37 + k, none⟩ = some (.int .i64 z)) => CE.out W2 (h.1.out.trans (hb2.mono h.1.out.size)))
      clear hC
      refine wp_region_held_drew (S := fun W => Hid (Below wr.heap.size wr W) ∧ W.rangeAt w.heap.size 0 (timC n T d) ∧ W.cell? ⟨w.heap.size, 37 + k, none⟩ = some (.int .i64 z)) (by kernel_rfl) INIT.out (fun hHeld => ?_)
      refine wpAnyH_take (i := 0) (v := ?_) rfl (by kernel_rfl) (by kernel_rfl) (by kernel_rfl) (fun _ _ _ h => h) (Or.inl ⟨by rfl, ?_⟩) (by assumption) ?_
      rotate_left
      · (intro W hSw; (try dsimp only at hSw); go_simp <;> with_reducible rfl)
      (try simp only [Act.put])
      refine wpAnyH_take (i := 1) (v := .agg ⟨timC n T d⟩) rfl (by kernel_rfl) (by kernel_rfl) (by kernel_rfl) (fun _ _ _ h => h) (yieldsIf_load_mid (by rfl) 59 _ rfl _ _ rfl (timC n T d) _ (fun W h => h.2.1) Tryz.underlying59 rfl (timC_info n T d)) (by assumption) ?_
      (try simp only [Act.put])
      refine wpAnyH_take (i := 2) (v := ?_) rfl (by kernel_rfl) (by kernel_rfl) (by kernel_rfl) (fun _ _ _ h => h) (Or.inl ⟨by rfl, ?_⟩) (by assumption) ?_
      rotate_left
      · (intro W hSw; (try dsimp only at hSw); go_simp <;> with_reducible rfl)
      (try simp only [Act.put])
      refine wpAnyH_take (i := 4) (v := ?_) rfl (by kernel_rfl) (by kernel_rfl) (by kernel_rfl) (fun _ _ _ h => h) (Or.inl ⟨by rfl, ?_⟩) (by assumption) ?_
      rotate_left
      · (intro W hSw; (try dsimp only at hSw); go_simp <;> with_reducible rfl)
      (try simp only [Act.put])
      refine wpAnyH_take (i := 5) (v := ?_) rfl (by kernel_rfl) (by kernel_rfl) (by kernel_rfl) (fun _ _ _ h => h) (Or.inl ⟨by rfl, ?_⟩) (by assumption) ?_
      rotate_left
      · (intro W hSw; (try dsimp only at hSw); go_simp <;> with_reducible rfl)
      (try simp only [Act.put])
      refine wpAnyH_take (i := 6) (v := ?_) rfl (by kernel_rfl) (by kernel_rfl) (by kernel_rfl) (fun _ _ _ h => h) (Or.inl ⟨by rfl, ?_⟩) (by assumption) ?_
      rotate_left
      · (intro W hSw; (try dsimp only at hSw); go_simp <;> with_reducible rfl)
      (try simp only [Act.put])
      refine wpAnyH_take (i := 7) (v := ?_) rfl (by kernel_rfl) (by kernel_rfl) (by kernel_rfl) (fun _ _ _ h => h) (Or.inl ⟨by rfl, ?_⟩) (by assumption) ?_
      rotate_left
      · (intro W hSw; (try dsimp only at hSw); go_simp <;> with_reducible rfl)
      (try simp only [Act.put])
      refine wpAnyH_ready (rs := [3]) (by kernel_rfl) (by simp) ?_
      refine AllReadyH.cons rfl (fun K hK => ?_) AllReadyH.nil
      go_simp
      go_at_call 55
      refine (earliest_any n T d k _ hn hlt).mono ?_
      rintro e w5 ⟨rfl, b5⟩
      (first | done | go_wp2_with fail)
      refine hK.out _ _ (KEEP.out _ _ b5 hHeld) (fun hHeld => ?_)
      clear hK K
      have S5 := Lib.hid (S1.out.go ((Below.refl _ _).drew.trans (b5.mono (by simp))))
      clear S1 b5 CE INIT KEEP BR
      generalize earlyT T n k = y at NX ⊢
      refine wpAnyH_take (i := 8) (v := ?_) rfl (by kernel_rfl) (by kernel_rfl) (by kernel_rfl) (fun _ _ _ h => h) (Or.inl ⟨by rfl, ?_⟩) (by assumption) ?_
      rotate_left
      · (intro W hSw; (try dsimp only at hSw); go_simp <;> with_reducible rfl)
      (try simp only [Act.put])
      refine wpAnyH_take (i := 9) (v := ?_) rfl (by kernel_rfl) (by kernel_rfl) (by kernel_rfl) (fun _ _ _ h => h) (Or.inl ⟨by rfl, ?_⟩) (by assumption) ?_
      rotate_left
      · (intro W hSw; (try dsimp only at hSw); go_simp <;> with_reducible rfl)
      (try simp only [Act.put])
      refine wpAnyH_take (i := 10) (v := ?_) rfl (by kernel_rfl) (by kernel_rfl) (by kernel_rfl) (fun _ _ _ h => h) (Or.inl ⟨by rfl, ?_⟩) (by assumption) ?_
      rotate_left
      · (intro W hSw; (try dsimp only at hSw); go_simp <;> with_reducible rfl)
      (try simp only [Act.put])
      refine wpAnyH_done (by kernel_rfl) ?_ _
      go_wp2
      go_roundw
      case rel => exact ⟨k + 1, by omega, by go_num, by rw [NX.out] <;> rfl, S5.out⟩
      case measure => simp [intOf]; omega
    · have hge : ¬ (k : Int) < (n : Int) := by omega
      obtain rfl : k = n := by omega
      go_wp2
      go_ret
      exact ⟨rfl, S1.out.1⟩

end Go.Proofs.YtoggakfkpeloiaaGreat
end

section
namespace Go.Proofs.YtoggakfkpeloiaaGreat
open Go.RowKit
set_option linter.unusedVariables false

/-- A function value that gives F at each index below n, from W on. -/
def GivesT (fv : FuncId) (fs : Array Value) (W : World) (n : Nat) (F : Nat → Int) : Prop :=
  ∀ a w, a < n → Below W.heap.size W w → Calls Tryz.prog fv (fs.push (.int .i64 (a : Int))) w fun e w' => e = .returned (.int .i64 (F a)) ∧ Below w.heap.size w w'
def intF (F : Nat → Int) (i : Nat) : Value := .int .i64 (F i)
theorem intF_all (F : Nat → Int) (n : Nat) : (List.range n).map (intF F) = ((List.range n).map F).map (.int .i64) := by simp [intF]
theorem tab_own {w : World} {B n : Nat} {F : Nat → Int} {v : Value} {G : List Nat} (h : (flat 3 (((List.range n).map F).map (.int .i64))).own w B v G) : (trI ((List.range n).map F)).own w B v G := h

set_option maxRecDepth 100000 in
set_option maxHeartbeats 8000000 in
theorem forAll_any (n : Nat) (T : Tb) (d : Nat → Int) (fv : FuncId) (fs : Array Value) (F : Nat → Int) (w : World) (hn : n ≤ 6)
    (ev : ∀ args w, (callFunc fv args).run Tryz.prog w = .ok (.enter fv args) w) (hg : GivesT fv fs w n F) :
    Calls Tryz.prog 54 #[.agg ⟨timC n T d⟩, .func (.func fv) fs #[]] w fun e w' => ∃ u G, e = .returned u ∧ (trI ((List.range n).map F)).own w' w.heap.size u G ∧ G.Nodup ∧ Below w.heap.size w w' := by
  have S0 := Lib.hid ((Sn.start w).box 59 (timC n T d))
  have hC := timC_len n T d
  have hn0 := (S0.out.bk 0 rfl).tim.1
  have HG := Lib.hid hg
  clear hg
  obtain ⟨i0, hi, hz0, hz1, hz2⟩ := info_parts infoInt
  go_enter Tryz.func54, Tryz.ntmps54
  go_wp2_with (at_make; refine wpList_make_full _ rfl _ _ 25 rfl (World.alloc w (.cells ⟨timC n T d⟩ 59)).heap.size 3 i0 (.int .i64 0) 1 Tryz.underlying25 hi hz0 hz1 .i64 .i64 _ _ n rfl rfl rfl rfl (by rw [hz2]; omega) (by unfold maxLen; omega) (Nat.le_refl _) ?_; intro w1 hown1 hgrow1; have hml := own_len hown1; have S1 := Lib.hid (S0.out.newI hown1 ((Below.refl _ _).grown hgrow1 (Nat.le_refl _) (by simp))); clear hn0 hC hown1 hgrow1)
  generalize hms : (madeCells (Value.int .i64 0).cells (n * 1)).toList = ms at S1 hml
  have HM := Lib.hid hml
  clear hml hms S0
  simp only [World.size_alloc] at S1
  go_loopw [12] (fun i wr => ∃ k : Nat, k ≤ n ∧ i = .int .i64 k ∧ Sn w wr [⟨flat 3 (mix (intF F) ms k), .slice (some ⟨w.heap.size + 1, 0, none⟩) n n, [w.heap.size + 1]⟩, boxI w.heap.size 59 (timC n T d)]) (fun i _ => n - (intOf i).toNat)
  case atStart => exact ⟨0, Nat.zero_le _, rfl, by rw [mix_zero]; exact S1.out⟩
  case round =>
    obtain ⟨k, hkl, rfl, hS⟩ := hrel
    have S2 := Lib.hid hS
    clear hS S1
    by_cases hlt : k < n
    · have hlt' : (k : Int) < (n : Int) := by omega
      have hml := HM.out
      have HML := Lib.hid (show (mix (intF F) ms k).length = n by rw [mix_len _ _ (by omega), hml])
      have HML0 := Lib.hid hml
      have HGK := Lib.hid (HG.out k)
      clear hml
      go_wp2_with fail
      refine (HGK.out wr hlt S2.out.1).mono ?_
      rintro e w6 ⟨rfl, b6⟩
      have S6 := Lib.hid (S2.out.go b6)
      clear S2 b6
      have OW := S6.out.ownI 0 rfl
      rw [HML.out] at OW
      have hcl := OW.cellAt k (by omega)
      rw [List.getElem?_eq_getElem (by rw [HML.out]; exact hlt)] at hcl
      have hfz := OW.frozenAt k
      have OW6 := Lib.hid OW
      generalize (mix (intF F) ms k)[k]'_ = z at hcl
      clear OW
      obtain ⟨hs1, hs2⟩ := OW6.out.stored k (intF F k)
      rw [mix_set _ _ (by have := HML0.out; omega)] at hs1
      have S7 := Lib.hid (S6.out.markI 0 rfl hs1 hs2)
      clear hs1 hs2 S6 OW6
      change Hid (Sn w (World.setCell w6 _ (.int .i64 (F k))) _) at S7
      go_wp2
      go_roundw
      case rel => exact ⟨k + 1, by omega, by go_num, S7.out⟩
      case measure => simp [intOf]; omega
    · have hge : ¬ (k : Int) < (n : Int) := by omega
      obtain rfl : k = n := by omega
      rw [mix_full _ _ HM.out, intF_all] at S2
      go_wp2
      go_ret
      first
        | exact ⟨_, rfl, _, tab_own (S2.out.own 0 rfl).1, (S2.out.own 0 rfl).2, S2.out.1⟩
        | exact ⟨_, _, rfl, tab_own (S2.out.own 0 rfl).1, (S2.out.own 0 rfl).2, S2.out.1⟩
        | exact ⟨_, tab_own (S2.out.own 0 rfl).1, (S2.out.own 0 rfl).2, S2.out.1⟩
end Go.Proofs.YtoggakfkpeloiaaGreat
end

section
namespace Go.Proofs.YtoggakfkpeloiaaGreat
open Go.RowKit
set_option linter.unusedVariables false

section
variable {P : Program} {md : Region.Mode} {ops : Array Oper} {Q : Exit → Act → World → Prop} {S : World → Prop} {z : Nat}
/-- S is asked only where z has not come up. -/
def wpAnyZ (P : Program) (md : Region.Mode) (ops : Array Oper) (Q : Exit → Act → World → Prop) (S : World → Prop) (z : Nat) : Nat → Array Bool → Act → World → Prop
  | 0, l, a, w => Region.ready md ops l = [] ∧ Q .normal a w
  | f + 1, l, a, w => (Region.ready md ops l = [] → Q .normal a w) ∧ ∀ i ∈ Region.ready md ops l,
      wpOp P ops Q i (fun b u => ((l.setIfInBounds i true).getD z true = false → S u) ∧ wpAnyZ P md ops Q S z f (l.setIfInBounds i true) b u) a w
theorem wpAnyZ_any : ∀ (f : Nat) (l : Array Bool) (a : Act) (w : World), wpAnyZ P md ops Q S z f l a w → wpAny P md ops Q f l a w
  | 0, _, _, _, h => h
  | f + 1, _, _, _, h => ⟨h.1, fun i hi => wpOp_mono (fun b u hb => wpAnyZ_any f _ b u hb.2) (h.2 i hi)⟩
/-- z waits for i. -/
def waitsB (md : Region.Mode) (ops : Array Oper) (z i : Nat) : Bool := match ops[z]? with | some o => o.after.any (fun e => Region.binds md e && e.on == i) | none => false
theorem waits_ne {i : Nat} {l : Array Bool} (h : waitsB md ops z i = true) (hi : l.getD i true = false) : z ∉ Region.ready md ops l := fun hz => by
  obtain ⟨_, o, ho, hall⟩ := mem_ready.1 hz
  rw [waitsB, ho] at h
  obtain ⟨e, he, hb⟩ := Array.any_eq_true'.1 h
  rw [Bool.and_eq_true, beq_iff_eq] at hb
  have h1 := hall e he hb.1
  rw [hb.2] at h1
  simp only [Array.getD_eq_getD_getElem?] at hi h1
  cases hc : l[i]? <;> rw [hc] at hi h1 <;> simp at hi h1
  rw [hi] at h1
  cases h1
theorem wpAnyZ_first {i : Nat} {o : Oper} {v : Value} (hi : ops[i]? = some o) (hs : Region.noSelect ops = true) (hw : waitsB md ops z i = true) (hQ : ∀ c a w, Q (.panic c) (a.put o.dst v) w → Q (.panic c) a w) :
    ∀ (f : Nat) (l : Array Bool) (a : Act) (w : World), (∀ j oj, ops[j]? = some oj → j ≠ i → l.getD j true = false → (∀ e ∈ oj.after, Region.binds md e = true → e.on ≠ i) → o.apart ops oj = true) →
      i ∈ Region.ready md ops l → l.getD z true = false → z ≠ i → YieldsIf P ops S o v a → S w → wpAnyZ P md ops Q S z f (l.setIfInBounds i true) (a.put o.dst v) w → wpAnyZ P md ops Q S z (f + 1) l a w
  | f, l, a, w, hfree, hr, hz, hzi, hy, hS, H => by
    refine ⟨fun h0 => absurd (h0 ▸ hr) (by simp), fun j hj => ?_⟩
    have hi0 := (mem_ready.1 hr).1
    by_cases hji : j = i
    · subst hji
      exact hy.wpOp hi hS ⟨fun _ => hS, H⟩
    · have hjz : z ≠ j := fun e => waits_ne hw hi0 (e ▸ hj)
      match f, H with
      | 0, H => exact absurd (H.1 ▸ ready_mono hj hji) (by simp)
      | f + 1, H =>
        obtain ⟨hun, oj, hoj, hall⟩ := mem_ready.1 hj
        have hnot : ∀ e ∈ oj.after, Region.binds md e = true → e.on ≠ i := fun e he hb heq => by
          have h1 := hall e he hb
          rw [heq] at h1
          simp only [Array.getD_eq_getD_getElem?] at hi0 h1
          cases hc : l[i]? <;> rw [hc] at hi0 h1 <;> simp at hi0 h1
          rw [hi0] at h1
          cases h1
        have h2 := wpOp_putIf hoj (hfree j oj hoj hji hun hnot) (fun cs b => Region.noSelect_spec hs i o cs b hi) (fun cs b => Region.noSelect_spec hs j oj cs b hoj) hQ hy (H.2 j (ready_mono hj hji))
        have hri : i ∈ Region.ready md ops (l.setIfInBounds j true) := ready_mono hr (Ne.symm hji)
        have hz2 : (l.setIfInBounds j true).getD z true = false := by rw [getD_set_ne true (Ne.symm hjz)]; exact hz
        have hz3 : ((l.setIfInBounds i true).setIfInBounds j true).getD z true = false := by rw [getD_set_ne true (Ne.symm hjz), getD_set_ne true (Ne.symm hzi)]; exact hz
        refine wpOp_mono (fun b u hb => ⟨fun _ => hb.2.1 hz3, ?_⟩) h2
        refine wpAnyZ_first hi hs hw hQ f _ b u (fun k ok hok hki hku hno => hfree k ok hok hki ?_ hno) hri hz2 hzi hb.1 (hb.2.1 hz3) ?_
        · by_cases hjk : j = k
          · subst hjk; exact hun
          · rw [getD_set_ne true hjk] at hku; exact hku
        · rw [Array.setIfInBounds_comm _ _ hji]
          exact hb.2.2
/-- Number i taken first. -/
theorem wpAnyZ_take {i : Nat} {o : Oper} {v : Value} {f : Nat} {l : Array Bool} {a : Act} {w : World} (hi : ops[i]? = some o) (hs : Region.noSelect ops = true) (hf : Region.free md ops l i = true)
    (hr : ((Region.ready md ops l).contains i && (waitsB md ops z i && (!(l.getD z true) && !(z == i)))) = true) (hQ : ∀ c a w, Q (.panic c) (a.put o.dst v) w → Q (.panic c) a w) (hy : YieldsIf P ops S o v a) (hS : S w)
    (h : wpAnyZ P md ops Q S z f (l.setIfInBounds i true) (a.put o.dst v) w) : wpAnyZ P md ops Q S z (f + 1) l a w := by
  simp only [Bool.and_eq_true, Bool.not_eq_true', beq_eq_false_iff_ne] at hr
  exact wpAnyZ_first hi hs hr.2.1 hQ f l a w (Region.free_spec hi hf) (by simpa using hr.1) hr.2.2.1 hr.2.2.2 hy hS h
/-- One operation alone may come up, and S is to be shown behind it. -/
theorem wpAnyZ_one {i : Nat} {o : Oper} {f : Nat} {l : Array Bool} {a : Act} {w : World} (hr : Region.ready md ops l = [i]) (ho : ops[i]? = some o)
    (h : ∀ K : Act → World → Prop, Shut (∀ a w, S w → (S w → wpAnyZ P md ops Q S z f (l.setIfInBounds i true) a w) → K a w) → if Region.wanted o (yielded ops a.tmps) = true then Oper.wp P o a w K Q else K (a.put o.dst undef) w) :
    wpAnyZ P md ops Q S z (f + 1) l a w := by
  refine ⟨fun h0 => absurd (hr.symm.trans h0) (by simp), fun j hj => ?_⟩
  rw [hr, List.mem_singleton] at hj
  subst hj
  exact wpOp_step ho (fun K hK => h K (fun a w hS hW => hK a w ⟨fun _ => hS, hW hS⟩))
/-- The last one: it alone may come up; nothing is left behind it. -/
theorem wpAnyZ_last {o : Oper} {f : Nat} {l : Array Bool} {a : Act} {w : World} (hr : Region.ready md ops l = [z]) (hd : (Region.ready md ops (l.setIfInBounds z true) == [] && decide (z < l.size)) = true) (ho : ops[z]? = some o)
    (h : ∀ K : Act → World → Prop, Shut (∀ a w, Q .normal a w → K a w) → if Region.wanted o (yielded ops a.tmps) = true then Oper.wp P o a w K Q else K (a.put o.dst undef) w) :
    wpAnyZ P md ops Q S z (f + 1) l a w := by
  simp only [Bool.and_eq_true, beq_iff_eq, decide_eq_true_eq] at hd
  refine ⟨fun h0 => absurd (hr.symm.trans h0) (by simp), fun j hj => ?_⟩
  rw [hr, List.mem_singleton] at hj
  subst hj
  refine wpOp_step ho (fun K hK => h K (fun a w hq => hK a w ⟨fun e => absurd e (by simp [Array.getD, hd.2]), ?_⟩))
  cases f with
  | zero => exact ⟨hd.1, hq⟩
  | succ f => exact ⟨fun _ => hq, by rw [hd.1]; simp⟩
theorem wpAnyZ_start (z : Nat) {id : Nat} {a : Act} {w : World} (S : World → Prop) (hm : P.follows .mixedOrders = true) (hS : S w.drew) (h : S w.drew → wpAnyZ P .any ops Q S z ops.size (Array.replicate ops.size false) a w.drew) : (Code.region id ops true).wp P Q a w :=
  wp_region_any hm (wpAnyZ_any _ _ _ _ (h hS))
end
end Go.Proofs.YtoggakfkpeloiaaGreat
end
