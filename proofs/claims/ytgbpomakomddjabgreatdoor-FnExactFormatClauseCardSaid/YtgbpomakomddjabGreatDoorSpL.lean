/- DERIVED. Splitting at bytes, as lists. No dump. -/
import Derived.Test.YtgbpomakomddjabGreatDoorTxtMaths
namespace Go.Proofs.YtgbpomakomddjabGreatDoor
open Go.RowKit
set_option linter.unusedVariables false

def sL (P : UInt8 → Bool) : List UInt8 → List (List UInt8)
  | [] => [[]]
  | c :: l => if P c then [] :: sL P l else match sL P l with
    | [] => [[c]]
    | h :: t => (c :: h) :: t
theorem sL_ch {P : UInt8 → Bool} {c : UInt8} {l : List UInt8} (h : P c = true) : sL P (c :: l) = [] :: sL P l := by rw [sL, if_pos h]
theorem sL_cm {P : UInt8 → Bool} {c : UInt8} {l x : List UInt8} {t : List (List UInt8)} (h : P c = false) (e : sL P l = x :: t) : sL P (c :: l) = (c :: x) :: t := by rw [sL, if_neg (by rw [h]; simp), e]
theorem sL_some (P : UInt8 → Bool) (l : List UInt8) : ∃ h t, sL P l = h :: t := by
  cases l with
  | nil => exact ⟨_, _, rfl⟩
  | cons c l =>
    unfold sL
    by_cases h : P c = true
    · rw [if_pos h]; exact ⟨_, _, rfl⟩
    · rw [if_neg h]; split <;> exact ⟨_, _, rfl⟩
theorem sL_none (P : UInt8 → Bool) : ∀ l : List UInt8, (∀ c ∈ l, P c = false) → sL P l = [l]
  | [], _ => rfl
  | c :: l, h => sL_cm (h c (by simp)) (sL_none P l (fun x hx => h x (by simp [hx])))
theorem sL_app (P : UInt8 → Bool) (d : UInt8) (hd : P d = true) (y : List UInt8) : ∀ l : List UInt8, (∀ c ∈ l, P c = false) → sL P (l ++ d :: y) = l :: sL P y
  | [], _ => sL_ch hd
  | c :: l, h => sL_cm (h c (by simp)) (sL_app P d hd y l (fun x hx => h x (by simp [hx])))
theorem sL_hit (P : UInt8 → Bool) (c : UInt8) (hc : P c = true) : ∀ l : List UInt8, sL P (l ++ [c]) = sL P l ++ [[]]
  | [] => by show sL P [c] = _; simp [sL, hc]
  | d :: l => by
    show sL P (d :: (l ++ [c])) = _
    by_cases h : P d = true
    · rw [sL_ch h, sL_ch h, sL_hit P c hc l]; rfl
    · obtain ⟨x, t, e⟩ := sL_some P l
      have h : P d = false := by simpa using h
      rw [sL_cm h (by rw [sL_hit P c hc l, e]; rfl), sL_cm h e]
      rfl
theorem sL_miss (P : UInt8 → Bool) (c : UInt8) (hc : P c = false) : ∀ (l : List UInt8) (xs : List (List UInt8)) (y : List UInt8), sL P l = xs ++ [y] → sL P (l ++ [c]) = xs ++ [y ++ [c]]
  | [], xs, y, e => by
    show sL P [c] = _
    have e : [[]] = xs ++ [y] := e
    cases xs with
    | nil =>
      simp at e
      subst e
      simp [sL, hc]
    | cons x xs => simp at e
  | d :: l, xs, y, e => by
    show sL P (d :: (l ++ [c])) = _
    by_cases h : P d = true
    · rw [sL_ch h] at e ⊢
      cases xs with
      | nil => obtain ⟨x, t, e2⟩ := sL_some P l; rw [e2] at e; simp at e
      | cons x xs =>
        simp only [List.cons_append, List.cons.injEq] at e
        rw [sL_miss P c hc l xs y e.2, ← e.1]
        rfl
    · have h : P d = false := by simpa using h
      obtain ⟨x, t, e2⟩ := sL_some P l
      rw [sL_cm h e2] at e
      cases xs with
      | nil =>
        simp only [List.nil_append, List.cons.injEq] at e
        obtain ⟨e3, rfl⟩ := e
        rw [sL_cm h (sL_miss P c hc l [] x (by rw [e2]; rfl)), ← e3]
        rfl
      | cons z zs =>
        simp only [List.cons_append, List.cons.injEq] at e
        obtain ⟨e3, rfl⟩ := e
        rw [sL_cm h (sL_miss P c hc l (x :: zs) y (by rw [e2]; rfl)), ← e3]
        rfl
/-- The bytes of b. -/
def inS (b : ByteArray) (c : UInt8) : Bool := (lst b).contains c
theorem hit_inS {s b : ByteArray} {k : Nat} (hk : k < s.size) : hitB s b k = inS b s[k] := by
  unfold hitB inS
  rw [Bool.eq_iff_iff, decide_eq_true_iff, List.contains_iff_mem, List.mem_iff_getElem]
  constructor
  · rintro ⟨j, h, _, e⟩
    exact ⟨j, by rw [lst_len]; exact h, by rw [e]; rfl⟩
  · rintro ⟨j, h, e⟩
    exact ⟨j, by rw [← lst_len]; exact h, hk, by rw [← e]; rfl⟩
theorem lst_take_succ {s : ByteArray} {k : Nat} (hk : k < s.size) : (lst s).take (k + 1) = (lst s).take k ++ [s[k]] := by
  rw [List.take_add_one, List.getElem?_eq_getElem (by rw [lst_len]; exact hk)]
  rfl
theorem spl_sL (s b : ByteArray) : ∀ k, k ≤ s.size → (spl s b k).1.map lst ++ [lst (s.extract (spl s b k).2 k)] = sL (inS b) ((lst s).take k)
  | 0, _ => by
    show [lst (s.extract 0 0)] = sL (inS b) ((lst s).take 0)
    rw [lst_ext]
    simp [sL]
  | k + 1, hk => by
    have ih := spl_sL s b k (by omega)
    have hle := (spl_le s b k).1
    rw [lst_take_succ (by omega)]
    by_cases h : hitB s b k = true
    · rw [spl_hit h, sL_hit _ _ (by rw [← hit_inS (by omega)]; exact h), ← ih, lst_ext]
      simp only [List.map_append, List.map_cons, List.map_nil]
      congr 2
      rw [List.drop_eq_nil_of_le (by rw [List.length_take]; omega)]
    · have h : hitB s b k = false := by simpa using h
      rw [spl_miss h, ext_succ (by omega) hle, lst_app]
      exact (sL_miss _ _ (by rw [← hit_inS (by omega)]; exact h) _ _ _ ih.symm).symm
theorem split_sL (s b : ByteArray) : (splitB s b).map lst = sL (inS b) (lst s) := by
  have h := spl_sL s b s.size (Nat.le_refl _)
  rw [List.take_of_length_le (by rw [lst_len]; exact Nat.le_refl _)] at h
  rw [← h, splitB, List.map_append]
  rfl
theorem map_lst_inj : ∀ (xs ys : List ByteArray), xs.map lst = ys.map lst → xs = ys
  | [], [], _ => rfl
  | [], _ :: _, h => by simp at h
  | _ :: _, [], h => by simp at h
  | x :: xs, y :: ys, h => by
    simp only [List.map_cons, List.cons.injEq] at h
    rw [lst_inj h.1, map_lst_inj xs ys h.2]
theorem split_eq {s b : ByteArray} {xs : List ByteArray} (h : sL (inS b) (lst s) = xs.map lst) : splitB s b = xs := map_lst_inj _ _ ((split_sL s b).trans h)
theorem inS_no {b : ByteArray} {c : UInt8} (h : c ∉ lst b) : inS b c = false := by
  unfold inS
  rw [← Bool.not_eq_true, List.contains_iff_mem]
  exact h
theorem inS_yes {b : ByteArray} {c : UInt8} (h : c ∈ lst b) : inS b c = true := by
  unfold inS
  rw [List.contains_iff_mem]
  exact h
/-- Every byte of s satisfies Q. -/
def allB (Q : UInt8 → Prop) (s : ByteArray) : Prop := ∀ c ∈ lst s, Q c
theorem allB_byt {Q : UInt8 → Prop} {s : ByteArray} (h : ∀ k, (hk : k < s.size) → Q s[k]) : allB Q s := fun c hc => by
  obtain ⟨k, hk, e⟩ := List.mem_iff_getElem.1 hc
  rw [← e]
  exact h k (by rw [← lst_len]; exact hk)
theorem allB_app {Q : UInt8 → Prop} {x y : ByteArray} (hx : allB Q x) (hy : allB Q y) : allB Q (x ++ y) := fun c hc => by
  rw [lst_app, List.mem_append] at hc
  exact hc.elim (hx c) (hy c)
theorem allB.weak {Q R : UInt8 → Prop} {s : ByteArray} (h : allB Q s) (hw : ∀ c, Q c → R c) : allB R s := fun c hc => hw c (h c hc)
theorem allB_ne {Q : UInt8 → Prop} {s : ByteArray} {d : UInt8} (h : allB Q s) (hd : ¬ Q d) (h0 : d.toNat ≠ 0) : ∀ k, byt s k ≠ d.toNat := fun k e => by
  by_cases hk : k < s.size
  · rw [byt_at hk] at e
    have e2 : s[k] = d := UInt8.toNat_inj.1 e
    apply hd
    rw [← e2]
    exact h _ (List.mem_iff_getElem.2 ⟨k, by rw [lst_len]; exact hk, rfl⟩)
  · rw [byt_out (by omega)] at e
    exact h0 e.symm
/-- A name's bytes; a number's. -/
def nameC (c : UInt8) : Prop := (48 ≤ c.toNat ∧ c.toNat ≤ 57) ∨ (97 ≤ c.toNat ∧ c.toNat ≤ 122)
def numC (c : UInt8) : Prop := c.toNat = 45 ∨ (48 ≤ c.toNat ∧ c.toNat ≤ 57)
theorem fmt_num {n : Int} (h1 : -100000 ≤ n) (h2 : n ≤ 100000) : allB numC (fmtB n) := allB_byt fun k hk => by
  have h := (fmt_digits h1 h2).1 k hk
  rcases h with ⟨rfl, h⟩ | h
  · left
    simp only [negS, decide_eq_true_eq] at h
    rw [byt_at hk] at h
    exact h
  · right
    rw [byt_at hk] at h
    exact h
end Go.Proofs.YtgbpomakomddjabGreatDoor
