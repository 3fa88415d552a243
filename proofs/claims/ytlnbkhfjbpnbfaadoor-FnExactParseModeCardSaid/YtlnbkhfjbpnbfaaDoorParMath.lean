/- DERIVED. PLAIN LEMMAS: what ParseInt answers. -/
import Derived.Test.YtlnbkhfjbpnbfaaDoorFmtMath
import Derived.Test.YtlnbkhfjbpnbfaaDoorMath
import Derived.Lib.Strings
namespace Go.Proofs.YtlnbkhfjbpnbfaaDoor
open Go.RowKit

def byt (s : ByteArray) (k : Nat) : Nat := if h : k < s.size then s[k].toNat else 0
theorem byt_at {s : ByteArray} {k : Nat} (h : k < s.size) : byt s k = s[k].toNat := by unfold byt; rw [dif_pos h]
def negS (s : ByteArray) : Bool := decide (byt s 0 = 45)
/-- The value of the digits up to place k, a sign at place 0 left out. -/
def dv (s : ByteArray) : Nat → Nat
  | 0 => 0
  | k + 1 => if k = 0 ∧ negS s = true then 0 else dv s k * 10 + (byt s k - 48)
def dOk (s : ByteArray) (k : Nat) : Prop := (k = 0 ∧ negS s = true) ∨ (48 ≤ byt s k ∧ byt s k ≤ 57)
instance (s : ByteArray) (k : Nat) : Decidable (dOk s k) := by unfold dOk; infer_instance
def valS (s : ByteArray) : Int := if negS s = true then -(dv s s.size : Int) else (dv s s.size : Int)
def parseB (s : ByteArray) : Int × Bool := if (∀ k, k < s.size → dOk s k) ∧ 0 < s.size ∧ fmtB (valS s) = s then (valS s, true) else (0, false)

theorem par_bad {s : ByteArray} {k : Nat} (h : k < s.size) (hb : ¬ dOk s k) : parseB s = (0, false) := by
  unfold parseB; rw [if_neg]; rintro ⟨h1, _⟩; exact hb (h1 k h)
theorem par_ne {s : ByteArray} (h : fmtB (valS s) ≠ s) : parseB s = (0, false) := by
  unfold parseB; rw [if_neg]; rintro ⟨_, _, h3⟩; exact h h3
theorem par_long {s : ByteArray} (h : 8 < s.size) : parseB s = (0, false) := par_ne (fun e => by
  have := fmtB_size (valS s); rw [e] at this; omega)
theorem par_none {s : ByteArray} (h : s.size = 0) : parseB s = (0, false) := by
  unfold parseB; rw [if_neg]; rintro ⟨_, h2, _⟩; omega
theorem par_yes {s : ByteArray} (h : ∀ k, k < s.size → dOk s k) (h0 : 0 < s.size) (he : fmtB (valS s) = s) : parseB s = (valS s, true) := by
  unfold parseB; rw [if_pos ⟨h, h0, he⟩]
theorem dv_step {s : ByteArray} {k : Nat} (h : ¬ (k = 0 ∧ negS s = true)) : dv s (k + 1) = dv s k * 10 + (byt s k - 48) := by rw [dv, if_neg h]
theorem dv_sign {s : ByteArray} (h : negS s = true) : dv s 1 = 0 := by rw [dv, if_pos ⟨rfl, h⟩]
theorem dv_grow {s : ByteArray} {k : Nat} (hk : 0 < k) : ∀ d, dv s k ≤ dv s (k + d)
  | 0 => Nat.le_refl _
  | d + 1 => by
    have ih := dv_grow (s := s) hk d
    rw [← Nat.add_assoc, dv_step (by omega)]; omega
theorem par_big {s : ByteArray} {k : Nat} (h : k ≤ s.size) (hb : 100000 < dv s k) : parseB s = (0, false) := by
  have hk : 0 < k := by
    rcases Nat.eq_zero_or_pos k with rfl | hk
    · simp [dv] at hb
    · exact hk
  have hg := dv_grow (s := s) hk (s.size - k)
  rw [show k + (s.size - k) = s.size by omega] at hg
  refine par_ne (fun e => ?_)
  have : fmtB (valS s) = ⟨#[]⟩ := fmtB_out (by unfold valS; split <;> omega)
  rw [this] at e
  have h0 : s.size = 0 := by rw [← e]; rfl
  omega
theorem dv_lt {s : ByteArray} : ∀ k, (∀ j, j < k → dOk s j) → dv s k < 10 ^ k
  | 0, _ => by simp [dv]
  | k + 1, h => by
    have ih := dv_lt k (fun j hj => h j (by omega))
    by_cases hs : k = 0 ∧ negS s = true
    · rw [dv, if_pos hs]; exact Nat.pos_of_ne_zero (by simp)
    · rw [dv_step hs, Nat.pow_succ]
      rcases h k (by omega) with h' | h'
      · exact absurd h' hs
      · omega
theorem dv_le7 {s : ByteArray} {k : Nat} (h : ∀ j, j < k → dOk s j) (hk : k ≤ 7) : dv s k ≤ 9999999 := by
  have h1 := dv_lt k h
  have h2 : 10 ^ k ≤ 10 ^ 7 := Nat.pow_le_pow_right (by decide) hk
  omega
theorem dv_le8 {s : ByteArray} {k : Nat} (h : ∀ j, j < k → dOk s j) (hk : k ≤ 8) : dv s k ≤ 99999999 := by
  have h1 := dv_lt k h
  have h2 : 10 ^ k ≤ 10 ^ 8 := Nat.pow_le_pow_right (by decide) hk
  omega
theorem negS_prefix (s : ByteArray) : Lib.hasPrefix s.data.toList [45] = negS s := by
  unfold Lib.hasPrefix negS byt
  by_cases h : 0 < s.size
  · rw [dif_pos h]
    have hl : 0 < s.data.toList.length := by simpa using h
    have e : s[0] = s.data.toList[0] := rfl
    obtain ⟨c, r, hc⟩ : ∃ c r, s.data.toList = c :: r := List.exists_cons_of_ne_nil (List.ne_nil_of_length_pos hl)
    have e2 : s[0] = c := by rw [e]; simp [hc]
    rw [hc, e2]
    rw [Bool.eq_iff_iff]
    simp [List.isPrefixOf]
    constructor
    · intro h; rw [← h]; rfl
    · intro h; exact (UInt8.toNat_inj.1 (by rw [h]; rfl))
  · rw [dif_neg h]
    have hl : s.data.toList = [] := List.eq_nil_of_length_eq_zero (by have : s.data.toList.length = s.size := by simp
                                                                      omega)
    rw [hl]; decide
end Go.Proofs.YtlnbkhfjbpnbfaaDoor
