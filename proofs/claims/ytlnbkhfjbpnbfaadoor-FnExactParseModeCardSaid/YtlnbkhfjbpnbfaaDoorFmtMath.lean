/- DERIVED. PLAIN LEMMAS: decimal numbers from -100000 to 100000 as text. -/
import Derived.WalkKit
import Derived.Lib.ItoaNum
import Derived.Laws.BytesArg
namespace Go.Proofs.YtlnbkhfjbpnbfaaDoor
open Go.RowKit

def dc (k : Nat) : ByteArray := ⟨(Lib.decDigits k).toArray⟩
/-- What FormatInt answers. -/
def fmtB (n : Int) : ByteArray := if n < -100000 ∨ 100000 < n then ⟨#[]⟩ else ⟨(Lib.itoa n).toArray⟩
theorem fmtB_out {n : Int} (h : n < -100000 ∨ 100000 < n) : fmtB n = ⟨#[]⟩ := by unfold fmtB; rw [if_pos h]
theorem fmtB_in {n : Int} (h1 : -100000 ≤ n) (h2 : n ≤ 100000) : fmtB n = ⟨(Lib.itoa n).toArray⟩ := by unfold fmtB; rw [if_neg (by omega)]
theorem fmtB_pos {k : Nat} (h : k ≤ 100000) : fmtB k = dc k := by
  rw [fmtB_in (by omega) (by omega)]; unfold Lib.itoa dc; rw [if_neg (by omega)]; simp
theorem fmtB_neg {k : Nat} (h0 : 0 < k) (h : k ≤ 100000) : fmtB (-(k : Int)) = ⟨#[45]⟩ ++ dc k := by
  rw [fmtB_in (by omega) (by omega)]; unfold Lib.itoa dc; rw [if_pos (by omega)]
  apply ByteArray.ext
  simp [ByteArray.data_append]
def dg1 (k : Int) : ByteArray := strOfNums [48 + k]
theorem dg1_size (k : Int) : (dg1 k).size = 1 := by simp [dg1, strOfNums, ByteArray.size]
theorem dg1_eq {k : Nat} : dg1 k = ⟨#[UInt8.ofNat (48 + k)]⟩ := by
  unfold dg1 strOfNums
  have : ((48 : Int) + (k : Int)).toNat = 48 + k := by omega
  simp [this]
theorem dc_small {k : Nat} (h : k ≤ 9) (acc : ByteArray) : dc k ++ acc = dg1 k ++ acc := by
  unfold dc; rw [Lib.decDigits_one (by omega), dg1_eq]
theorem dc_big {k : Nat} (h : 9 < k) (acc : ByteArray) : dc k ++ acc = dc (k / 10) ++ (dg1 ((k % 10 : Nat) : Int) ++ acc) := by
  unfold dc
  rw [Lib.decDigits, dif_neg (by omega), dg1_eq]
  apply ByteArray.ext
  simp [ByteArray.data_append]
theorem app_empty (x : ByteArray) : x ++ (⟨#[]⟩ : ByteArray) = x := by
  apply ByteArray.ext; simp [ByteArray.data_append]
theorem nDigits_le : ∀ (f k : Nat), k < 10 ^ f → Lib.nDigits k ≤ f + 1
  | 0, k, h => by rw [Lib.nDigits_small (by simpa using Nat.lt_of_lt_of_le h (by omega))]; exact Nat.le_refl _
  | f + 1, k, h => by
    by_cases hk : k < 10
    · rw [Lib.nDigits_small hk]; omega
    · rw [Lib.nDigits_big hk]
      have := nDigits_le f (k / 10) (by rw [Nat.pow_succ] at h; omega)
      omega
theorem dc_size {k : Nat} (h : k ≤ 100000) : 1 ≤ (dc k).size ∧ (dc k).size ≤ 6 := by
  have h1 : (dc k).size = Lib.nDigits k := by simp [dc, ByteArray.size, Lib.decDigits_length]
  have h2 := Lib.nDigits_pos k
  have h3 : k = 100000 ∨ k < 10 ^ 5 := by omega
  rcases h3 with rfl | h3
  · rw [h1]
    have : Lib.nDigits 100000 = 6 := Lib.nDigits_unique 5 100000 (by decide) (by decide)
    omega
  · have := nDigits_le 5 k h3
    omega
theorem fmtB_size (n : Int) : (fmtB n).size ≤ 7 := by
  by_cases h : n < -100000 ∨ 100000 < n
  · rw [fmtB_out h]; decide
  · by_cases hn : n < 0
    · obtain ⟨k, hk⟩ : ∃ k : Nat, n = -(k : Int) := ⟨(-n).toNat, by omega⟩
      subst hk
      rw [fmtB_neg (by omega) (by omega), ByteArray.size_append]
      have := (dc_size (k := k) (by omega)).2
      have h1 : (⟨#[45]⟩ : ByteArray).size = 1 := rfl
      omega
    · obtain ⟨k, hk⟩ : ∃ k : Nat, n = (k : Int) := ⟨n.toNat, by omega⟩
      subst hk
      rw [fmtB_pos (by omega)]
      have := (dc_size (k := k) (by omega)).2
      omega
theorem fmtB_some {n : Int} (h1 : -100000 ≤ n) (h2 : n ≤ 100000) : 1 ≤ (fmtB n).size := by
  by_cases hn : n < 0
  · obtain ⟨k, hk⟩ : ∃ k : Nat, n = -(k : Int) := ⟨(-n).toNat, by omega⟩
    subst hk
    rw [fmtB_neg (by omega) (by omega), ByteArray.size_append]
    have h1 : (⟨#[45]⟩ : ByteArray).size = 1 := rfl
    omega
  · obtain ⟨k, hk⟩ : ∃ k : Nat, n = (k : Int) := ⟨n.toNat, by omega⟩
    subst hk
    rw [fmtB_pos (by omega)]
    exact (dc_size (k := k) (by omega)).1
end Go.Proofs.YtlnbkhfjbpnbfaaDoor
