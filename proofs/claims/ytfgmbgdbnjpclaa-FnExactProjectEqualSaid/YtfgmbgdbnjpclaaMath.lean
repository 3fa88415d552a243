/- DERIVED. PLAIN LEMMAS ON BYTES, LISTS AND NUMBERS: no program, no dump. -/
import Derived.WalkKit
namespace Go.Proofs.Ytfgmbgdbnjpclaa
open Go.RowKit

/-! ### names -/
def lowB (c : Int) : Bool := decide (97 ≤ c) && decide (c ≤ 122)
def digB (c : Int) : Bool := decide (48 ≤ c) && decide (c ≤ 57)
/-- May byte c stand at place k of a name? -/
def nmAt (k : Nat) (c : Int) : Bool := lowB c || (decide (0 < k) && digB c)
def nmB (s : ByteArray) : Bool := decide (1 ≤ s.size) && (decide (s.size ≤ 8) && decide (∀ k, (h : k < s.size) → nmAt k s[k].toNat = true))

theorem nmAt_low {k : Nat} {c : Int} (h : 97 ≤ c) (h2 : c ≤ 122) : nmAt k c = true := by simp [nmAt, lowB, h, h2]
theorem nmAt_dig {k : Nat} {c : Int} (h0 : 0 < k) (h : 48 ≤ c) (h2 : c ≤ 57) : nmAt k c = true := by simp [nmAt, digB, h, h2, h0]
theorem nmAt_zero {c : Int} (h : c < 97 ∨ 122 < c) : nmAt 0 c = false := by simp [nmAt, lowB]; omega
theorem nmAt_high {k : Nat} {c : Int} (h : 122 < c) : nmAt k c = false := by simp [nmAt, lowB, digB]; omega
theorem nmAt_mid {k : Nat} {c : Int} (h : 57 < c) (h2 : c < 97) : nmAt k c = false := by simp [nmAt, lowB, digB]; omega
theorem nmAt_less {k : Nat} {c : Int} (h : c < 48) : nmAt k c = false := by simp [nmAt, lowB, digB]; omega
theorem nmB_at {s : ByteArray} {k : Nat} (h : k < s.size) (hn : nmAt k s[k].toNat = false) : nmB s = false := by
  unfold nmB
  have : ¬ ∀ k, (h : k < s.size) → nmAt k s[k].toNat = true := fun f => by rw [f k h] at hn; cases hn
  simp [this]
theorem nmB_all {s : ByteArray} (h1 : 1 ≤ s.size) (h8 : s.size ≤ 8) (h : ∀ j, (hj : j < s.size) → nmAt j s[j].toNat = true) : nmB s = true := by
  unfold nmB; simp [h1, h8]; exact h
theorem nmB_len {s : ByteArray} (h : s.size < 1 ∨ 8 < s.size) : nmB s = false := by
  unfold nmB; rcases h with h | h <;> simp <;> omega
theorem nmB_size {s : ByteArray} (h : ∀ j, (hj : j < s.size) → nmAt j s[j].toNat = true) : nmB s = (decide ((1 : Int) ≤ s.size) && decide ((s.size : Int) ≤ 8)) := by
  unfold nmB
  have e1 : decide ((1 : Int) ≤ s.size) = decide (1 ≤ s.size) := by rw [decide_eq_decide]; omega
  have e2 : decide ((s.size : Int) ≤ 8) = decide (s.size ≤ 8) := by rw [decide_eq_decide]; omega
  rw [e1, e2, decide_eq_true h]; simp
end Go.Proofs.Ytfgmbgdbnjpclaa
