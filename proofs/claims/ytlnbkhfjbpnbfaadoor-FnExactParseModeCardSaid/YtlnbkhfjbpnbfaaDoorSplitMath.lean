/- DERIVED. PLAIN LEMMAS: splitting at bytes, by index. -/
import Derived.WalkKit
import Derived.Lib.Bytealg
import Derived.Lib.IndexLaws
namespace Go.Proofs.YtlnbkhfjbpnbfaaDoor
open Go.RowKit

def hitB (s b : ByteArray) (k : Nat) : Bool := decide (∃ j, ∃ h : j < b.size, ∃ h' : k < s.size, s[k] = b[j])
/-- After k bytes of s: the parts that are finished, and where the next one begins. -/
def spl (s b : ByteArray) : Nat → List ByteArray × Nat
  | 0 => ([], 0)
  | k + 1 => if hitB s b k then ((spl s b k).1 ++ [s.extract (spl s b k).2 k], k + 1) else spl s b k
/-- What SplitAny answers. -/
def splitB (s b : ByteArray) : List ByteArray := (spl s b s.size).1 ++ [s.extract (spl s b s.size).2 s.size]

theorem spl_le (s b : ByteArray) : ∀ k, (spl s b k).2 ≤ k ∧ (spl s b k).1.length ≤ k
  | 0 => by simp [spl]
  | k + 1 => by
    have := spl_le s b k
    unfold spl
    split
    · simp; omega
    · omega
theorem spl_hit {s b : ByteArray} {k : Nat} (h : hitB s b k = true) : spl s b (k + 1) = ((spl s b k).1 ++ [s.extract (spl s b k).2 k], k + 1) := by rw [spl, if_pos h]
theorem spl_miss {s b : ByteArray} {k : Nat} (h : hitB s b k = false) : spl s b (k + 1) = spl s b k := by rw [spl, if_neg (by simp [h])]
theorem hitB_mk {s b : ByteArray} {k j : Nat} (hk : k < s.size) (hj : j < b.size) (e : s[k] = b[j]) : hitB s b k = true := by
  unfold hitB; exact decide_eq_true ⟨j, hj, hk, e⟩
theorem hitB_no {s b : ByteArray} {k : Nat} (h : ∀ j, (hj : j < b.size) → (hk : k < s.size) → s[k] ≠ b[j]) : hitB s b k = false := by
  unfold hitB; rw [decide_eq_false_iff_not]; rintro ⟨j, hj, hk, e⟩; exact h j hj hk e
theorem splitB_len (s b : ByteArray) : 1 ≤ (splitB s b).length ∧ (splitB s b).length ≤ s.size + 1 := by
  have := (spl_le s b s.size).2
  unfold splitB; simp; omega

theorem hit_index {s b : ByteArray} {k : Nat} (hk : k < s.size) : hitB s b k = decide (0 ≤ Lib.indexByte b.data.toList s[k]) := by
  have hge := Lib.indexByte_ge b.data.toList s[k]
  by_cases h : 0 ≤ Lib.indexByte b.data.toList s[k]
  · obtain ⟨o, ho⟩ := Int.eq_ofNat_of_zero_le h
    have h1 := (Lib.indexByte_some ho).1
    obtain ⟨hlt, e⟩ := List.getElem?_eq_some_iff.1 h1
    have hlt' : o < b.size := by simpa using hlt
    rw [decide_eq_true h, hitB_mk hk hlt' (by rw [← e]; rfl)]
  · have h1 := Lib.indexByte_none (l := b.data.toList) (c := s[k]) (by omega)
    rw [decide_eq_false h, hitB_no]
    intro j hj _ e
    refine h1 j ?_
    rw [List.getElem?_eq_getElem (by simpa using hj), e]; rfl
end Go.Proofs.YtlnbkhfjbpnbfaaDoor
