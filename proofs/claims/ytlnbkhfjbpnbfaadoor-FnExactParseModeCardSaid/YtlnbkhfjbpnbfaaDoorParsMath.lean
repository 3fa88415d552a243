/- DERIVED. PLAIN LEMMAS: what ParseInts answers. -/
import Derived.Test.YtlnbkhfjbpnbfaaDoorParMath
import Derived.Test.YtlnbkhfjbpnbfaaDoorSplitMath
namespace Go.Proofs.YtlnbkhfjbpnbfaaDoor
open Go.RowKit

def partsB (s : ByteArray) : List ByteArray := splitB s ⟨#[44]⟩
def parN (p : ByteArray) : Int := (parseB p).1
def parsesB (s : ByteArray) : List Int × Bool :=
  if s = ⟨#[45]⟩ then ([], true) else if (∀ p, p ∈ partsB s → (parseB p).2 = true) then ((partsB s).map parN, true) else ([], false)
theorem pars_dash : parsesB ⟨#[45]⟩ = ([], true) := by unfold parsesB; rw [if_pos rfl]
theorem pars_bad {s : ByteArray} {k : Nat} (hs : s ≠ ⟨#[45]⟩) (h : k < (partsB s).length) (hb : (parseB (partsB s)[k]).2 = false) : parsesB s = ([], false) := by
  unfold parsesB; rw [if_neg hs, if_neg]
  intro h'; rw [h' _ (List.getElem_mem h)] at hb; cases hb
theorem pars_ok {s : ByteArray} (hs : s ≠ ⟨#[45]⟩) (h : ∀ j, (hj : j < (partsB s).length) → (parseB (partsB s)[j]).2 = true) : parsesB s = ((partsB s).map parN, true) := by
  unfold parsesB; rw [if_neg hs, if_pos]
  intro p hp
  obtain ⟨j, hj, rfl⟩ := List.getElem_of_mem hp
  exact h j hj
theorem spl_sizes (s b : ByteArray) : ∀ k, ∀ p ∈ (spl s b k).1, p.size ≤ s.size
  | 0 => by simp [spl]
  | k + 1 => by
    have ih := spl_sizes s b k
    unfold spl
    split
    · intro p hp
      simp only [List.mem_append, List.mem_singleton] at hp
      rcases hp with hp | rfl
      · exact ih p hp
      · rw [ByteArray.size_extract]; omega
    · exact ih
theorem parts_size (s : ByteArray) : ∀ p ∈ partsB s, p.size ≤ s.size := by
  intro p hp
  unfold partsB splitB at hp
  simp only [List.mem_append, List.mem_singleton] at hp
  rcases hp with hp | rfl
  · exact spl_sizes s _ _ p hp
  · rw [ByteArray.size_extract]; omega
theorem pars_len (s : ByteArray) : (parsesB s).1.length ≤ s.size + 1 := by
  have := (splitB_len s ⟨#[44]⟩).2
  unfold parsesB partsB
  split
  · simp
  · split
    · simpa using this
    · simp
end Go.Proofs.YtlnbkhfjbpnbfaaDoor
