/- DERIVED. PLAIN MATHEMATICS of modes and activities. No dump. -/
import Derived.WalkKit
import Derived.Test.YtfgmbgdbnjpclaaStpMath
namespace Go.Proofs.Ytfgmbgdbnjpclaa
open Go.RowKit

/-- All amounts from 0 to 20, n of them. -/
def numsB (l : List Int) (n : Int) : Bool := l.all (fun x => inB x 0 20) && decide ((l.length : Int) = n)
theorem nums_no {l : List Int} {k : Nat} (hk : k < l.length) (h : inB l[k] 0 20 = false) (n : Int) : numsB l n = false := by
  unfold numsB
  rw [Bool.and_eq_false_iff]
  left
  rw [List.all_eq_false]
  exact ⟨l[k], List.getElem_mem hk, by simp [h]⟩
theorem nums_yes {l : List Int} (h : ∀ j, (hj : j < l.length) → inB l[j] 0 20 = true) (n : Int) : numsB l n = decide ((l.length : Int) = n) := by
  unfold numsB
  rw [List.all_eq_true.2 (fun x hx => by obtain ⟨j, hj, rfl⟩ := List.mem_iff_getElem.1 hx; exact h j hj), Bool.true_and]
end Go.Proofs.Ytfgmbgdbnjpclaa
