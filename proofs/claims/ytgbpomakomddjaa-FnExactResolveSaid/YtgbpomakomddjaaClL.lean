/- DERIVED. Sizes of rows of literals. -/
import Derived.Test.YtgbpomakomddjaaClM
import Derived.Test.YtgbpomakomddjaaRwT
namespace Go.Proofs.Ytgbpomakomddjaa
open Go.RowKit Go.Shelf
set_option linter.unusedVariables false

theorem lt_sz (l : List Lt) : (trLts l).sz = l.length := by
  have e : (trLts l).sz = l.length + szL (l.flatMap cellsLt) := rfl
  rw [e, szL_lt]; omega
theorem lt_len {l : List Lt} {n : Nat} (h : (trLts l).sz ≤ n) : l.length ≤ n := by rw [lt_sz] at h; exact h
theorem newL_sz (l : List Lt) : (trLts (newL l)).sz ≤ (trLts l).sz := by rw [lt_sz, lt_sz]; exact len_newL l
theorem woL_sz (l : List Lt) (a : Int) : (trLts (woL l a)).sz ≤ (trLts l).sz := by rw [lt_sz, lt_sz]; exact woL_len l a
theorem resL_sz (a b : List Lt) (l : Lt) : (trLts (resL a b l)).sz ≤ (trLts a).sz + (trLts b).sz := by
  rw [lt_sz, lt_sz, lt_sz]
  refine Nat.le_trans (len_newL _) ?_
  rw [resLits, List.length_append]
  have h1 := List.length_filter_le (fun x => x != l) a
  have h2 := List.length_filter_le (fun x => x != negL l) b
  omega
end Go.Proofs.Ytgbpomakomddjaa
