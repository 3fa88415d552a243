/- DERIVED. PLAIN LEMMAS: what FormatInts answers. -/
import Derived.Test.YtlnbkhfjbpnbfaaDoorFmtMath
import Derived.Test.YtlnbkhfjbpnbfaaDoorJoin
namespace Go.Proofs.YtlnbkhfjbpnbfaaDoor
open Go.RowKit

def fmtsB (l : List Int) : ByteArray := if l = [] then ⟨#[45]⟩ else if (∃ n, n ∈ l ∧ fmtB n = ⟨#[]⟩) then ⟨#[]⟩ else joinB (l.map fmtB) ⟨#[44]⟩
theorem fmts_nil : fmtsB [] = ⟨#[45]⟩ := by unfold fmtsB; rw [if_pos rfl]
theorem fmts_bad {l : List Int} {k : Nat} (h : k < l.length) (he : fmtB l[k] = ⟨#[]⟩) : fmtsB l = ⟨#[]⟩ := by
  unfold fmtsB
  rw [if_neg (by intro e; subst e; exact absurd h (by simp)), if_pos ⟨l[k], List.getElem_mem h, he⟩]
theorem fmts_ok {l : List Int} (h0 : 0 < l.length) (h : ∀ j, (hj : j < l.length) → fmtB l[j] ≠ ⟨#[]⟩) : fmtsB l = joinB (l.map fmtB) ⟨#[44]⟩ := by
  unfold fmtsB
  rw [if_neg (by intro e; subst e; exact absurd h0 (by simp)), if_neg]
  rintro ⟨n, hn, he⟩
  obtain ⟨j, hj, rfl⟩ := List.getElem_of_mem hn
  exact h j hj he
theorem fmts_tot : ∀ l : List Int, tot (l.map fmtB) ≤ 7 * l.length
  | [] => by simp [tot]
  | n :: l => by
    have ih := fmts_tot l
    have := fmtB_size n
    unfold tot at ih ⊢
    simp only [List.map_cons, List.sum_cons, List.length_cons]
    omega
end Go.Proofs.YtlnbkhfjbpnbfaaDoor
