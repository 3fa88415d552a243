/- DERIVED. What the row tells of slices of ints that came in, by trees. -/
import Derived.Test.YtfgmbgdbnjpclaaChecked
import Derived.Test.YtfgmbgdbnjpclaaOpensN
import Derived.ProofKit
import Derived.OpenShut
namespace Go.Proofs.Ytfgmbgdbnjpclaa
open Go.RowKit Go.ChangeShapes Go.WideShapes Go.Deep

theorem okL_ints : ∀ {xs : List Int}, (∀ x ∈ xs, (Lit.int .i64 x).wf = true) → okL ((xs.map (Value.int .i64)).map .one)
  | [], _ => trivial
  | x :: xs, h => ⟨h x (by simp), okL_ints fun y hy => h y (by simp [hy])⟩
theorem opens_IntS : Opens Try.prog 37 (fun xs : List Int => [trI xs]) (fun xs => (trI xs).ok) := by
  intro H enc W fuel cs x h
  obtain ⟨xs, h1, v, us, rfl, h2, h3⟩ := opens_slice (e' := 3) Try.underlying37 (by kernel_rfl) (Nat.succ_pos 0) (opens_int Try.underlying3) H enc W fuel cs x h
  refine ⟨xs, okL_ints h1, v, us, rfl, flat_rd ?_, h3⟩
  obtain ⟨vs, h4, h5⟩ := h2
  rw [flatMap_one] at h5
  have h6 := rdL_ones.1 h5
  subst h6
  obtain ⟨hl, _, A, c, rfl, hh⟩ := h4
  refine ⟨by simpa using hl, A, c, by simp, ?_⟩
  rcases hh with hh | hh
  · exact .inl (by simpa using hh)
  · exact .inr hh
end Go.Proofs.Ytfgmbgdbnjpclaa
