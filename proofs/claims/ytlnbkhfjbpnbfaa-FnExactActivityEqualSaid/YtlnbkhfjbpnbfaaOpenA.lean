/- DERIVED. What the row tells of a mode, of an activity that came in. -/
import Derived.Test.YtlnbkhfjbpnbfaaChecked
import Derived.Test.YtlnbkhfjbpnbfaaOpens
import Derived.Test.YtlnbkhfjbpnbfaaMod
import Derived.ProofKit
import Derived.OpenShut
namespace Go.Proofs.Ytlnbkhfjbpnbfaa
open Go.RowKit Go.ChangeShapes Go.WideShapes Go.Deep

theorem opens_ints : Opens Try.prog 22 (fun xs : List Int => [trI xs]) (fun xs => ∀ x ∈ xs, (Lit.int .i64 x).wf = true) := by
  intro H enc W fuel cs x h
  obtain ⟨xs, h1, v, us, rfl, h2, h3⟩ := opens_slice (e' := 3) Try.underlying22 (by kernel_rfl) (Nat.succ_pos 0) (opens_int Try.underlying3) H enc W fuel cs x h
  refine ⟨xs, h1, v, us, rfl, flat_rd ?_, h3⟩
  obtain ⟨vs, h4, h5⟩ := h2
  rw [flatMap_one] at h5
  have h6 := rdL_ones.1 h5
  subst h6
  obtain ⟨hl, _, A, c, rfl, hh⟩ := h4
  refine ⟨by simpa using hl, A, c, by simp, ?_⟩
  rcases hh with hh | hh
  · exact .inl (by simpa using hh)
  · exact .inr hh
abbrev okI (xs : List Int) : Prop := ∀ x ∈ xs, (Lit.int .i64 x).wf = true
def okM (m : Md) : Prop := (Lit.int .i64 m.du).wf = true ∧ okI m.us ∧ okI m.co
theorem opens_mode : Opens Try.prog 24 cellsM okM := by
  intro H enc W fuel cs x h
  obtain ⟨⟨d, u, c⟩, ⟨h1, h2, h3⟩, hr⟩ := opens_struct3 (s0 := 1) (s1 := 1) (s2 := 1) Try.underlying24 (by kernel_rfl) ⟨rfl, rfl, rfl⟩ ⟨by kernel_rfl, by kernel_rfl, by kernel_rfl⟩ (opens_int Try.underlying3) opens_ints opens_ints H enc W fuel cs x h
  exact ⟨⟨d, u, c⟩, ⟨h1, h2, h3⟩, hr⟩
theorem opens_modes : Opens Try.prog 31 (fun ms => [trMs ms]) (fun ms => ∀ m ∈ ms, okM m) := opens_slice Try.underlying31 (by kernel_rfl) (by omega) opens_mode
def okA (a : Ac) : Prop := a.nm.size ≤ maxLen ∧ (Lit.int .i64 a.fa).wf = true ∧ ∀ m ∈ a.ms, okM m
theorem opens_act : Opens Try.prog 33 cellsA okA := by
  intro H enc W fuel cs x h
  obtain ⟨⟨d, u, c⟩, ⟨h1, h2, h3⟩, hr⟩ := opens_struct3 (s0 := 1) (s1 := 1) (s2 := 1) Try.underlying33 (by kernel_rfl) ⟨rfl, rfl, rfl⟩ ⟨by kernel_rfl, by kernel_rfl, by kernel_rfl⟩ (opens_string Try.underlying9) (opens_int Try.underlying3) opens_modes H enc W fuel cs x h
  exact ⟨⟨d, u, c⟩, ⟨h1, h2, h3⟩, hr⟩
end Go.Proofs.Ytlnbkhfjbpnbfaa
