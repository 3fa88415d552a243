/- DERIVED. What the row tells of an argument of type Step, by trees. -/
import Derived.Test.YtfgmbgdbnjpclaaChecked
import Derived.Test.YtfgmbgdbnjpclaaOpensN
import Derived.Test.YtfgmbgdbnjpclaaPjd
import Derived.Test.YtfgmbgdbnjpclaaOpenI
import Derived.ProofKit
import Derived.OpenShut
namespace Go.Proofs.Ytfgmbgdbnjpclaa
open Go.RowKit Go.ChangeShapes Go.WideShapes Go.Deep

theorem opens_Step : Opens Try.prog 134 cellsPt (fun d => okL (cellsPt d)) := by
  intro H enc W fuel cs x h
  obtain ⟨⟨x0, x1⟩, ⟨k0, k1⟩, hr⟩ := opens_struct2 (s0 := 1) (s1 := 1) Try.underlying134 (by kernel_rfl) ⟨rfl, rfl⟩ ⟨by kernel_rfl, by kernel_rfl⟩ (opens_int Try.underlying3) (opens_int Try.underlying3) H enc W fuel cs x h
  exact ⟨(x0, x1), ⟨k0, k1, trivial⟩, hr⟩
theorem opens_StepS : Opens Try.prog 22 (fun xs => [trSt xs]) (fun xs => (trSt xs).ok) := (opens_slice Try.underlying22 (by kernel_rfl) (by omega) opens_Step).weak fun xs h => flat_okL h
end Go.Proofs.Ytfgmbgdbnjpclaa
