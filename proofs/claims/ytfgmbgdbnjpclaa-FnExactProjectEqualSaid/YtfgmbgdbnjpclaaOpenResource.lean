/- DERIVED. What the row tells of an argument of type Resource, by trees. -/
import Derived.Test.YtfgmbgdbnjpclaaChecked
import Derived.Test.YtfgmbgdbnjpclaaOpensN
import Derived.Test.YtfgmbgdbnjpclaaPjd
import Derived.Test.YtfgmbgdbnjpclaaOpenStep
import Derived.Test.YtfgmbgdbnjpclaaOpenIntSS
import Derived.Test.YtfgmbgdbnjpclaaOpenI
import Derived.ProofKit
import Derived.OpenShut
namespace Go.Proofs.Ytfgmbgdbnjpclaa
open Go.RowKit Go.ChangeShapes Go.WideShapes Go.Deep

theorem opens_Resource : Opens Try.prog 25 cellsR (fun d => okL (cellsR d)) := by
  intro H enc W fuel cs x h
  obtain ⟨⟨x0, x1⟩, ⟨k0, k1⟩, hr⟩ := opens_struct2 (s0 := 1) (s1 := 1) Try.underlying25 (by kernel_rfl) ⟨rfl, rfl⟩ ⟨by kernel_rfl, by kernel_rfl⟩ opens_StepS opens_IntSS H enc W fuel cs x h
  exact ⟨⟨x0, x1⟩, ⟨k0, k1, trivial⟩, hr⟩
theorem opens_ResourceS : Opens Try.prog 36 (fun xs => [trRs xs]) (fun xs => (trRs xs).ok) := (opens_slice Try.underlying36 (by kernel_rfl) (by omega) opens_Resource).weak fun xs h => flat_okL h
end Go.Proofs.Ytfgmbgdbnjpclaa
