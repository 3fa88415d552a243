/- DERIVED. What the row tells of an argument of type Mode, by trees. -/
import Derived.Test.YtfgmbgdbnjpclaaChecked
import Derived.Test.YtfgmbgdbnjpclaaOpensN
import Derived.Test.YtfgmbgdbnjpclaaPjd
import Derived.Test.YtfgmbgdbnjpclaaOpenI
import Derived.ProofKit
import Derived.OpenShut
namespace Go.Proofs.Ytfgmbgdbnjpclaa
open Go.RowKit Go.ChangeShapes Go.WideShapes Go.Deep

theorem opens_Mode : Opens Try.prog 176 cellsM (fun d => okL (cellsM d)) := by
  intro H enc W fuel cs x h
  obtain ⟨⟨x0, x1, x2⟩, ⟨k0, k1, k2⟩, hr⟩ := opens_struct3 (s0 := 1) (s1 := 1) (s2 := 1) Try.underlying176 (by kernel_rfl) ⟨rfl, rfl, rfl⟩ ⟨by kernel_rfl, by kernel_rfl, by kernel_rfl⟩ (opens_int Try.underlying3) opens_IntS opens_IntS H enc W fuel cs x h
  exact ⟨⟨x0, x1, x2⟩, ⟨k0, k1, k2, trivial⟩, hr⟩
theorem opens_ModeS : Opens Try.prog 139 (fun xs => [trMs xs]) (fun xs => (trMs xs).ok) := (opens_slice Try.underlying139 (by kernel_rfl) (by omega) opens_Mode).weak fun xs h => flat_okL h
end Go.Proofs.Ytfgmbgdbnjpclaa
