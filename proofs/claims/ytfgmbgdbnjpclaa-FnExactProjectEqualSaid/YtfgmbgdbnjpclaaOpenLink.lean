/- DERIVED. What the row tells of an argument of type Link, by trees. -/
import Derived.Test.YtfgmbgdbnjpclaaChecked
import Derived.Test.YtfgmbgdbnjpclaaOpensN
import Derived.Test.YtfgmbgdbnjpclaaPjd
import Derived.Test.YtfgmbgdbnjpclaaOpenI
import Derived.ProofKit
import Derived.OpenShut
namespace Go.Proofs.Ytfgmbgdbnjpclaa
open Go.RowKit Go.ChangeShapes Go.WideShapes Go.Deep

theorem opens_Link : Opens Try.prog 144 cellsL (fun d => okL (cellsL d)) := by
  intro H enc W fuel cs x h
  obtain ⟨⟨x0, x1, x2, x3⟩, ⟨k0, k1, k2, k3⟩, hr⟩ := opens_struct4 (s0 := 1) (s1 := 1) (s2 := 1) (s3 := 1) Try.underlying144 (by kernel_rfl) ⟨rfl, rfl, rfl, rfl⟩ ⟨by kernel_rfl, by kernel_rfl, by kernel_rfl, by kernel_rfl⟩ (opens_int Try.underlying3) (opens_int Try.underlying3) (opens_bool Try.underlying4) (opens_int Try.underlying3) H enc W fuel cs x h
  exact ⟨⟨x0, x1, x2, x3⟩, ⟨k0, k1, k2, k3, trivial⟩, hr⟩
theorem opens_LinkS : Opens Try.prog 35 (fun xs => [trLs xs]) (fun xs => (trLs xs).ok) := (opens_slice Try.underlying35 (by kernel_rfl) (by omega) opens_Link).weak fun xs h => flat_okL h
end Go.Proofs.Ytfgmbgdbnjpclaa
