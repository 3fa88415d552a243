/- DERIVED. What the row tells of an argument of type Project, by trees. -/
import Derived.Test.YtfgmbgdbnjpclaaChecked
import Derived.Test.YtfgmbgdbnjpclaaOpensN
import Derived.Test.YtfgmbgdbnjpclaaPjd
import Derived.Test.YtfgmbgdbnjpclaaOpenActivity
import Derived.Test.YtfgmbgdbnjpclaaOpenLink
import Derived.Test.YtfgmbgdbnjpclaaOpenResource
import Derived.Test.YtfgmbgdbnjpclaaOpenI
import Derived.ProofKit
import Derived.OpenShut
namespace Go.Proofs.Ytfgmbgdbnjpclaa
open Go.RowKit Go.ChangeShapes Go.WideShapes Go.Deep

theorem opens_Project : Opens Try.prog 39 cellsPj (fun d => okL (cellsPj d)) := by
  intro H enc W fuel cs x h
  obtain ⟨⟨x0, x1, x2, x3, x4⟩, ⟨k0, k1, k2, k3, k4⟩, hr⟩ := opens_struct5 (s0 := 1) (s1 := 1) (s2 := 1) (s3 := 1) (s4 := 1) Try.underlying39 (by kernel_rfl) ⟨rfl, rfl, rfl, rfl, rfl⟩ ⟨by kernel_rfl, by kernel_rfl, by kernel_rfl, by kernel_rfl, by kernel_rfl⟩ (opens_int Try.underlying3) opens_ActivityS opens_LinkS opens_ResourceS opens_IntS H enc W fuel cs x h
  exact ⟨⟨x0, x1, x2, x3, x4⟩, ⟨k0, k1, k2, k3, k4, trivial⟩, hr⟩
end Go.Proofs.Ytfgmbgdbnjpclaa
