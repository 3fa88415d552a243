/- DERIVED. What the row tells of an argument of type Activity, by trees. -/
import Derived.Test.YtfgmbgdbnjpclaaChecked
import Derived.Test.YtfgmbgdbnjpclaaOpensN
import Derived.Test.YtfgmbgdbnjpclaaPjd
import Derived.Test.YtfgmbgdbnjpclaaOpenMode
import Derived.Test.YtfgmbgdbnjpclaaOpenI
import Derived.ProofKit
import Derived.OpenShut
namespace Go.Proofs.Ytfgmbgdbnjpclaa
open Go.RowKit Go.ChangeShapes Go.WideShapes Go.Deep

theorem opens_Activity : Opens Try.prog 141 cellsA (fun d => okL (cellsA d)) := by
  intro H enc W fuel cs x h
  obtain ⟨⟨x0, x1, x2⟩, ⟨k0, k1, k2⟩, hr⟩ := opens_struct3 (s0 := 1) (s1 := 1) (s2 := 1) Try.underlying141 (by kernel_rfl) ⟨rfl, rfl, rfl⟩ ⟨by kernel_rfl, by kernel_rfl, by kernel_rfl⟩ (opens_string Try.underlying9) (opens_int Try.underlying3) opens_ModeS H enc W fuel cs x h
  exact ⟨⟨x0, x1, x2⟩, ⟨k0, k1, k2, trivial⟩, hr⟩
theorem opens_ActivityS : Opens Try.prog 34 (fun xs => [trAs xs]) (fun xs => (trAs xs).ok) := (opens_slice Try.underlying34 (by kernel_rfl) (by omega) opens_Activity).weak fun xs h => flat_okL h
end Go.Proofs.Ytfgmbgdbnjpclaa
