/- DERIVED. What the row tells of slices of slices of ints that came in, by trees. -/
import Derived.Test.YtfgmbgdbnjpclaaOpenI
import Derived.Test.YtfgmbgdbnjpclaaPjd
namespace Go.Proofs.Ytfgmbgdbnjpclaa
open Go.RowKit Go.ChangeShapes Go.WideShapes Go.Deep

theorem opens_IntSS : Opens Try.prog 23 (fun xs => [trSu xs]) (fun xs => (trSu xs).ok) :=
  (opens_slice (f := cellsI1) Try.underlying23 (by kernel_rfl) (by omega) opens_IntS).weak fun xs h => flat_okL fun x hx => ⟨h x hx, trivial⟩
end Go.Proofs.Ytfgmbgdbnjpclaa
