/- DERIVED. CONTRACT: impl.Join. -/
import Derived.Test.YtaglfdkeomjpdabGreatDoorJoin
namespace Go.Proofs.YtaglfdkeomjpdabGreatDoor
open Go.RowKit

end Go.Proofs.YtaglfdkeomjpdabGreatDoor
