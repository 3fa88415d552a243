/- DERIVED. CONTRACT: impl.Join. -/
import Derived.Test.YtnbkiobbacaaiaaGreatDoorJoin
namespace Go.Proofs.YtnbkiobbacaaiaaGreatDoor
open Go.RowKit

end Go.Proofs.YtnbkiobbacaaiaaGreatDoor
