/- DERIVED. CONTRACT: impl.Join. -/
import Derived.Test.YtcoheknnkdmdiabGreatDoorJoin
namespace Go.Proofs.YtcoheknnkdmdiabGreatDoor
open Go.RowKit

end Go.Proofs.YtcoheknnkdmdiabGreatDoor
