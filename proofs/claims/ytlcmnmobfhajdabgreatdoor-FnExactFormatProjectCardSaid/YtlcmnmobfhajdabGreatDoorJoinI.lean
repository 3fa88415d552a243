/- DERIVED. CONTRACT: impl.Join. -/
import Derived.Test.YtlcmnmobfhajdabGreatDoorJoin
namespace Go.Proofs.YtlcmnmobfhajdabGreatDoor
open Go.RowKit

end Go.Proofs.YtlcmnmobfhajdabGreatDoor
