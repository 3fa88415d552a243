/- DERIVED. CONTRACT: the program's elementAt at ints. -/
import Derived.Test.YtgbpomakomddjabGreatActA
import Derived.Test.YtgbpomakomddjabGreatMaths
import Derived.Test.YtgbpomakomddjabGreatDats
namespace Go.Proofs.YtgbpomakomddjabGreat
open Go.RowKit

/-- A value and whether there is one, as the program returns it. -/
def optI : Option Int → Value
  | some x => .tuple #[.int .i64 x, .bool true]
  | none => .tuple #[.int .i64 0, .bool false]

end Go.Proofs.YtgbpomakomddjabGreat
