/- DERIVED. CONTRACTS: isLower, spec.IsName, impl.IsName. -/
import Derived.Test.YtgbpomakomddjaaChecked
import Derived.Test.YtgbpomakomddjaaMaths
import Derived.Test.YtgbpomakomddjaaDats
import Derived.Test.YtgbpomakomddjaaDig
import Derived.WalkKit
import Derived.Lib.Hide
import Derived.BigQuiet
import Derived.Outline
import Derived.Deep.QuietTactic
namespace Go.Proofs.Ytgbpomakomddjaa
open Go.RowKit

theorem below_iter (w : World) (s : ByteArray) (pos : Nat) : Below w.heap.size w (w.iter s pos) := (Below.refl _ _).alloc (Nat.le_refl _) _

end Go.Proofs.Ytgbpomakomddjaa
