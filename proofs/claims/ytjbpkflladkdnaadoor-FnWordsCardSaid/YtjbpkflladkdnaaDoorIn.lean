/- DERIVED. CONTRACTS: l01In. -/
import Derived.Test.YtjbpkflladkdnaaDoorChecked
import Derived.Test.YtjbpkflladkdnaaDoorMath
import Derived.WalkKit
import Derived.Lib.Hide
import Derived.BigQuiet
import Derived.Outline
import Derived.Deep.QuietTactic
namespace Go.Proofs.YtjbpkflladkdnaaDoor
open Go.RowKit

end Go.Proofs.YtjbpkflladkdnaaDoor
