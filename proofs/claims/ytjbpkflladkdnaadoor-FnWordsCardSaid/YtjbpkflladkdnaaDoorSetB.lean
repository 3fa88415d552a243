/- DERIVED. CONTRACTS: impl.SetOk. -/
import Derived.Test.YtjbpkflladkdnaaDoorSetA
namespace Go.Proofs.YtjbpkflladkdnaaDoor
open Go.RowKit

end Go.Proofs.YtjbpkflladkdnaaDoor
