/- DERIVED. CONTRACT: impl.Join. -/
import Derived.Test.YtlnbkhfjbpnbfaaDoorJoin
namespace Go.Proofs.YtlnbkhfjbpnbfaaDoor
open Go.RowKit

end Go.Proofs.YtlnbkhfjbpnbfaaDoor
