/- DERIVED. CONTRACTS: impl.SetOk. -/
import Derived.Test.YtlnbkhfjbpnbfaaSetA
namespace Go.Proofs.Ytlnbkhfjbpnbfaa
open Go.RowKit

end Go.Proofs.Ytlnbkhfjbpnbfaa
