/- DERIVED. CONTRACTS: eqStringS. -/
import Derived.Test.YtjbpkflladkdnaaDoorChecked
import Derived.Test.YtjbpkflladkdnaaDoorRd
import Derived.WalkKit
import Derived.Lib.Hide
import Derived.BigQuiet
import Derived.Deep.QuietTactic
import Derived.Outline
namespace Go.Proofs.YtjbpkflladkdnaaDoor
open Go.RowKit

theorem eqS_pre {xs ys : List ByteArray} {k : Nat} (hl : xs.length = ys.length) (hk : ¬ k < xs.length) (h : ∀ j, (h1 : j < xs.length) → (h2 : j < ys.length) → j < k → xs[j] = ys[j]) : xs = ys :=
  List.ext_getElem hl fun j h1 h2 => h j h1 h2 (by omega)

end Go.Proofs.YtjbpkflladkdnaaDoor
