/- DERIVED. CONTRACTS of chapter 12: LiteralOk, of the program and of the model. -/
import Derived.Test.YtgbpomakomddjaaScLt
import Derived.Test.YtgbpomakomddjaaTFl
import Derived.Test.YtgbpomakomddjaaPrG3
import Derived.Test.YtgbpomakomddjaaDats
import Derived.Test.YtgbpomakomddjaaRegZ
namespace Go.Proofs.Ytgbpomakomddjaa
open Go.RowKit Go.Shelf
set_option linter.unusedVariables false

theorem l01InB_any (n lo hi : Int) (w : World) : Calls Try.prog 52 #[.int .i64 n, .int .i64 lo, .int .i64 hi] w fun e w' => e = .returned (.bool (inB n lo hi)) ∧ Below w.heap.size w w' :=
  (l01In_any n lo hi w).mono fun e w' h => ⟨h.1, h.2 ▸ Below.refl _ _⟩
theorem isBelowB_any (n k : Int) (w : World) : Calls Try.prog 29 #[.int .i64 n, .int .i64 k] w fun e w' => e = .returned (.bool (inB n 0 (k - 1))) ∧ Below w.heap.size w w' :=
  (isBelow_any n k w).mono fun e w' h => ⟨h.1, h.2 ▸ Below.refl _ _⟩
end Go.Proofs.Ytgbpomakomddjaa
