/- DERIVED. CONTRACTS of the laws' helpers over Project and slices of it, by trees. -/
import Derived.Test.YtgbpomakomddjaaDats
import Derived.Test.YtgbpomakomddjaaModT
import Derived.Deep.RegionWith
import Derived.Deep.RegionHeld3

section
namespace Go.Proofs.Ytgbpomakomddjaa
open Go.RowKit
set_option linter.unusedVariables false

theorem thin_StepL (d : (Int × Int)) : thinL (cellsPt d) := ⟨trivial, trivial, trivial⟩
theorem szL_Step0 : ∀ xs : List (Int × Int), szL (xs.flatMap cellsPt) = 0
  | [] => rfl
  | x :: xs => by rw [List.flatMap_cons, szL_app, szL_Step0 xs]; rfl

end Go.Proofs.Ytgbpomakomddjaa
end

section
namespace Go.Proofs.Ytgbpomakomddjaa
open Go.RowKit
set_option linter.unusedVariables false

theorem thin_ModeL (d : Md) : thinL (cellsM d) := ⟨trivial, thin_ints _, thin_ints _, trivial⟩
end Go.Proofs.Ytgbpomakomddjaa
end

section
namespace Go.Proofs.Ytgbpomakomddjaa
open Go.RowKit
set_option linter.unusedVariables false

end Go.Proofs.Ytgbpomakomddjaa
end

section
namespace Go.Proofs.Ytgbpomakomddjaa
open Go.RowKit
set_option linter.unusedVariables false

theorem thin_LinkL (d : Lk) : thinL (cellsL d) := ⟨trivial, trivial, trivial, trivial, trivial⟩
theorem szL_Link0 : ∀ xs : List Lk, szL (xs.flatMap cellsL) = 0
  | [] => rfl
  | x :: xs => by rw [List.flatMap_cons, szL_app, szL_Link0 xs]; rfl

end Go.Proofs.Ytgbpomakomddjaa
end

section
namespace Go.Proofs.Ytgbpomakomddjaa
open Go.RowKit
set_option linter.unusedVariables false

theorem thin_IntL (d : (List Int)) : thinL (cellsI1 d) := ⟨thin_ints _, trivial⟩
theorem thin_IntSS (xs : List (List Int)) : (trSu xs).thins := thin_rows cellsI1_len (by omega) thin_IntL xs

theorem infoInt_t : (Try.prog.info? 33).map (fun i => (i.zero, i.size, i.bytes)) = some (some (.slice none 0 0), 1, 24) := by kernel_rfl

end Go.Proofs.Ytgbpomakomddjaa
end

section
namespace Go.Proofs.Ytgbpomakomddjaa
open Go.RowKit
set_option linter.unusedVariables false

end Go.Proofs.Ytgbpomakomddjaa
end

section
namespace Go.Proofs.Ytgbpomakomddjaa
open Go.RowKit
set_option linter.unusedVariables false

end Go.Proofs.Ytgbpomakomddjaa
end
