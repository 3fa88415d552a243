/- DERIVED. CONTRACTS of the laws' helpers over Schedule and slices of it, by trees. -/
import Derived.Test.YtdbnhdiboemmiacGreatDats
import Derived.Test.YtdbnhdiboemmiacGreatTPj
import Derived.Test.YtdbnhdiboemmiacGreatModT
import Derived.Deep.RegionWith
import Derived.Deep.RegionHeld3

section
namespace Go.Proofs.YtdbnhdiboemmiacGreat
open Go.RowKit
set_option linter.unusedVariables false

theorem thin_DomainL (d : Dm) : thinL (cellsDm d) := ⟨thin_ints _, thin_ints _, thin_IntSS _, trivial⟩
theorem thin_DomainS (xs : List Dm) : (trDms xs).thins := thin_rows cellsDm_len (by omega) thin_DomainL xs

theorem infoDomain_t : (Tryz.prog.info? 32).map (fun i => (i.zero, i.size, i.bytes)) = some (some (.agg #[.slice none 0 0, .slice none 0 0, .slice none 0 0]), 3, 72) := by kernel_rfl

end Go.Proofs.YtdbnhdiboemmiacGreat
end

section
namespace Go.Proofs.YtdbnhdiboemmiacGreat
open Go.RowKit
set_option linter.unusedVariables false

theorem thin_LiteralL (d : Lt) : thinL (cellsLt d) := ⟨trivial, trivial, trivial, trivial⟩
theorem thin_LiteralS (xs : List Lt) : (trLts xs).thins := thin_rows cellsLt_len (by omega) thin_LiteralL xs
theorem szL_Literal0 : ∀ xs : List Lt, szL (xs.flatMap cellsLt) = 0
  | [] => rfl
  | x :: xs => by rw [List.flatMap_cons, szL_app, szL_Literal0 xs]; rfl

theorem infoLiteral_t : (Tryz.prog.info? 38).map (fun i => (i.zero, i.size, i.bytes)) = some (some (.agg #[.int .i64 0, .int .i64 0, .int .i64 0]), 3, 24) := by kernel_rfl

end Go.Proofs.YtdbnhdiboemmiacGreat
end

section
namespace Go.Proofs.YtdbnhdiboemmiacGreat
open Go.RowKit
set_option linter.unusedVariables false

theorem thin_ScheduleL (d : Sc) : thinL (cellsSc d) := ⟨thin_ints _, thin_ints _, trivial⟩
end Go.Proofs.YtdbnhdiboemmiacGreat
end
