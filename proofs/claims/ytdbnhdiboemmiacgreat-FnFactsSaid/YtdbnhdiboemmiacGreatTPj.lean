/- DERIVED. CONTRACTS of the laws' helpers over Project and slices of it, by trees. -/
import Derived.Test.YtdbnhdiboemmiacGreatDats
import Derived.Test.YtdbnhdiboemmiacGreatModT
import Derived.Deep.RegionWith
import Derived.Deep.RegionHeld3

section
namespace Go.Proofs.YtdbnhdiboemmiacGreat
open Go.RowKit
set_option linter.unusedVariables false

theorem thin_StepL (d : (Int × Int)) : thinL (cellsPt d) := ⟨trivial, trivial, trivial⟩
theorem thin_StepS (xs : List (Int × Int)) : (trSt xs).thins := thin_rows cellsPt_len (by omega) thin_StepL xs
theorem szL_Step0 : ∀ xs : List (Int × Int), szL (xs.flatMap cellsPt) = 0
  | [] => rfl
  | x :: xs => by rw [List.flatMap_cons, szL_app, szL_Step0 xs]; rfl

theorem infoStep_t : (Tryz.prog.info? 100).map (fun i => (i.zero, i.size, i.bytes)) = some (some (.agg #[.int .i64 0, .int .i64 0]), 2, 16) := by kernel_rfl

end Go.Proofs.YtdbnhdiboemmiacGreat
end

section
namespace Go.Proofs.YtdbnhdiboemmiacGreat
open Go.RowKit
set_option linter.unusedVariables false

theorem thin_ModeL (d : Md) : thinL (cellsM d) := ⟨trivial, thin_ints _, thin_ints _, trivial⟩
theorem thin_ModeS (xs : List Md) : (trMs xs).thins := thin_rows cellsM_len (by omega) thin_ModeL xs

theorem infoMode_t : (Tryz.prog.info? 103).map (fun i => (i.zero, i.size, i.bytes)) = some (some (.agg #[.int .i64 0, .slice none 0 0, .slice none 0 0]), 3, 56) := by kernel_rfl

end Go.Proofs.YtdbnhdiboemmiacGreat
end

section
namespace Go.Proofs.YtdbnhdiboemmiacGreat
open Go.RowKit
set_option linter.unusedVariables false

theorem thin_ActivityL (d : Ac) : thinL (cellsA d) := ⟨trivial, trivial, thin_ModeS _, trivial⟩
theorem thin_ActivityS (xs : List Ac) : (trAs xs).thins := thin_rows cellsA_len (by omega) thin_ActivityL xs

theorem infoActivity_t : (Tryz.prog.info? 55).map (fun i => (i.zero, i.size, i.bytes)) = some (some (.agg #[.string ⟨#[]⟩, .int .i64 0, .slice none 0 0]), 3, 48) := by kernel_rfl

end Go.Proofs.YtdbnhdiboemmiacGreat
end

section
namespace Go.Proofs.YtdbnhdiboemmiacGreat
open Go.RowKit
set_option linter.unusedVariables false

theorem thin_LinkL (d : Lk) : thinL (cellsL d) := ⟨trivial, trivial, trivial, trivial, trivial⟩
theorem thin_LinkS (xs : List Lk) : (trLs xs).thins := thin_rows cellsL_len (by omega) thin_LinkL xs
theorem szL_Link0 : ∀ xs : List Lk, szL (xs.flatMap cellsL) = 0
  | [] => rfl
  | x :: xs => by rw [List.flatMap_cons, szL_app, szL_Link0 xs]; rfl

theorem infoLink_t : (Tryz.prog.info? 79).map (fun i => (i.zero, i.size, i.bytes)) = some (some (.agg #[.int .i64 0, .int .i64 0, .bool false, .int .i64 0]), 4, 32) := by kernel_rfl

end Go.Proofs.YtdbnhdiboemmiacGreat
end

section
namespace Go.Proofs.YtdbnhdiboemmiacGreat
open Go.RowKit
set_option linter.unusedVariables false

theorem thin_IntL (d : (List Int)) : thinL (cellsI1 d) := ⟨thin_ints _, trivial⟩
theorem thin_IntSS (xs : List (List Int)) : (trSu xs).thins := thin_rows cellsI1_len (by omega) thin_IntL xs

theorem infoInt_t : (Tryz.prog.info? 26).map (fun i => (i.zero, i.size, i.bytes)) = some (some (.slice none 0 0), 1, 24) := by kernel_rfl

end Go.Proofs.YtdbnhdiboemmiacGreat
end

section
namespace Go.Proofs.YtdbnhdiboemmiacGreat
open Go.RowKit
set_option linter.unusedVariables false

theorem thin_ResourceL (d : Rs) : thinL (cellsR d) := ⟨thin_StepS _, thin_IntSS _, trivial⟩
theorem thin_ResourceS (xs : List Rs) : (trRs xs).thins := thin_rows cellsR_len (by omega) thin_ResourceL xs

theorem infoResource_t : (Tryz.prog.info? 74).map (fun i => (i.zero, i.size, i.bytes)) = some (some (.agg #[.slice none 0 0, .slice none 0 0]), 2, 48) := by kernel_rfl

end Go.Proofs.YtdbnhdiboemmiacGreat
end

section
namespace Go.Proofs.YtdbnhdiboemmiacGreat
open Go.RowKit
set_option linter.unusedVariables false

theorem thin_ProjectL (d : Pj) : thinL (cellsPj d) := ⟨trivial, thin_ActivityS _, thin_LinkS _, thin_ResourceS _, thin_ints _, trivial⟩

end Go.Proofs.YtdbnhdiboemmiacGreat
end
