/- DERIVED. CONTRACTS of the laws' helpers over Literal and slices of it, by trees. -/
import Derived.Test.YtdbnhdiboemmiaaDats
import Derived.Test.YtdbnhdiboemmiaaModT
import Derived.Deep.RegionWith
import Derived.Deep.RegionHeld3
namespace Go.Proofs.Ytdbnhdiboemmiaa
open Go.RowKit
set_option linter.unusedVariables false

theorem thin_LiteralL (d : Lt) : thinL (cellsLt d) := ⟨trivial, trivial, trivial, trivial⟩
theorem thin_LiteralS (xs : List Lt) : (trLts xs).thins := thin_rows cellsLt_len (by omega) thin_LiteralL xs
theorem szL_Literal0 : ∀ xs : List Lt, szL (xs.flatMap cellsLt) = 0
  | [] => rfl
  | x :: xs => by rw [List.flatMap_cons, szL_app, szL_Literal0 xs]; rfl

set_option maxRecDepth 100000 in
set_option maxHeartbeats 1000000 in
theorem toLiteral_t (d : Lt) (v : Value) (w : World) (hv : (trLt d).rd w v) (hl : (trLt d).sz ≤ 1073741824) :
    Calls Try.prog 24 #[v] w fun e w' => ∃ u F, e = .returned u ∧ (trLt d).own w' w.heap.size u F ∧ F.Nodup ∧ Below w.heap.size w w' := by
  obtain rfl := rdLiteral_t hv
  clear hv hl
  go_enter Try.func24, Try.ntmps24
  go_wp2
  refine bodyPost_ret (v := .agg #[.int .i64 d.ki, .int .i64 d.ac, .int .i64 d.va]) (by simp [results, Try.results24, go_sem]) rfl ⟨_, [], rfl, ⟨_, rfl, ownL_ones (xs := [.int .i64 d.ki, .int .i64 d.ac, .int .i64 d.va]) |>.2 ⟨rfl, rfl⟩⟩, by simp, ?_⟩
  repeat (first | exact Below.refl _ _ | refine Below.setCell ?_ (by simp) _ | refine Below.alloc ?_ (by first | (simp; done) | (simp; omega)) _)

theorem infoLiteral_t : (Try.prog.info? 54).map (fun i => (i.zero, i.size, i.bytes)) = some (some (.agg #[.int .i64 0, .int .i64 0, .int .i64 0]), 3, 24) := by kernel_rfl

end Go.Proofs.Ytdbnhdiboemmiaa
