/- DERIVED. The shapes of modes and activities as values; their sizes by contract. -/
import Derived.Test.YtdbnhdiboemmiacGreatModT
import Derived.Test.YtdbnhdiboemmiacGreatCore
namespace Go.Proofs.YtdbnhdiboemmiacGreat
open Go.RowKit

theorem shapeM {w : World} {m : Md} {v : Value} (h : (trM m).rd w v) : ∃ U cu C cc, v = .agg #[.int .i64 m.du, .slice U m.us.length cu, .slice C m.co.length cc] ∧ m.us.length ≤ 9223372036854775807 ∧ m.co.length ≤ 9223372036854775807 := by
  obtain ⟨U, cu, C, cc, rfl, h1, h2⟩ := rdM h
  obtain ⟨_, _, _, g1⟩ := rdI_slice h1
  obtain ⟨_, _, _, g2⟩ := rdI_slice h2
  exact ⟨U, cu, C, cc, rfl, g1, g2⟩
theorem shapeA {w : World} {a : Ac} {v : Value} (h : (trA a).rd w v) : ∃ U cu, v = .agg #[.string a.nm, .int .i64 a.fa, .slice U a.ms.length cu] := by
  obtain ⟨U, cu, rfl, _⟩ := rdA h
  exact ⟨U, cu, rfl⟩
end Go.Proofs.YtdbnhdiboemmiacGreat
