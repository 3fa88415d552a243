/- DERIVED. The shapes of modes and activities as values; their sizes by contract. -/
import Derived.Test.YtlcmnmobfhajdabGreatDoorModT
import Derived.Test.YtlcmnmobfhajdabGreatDoorCore
namespace Go.Proofs.YtlcmnmobfhajdabGreatDoor
open Go.RowKit

theorem shapeM {w : World} {m : Md} {v : Value} (h : (trM m).rd w v) : ∃ U cu C cc, v = .agg #[.int .i64 m.du, .slice U m.us.length cu, .slice C m.co.length cc] ∧ m.us.length ≤ 9223372036854775807 ∧ m.co.length ≤ 9223372036854775807 := by
  obtain ⟨U, cu, C, cc, rfl, h1, h2⟩ := rdM h
  obtain ⟨_, _, _, g1⟩ := rdI_slice h1
  obtain ⟨_, _, _, g2⟩ := rdI_slice h2
  exact ⟨U, cu, C, cc, rfl, g1, g2⟩
theorem shapeA {w : World} {a : Ac} {v : Value} (h : (trA a).rd w v) : ∃ U cu, v = .agg #[.string a.nm, .int .i64 a.fa, .slice U a.ms.length cu] := by
  obtain ⟨U, cu, rfl, _⟩ := rdA h
  exact ⟨U, cu, rfl⟩
theorem szM2_any (m : Md) (v : Value) (left : Int) (w : World) (hr : (trM m).rd w v) (h0 : 0 ≤ left) (h3 : left ≤ 1048576) :
    Calls Tryz.prog 126 #[v, .int .i64 left] w fun e w' => e = .returned (.int .i64 (if left < m.us.length + m.co.length then -1 else left - (m.us.length + m.co.length))) ∧ Below w.heap.size w w' := by
  obtain ⟨U, cu, C, cc, rfl, g1, g2⟩ := shapeM hr
  exact szM_any _ _ _ _ _ _ _ _ _ g1 g2 h0 h3
theorem szA2_any (a : Ac) (v : Value) (left : Int) (w : World) (hs : a.nm.size ≤ maxLen) (hr : (trA a).rd w v) (h0 : 0 ≤ left) (h3 : left ≤ 1048576) :
    Calls Tryz.prog 55 #[v, .int .i64 left] w fun e w' => e = .returned (.int .i64 (if left < a.nm.size + (a.ms.length + szMs a.ms) then -1 else left - (a.nm.size + (a.ms.length + szMs a.ms)))) ∧ Below w.heap.size w w' := by
  obtain ⟨U, cu, rfl, h⟩ := rdA hr
  exact szA_any _ _ _ _ _ (by unfold maxLen at hs; exact hs) h h0 h3
end Go.Proofs.YtlcmnmobfhajdabGreatDoor
