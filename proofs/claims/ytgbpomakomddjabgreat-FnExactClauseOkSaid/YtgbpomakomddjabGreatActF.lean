/- DERIVED. CONTRACTS: ModeIndexes, of the model and of the program. -/
import Derived.Test.YtgbpomakomddjabGreatDats
import Derived.Test.YtgbpomakomddjabGreatSets
namespace Go.Proofs.YtgbpomakomddjabGreat
open Go.RowKit

set_option maxRecDepth 100000 in
theorem specModeIndexes_any (a : Ac) (v : Value) (w : World) (hv : (trA a).rd w v) :
    Calls Tryz.prog 79 #[v] w fun e w' => ∃ v', e = .returned v' ∧ w'.ownsRow w.heap.size 3 1 v' (rangeB (a.ms.length : Int)).length ((rangeB (a.ms.length : Int)).map (.int .i64)) ∧ Below w.heap.size w w' := by
  obtain ⟨A, c, rfl, _⟩ := rdA hv
  clear hv
  go_enter Tryz.func79, Tryz.ntmps79
  go_wp2_with fail
  refine (specRange_any _ _).mono ?_
  rintro e w1 ⟨v', rfl, o, b⟩
  have HO := Lib.hid (own_baseN o (B' := w.heap.size) (by simp))
  have HB := Lib.hid (((Below.refl _ _).alloc (Nat.le_refl _) _).trans (b.mono (by simp)))
  clear o b
  go_wp2
  go_ret
  exact ⟨_, rfl, HO.out, HB.out⟩

set_option maxRecDepth 100000 in
theorem implModeIndexes_any (a : Ac) (v : Value) (w : World) (hv : (trA a).rd w v) :
    Calls Tryz.prog 80 #[v] w fun e w' => ∃ v', e = .returned v' ∧ w'.ownsRow w.heap.size 3 1 v' (rangeB (a.ms.length : Int)).length ((rangeB (a.ms.length : Int)).map (.int .i64)) ∧ Below w.heap.size w w' := by
  obtain ⟨A, c, rfl, _⟩ := rdA hv
  clear hv
  go_enter Tryz.func80, Tryz.ntmps80
  go_wp2_with fail
  refine (implRange_any _ _).mono ?_
  rintro e w1 ⟨v', rfl, o, b⟩
  have HO := Lib.hid (own_baseN o (B' := w.heap.size) (by simp))
  have HB := Lib.hid (((Below.refl _ _).alloc (Nat.le_refl _) _).trans (b.mono (by simp)))
  clear o b
  go_wp2
  go_ret
  exact ⟨_, rfl, HO.out, HB.out⟩
end Go.Proofs.YtgbpomakomddjabGreat
