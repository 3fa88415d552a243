/- DERIVED. CONTRACTS of the laws' helpers over modes and activities: sz. -/
import Derived.Test.YtlnbkhfjbpnbfaaDoorChecked
import Derived.Test.YtlnbkhfjbpnbfaaDoorMod
import Derived.WalkKit
import Derived.Lib.Hide
import Derived.OwnWalk
import Derived.BigQuiet
import Derived.Deep.RegionWith
import Derived.Deep.QuietTactic
import Derived.Outline
namespace Go.Proofs.YtlnbkhfjbpnbfaaDoor
open Go.RowKit

theorem szI_any (a : Option Addr) (len cap : Nat) (left : Int) (w : World) (h1 : len ≤ 9223372036854775807) (h0 : 0 ≤ left) (h2 : left ≤ 1048576) :
    Calls Tryd.prog 14 #[.slice a len cap, .int .i64 left] w fun e w' => e = .returned (.int .i64 (if left < len then -1 else left - len)) ∧ w = w' := by
  by_cases h : left < len
  · have h' : left - len < 0 := by omega
    rw [if_pos h]
    go_enter Tryd.func14, Tryd.ntmps14
    go_wp2
    go_ret
    exact ⟨rfl, rfl⟩
  · have h' : ¬ left - len < 0 := by omega
    rw [if_neg h]
    go_enter Tryd.func14, Tryd.ntmps14
    go_wp2
    go_ret
    exact ⟨rfl, rfl⟩

theorem ret_numZ {a b : Int} (h : a = b) : Ending.returned (.int .i64 a) = .returned (.int .i64 b) := by rw [h]

set_option maxRecDepth 100000 in
theorem szM_any (d : Int) (U C : Option Addr) (n k cu cc : Nat) (left : Int) (w : World) (h1 : n ≤ 9223372036854775807) (h2 : k ≤ 9223372036854775807) (h0 : 0 ≤ left) (h3 : left ≤ 1048576) :
    Calls Tryd.prog 5 #[.agg #[.int .i64 d, .slice U n cu, .slice C k cc], .int .i64 left] w fun e w' => e = .returned (.int .i64 (if left < n + k then -1 else left - (n + k))) ∧ Below w.heap.size w w' := by
  generalize hres : (if left < n + k then -1 else left - (n + k)) = res
  have RES := Lib.hid hres
  clear hres
  go_enter Tryd.func5, Tryd.ntmps5
  go_wp2_with fail
  refine (szI_any _ _ _ _ _ h1 h0 h3).mono ?_
  rintro e wz ⟨rfl, hwz⟩
  subst hwz
  by_cases hn : left < (n : Int)
  · rw [if_pos hn]
    go_wp2
    go_ret
    exact ⟨ret_numZ (by rw [← RES.out, if_pos (by omega)]), (Below.refl _ _).alloc (Nat.le_refl _) _⟩
  · rw [if_neg hn]
    have g1 : 0 ≤ left - (n : Int) := by omega
    have g2 : left - (n : Int) ≤ 1048576 := by omega
    go_wp2_with fail
    refine (szI_any _ _ _ _ _ h2 g1 g2).mono ?_
    rintro e wz ⟨rfl, hwz⟩
    subst hwz
    by_cases hk : left - (n : Int) < (k : Int)
    · rw [if_pos hk]
      go_wp2
      go_ret
      exact ⟨ret_numZ (by rw [← RES.out, if_pos (by omega)]), (Below.refl _ _).alloc (Nat.le_refl _) _⟩
    · rw [if_neg hk]
      have g3 : 0 ≤ left - (n : Int) - (k : Int) := by omega
      go_wp2
      go_ret
      exact ⟨ret_numZ (by rw [← RES.out, if_neg (by omega)]; omega), (Below.refl _ _).alloc (Nat.le_refl _) _⟩

end Go.Proofs.YtlnbkhfjbpnbfaaDoor
