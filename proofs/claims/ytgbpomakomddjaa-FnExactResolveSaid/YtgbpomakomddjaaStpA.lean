/- DERIVED. CONTRACTS: impl.StepsOk, spec.StepsOk, impl.isTime. -/
import Derived.Test.YtgbpomakomddjaaChecked
import Derived.Test.YtgbpomakomddjaaCore
import Derived.Test.YtgbpomakomddjaaMaths
import Derived.Test.YtgbpomakomddjaaDats
import Derived.WalkKit
import Derived.Lib.Hide
import Derived.OwnWalk
import Derived.BigQuiet
import Derived.Deep.QuietTactic
import Derived.Outline
import Derived.Deep.RegionWith
namespace Go.Proofs.Ytgbpomakomddjaa
open Go.RowKit

theorem ret_boolS {a b : Bool} (h : a = b) : Ending.returned (.bool a) = .returned (.bool b) := by rw [h]
theorem getD_at {xs : List Pr} {j : Nat} (h : j < xs.length) : xs.getD j (0, 0) = xs[j] := by simp [List.getD, List.getElem?_eq_getElem h]
theorem okS_bad {xs : List Pr} {j : Nat} (hj : j < xs.length) (h : ¬ goodP xs j) : okP xs = false := okP_no fun hk => h (hk.2.2.2 j hj)

theorem quiet_left {P : Program} {f : FuncId} {args : Array Value} {w : World} {n : Nat} {v : Value}
    (h : Calls P f args (w.drewN n) fun e w' => e = .returned v ∧ w.drewN n = w') : Calls P f args (w.drewN n) fun e w' => e = .returned v ∧ ∃ m, w' = w.drewN m :=
  h.mono fun _ _ ⟨he, hw⟩ => ⟨he, n, hw.symm⟩
theorem quiet_add_left {P : Program} {f : FuncId} {args : Array Value} {w : World} {a n : Nat} {v : Value}
    (h : Calls P f args (w.drewN (a + n)) fun e w' => e = .returned v ∧ w.drewN (a + n) = w') :
    Calls P f args (w.drewN (a + n)) fun e w'' => e = .returned v ∧ ∃ m, w'' = w.drewN (a + m) :=
  h.mono fun _ _ ⟨he, hm⟩ => ⟨he, n, hm.symm⟩
theorem in_any (n lo hi : Int) (w : World) :
    Calls Try.prog 52 #[.int .i64 n, .int .i64 lo, .int .i64 hi] w fun e w' => e = .returned (.bool (inB n lo hi)) ∧ w = w' := l01In_any n lo hi w

end Go.Proofs.Ytgbpomakomddjaa
