/- DERIVED. CONTRACT: the program's elementAt at ints. -/
import Derived.Test.YtgbpomakomddjaaActA
import Derived.Test.YtgbpomakomddjaaMaths
import Derived.Test.YtgbpomakomddjaaDats
namespace Go.Proofs.Ytgbpomakomddjaa
open Go.RowKit

/-- A value and whether there is one, as the program returns it. -/
def optI : Option Int → Value
  | some x => .tuple #[.int .i64 x, .bool true]
  | none => .tuple #[.int .i64 0, .bool false]

set_option maxRecDepth 100000 in
theorem elemI_any (l : List Int) (i : Int) (v : Value) (w : World) (hr : Rd w v (l.map (.int .i64))) :
    Calls Try.prog 54 #[v, .int .i64 i] w fun e w' => e = .returned (optI (amtB l i)) ∧ w = w' := by
  obtain ⟨hl, A, c, rfl, ha⟩ := rdI hr
  unfold maxLen at hl
  clear hr
  have HA := Lib.hid ha
  clear ha
  by_cases h0 : i < 0
  · rw [amt_no (by omega)]
    go_enter Try.func54, Try.ntmps54
    go_wp2
    go_ret2
    exact ⟨rfl, rfl⟩
  by_cases h1 : (l.length : Int) ≤ i
  · rw [amt_no (by omega)]
    go_enter Try.func54, Try.ntmps54
    go_wp2
    go_ret2
    exact ⟨rfl, rfl⟩
  obtain ⟨n, rfl⟩ : ∃ n : Nat, i = (n : Int) := ⟨i.toNat, by omega⟩
  have hn : n < l.length := by omega
  obtain ⟨b, o, rfl, hb, hc⟩ := HA.out n hn
  have hx := hc n hn
  clear hc
  rw [amt_yes hn]
  generalize l[n] = x at hx
  go_enter Try.func54, Try.ntmps54
  go_wp2
  go_ret2
  exact ⟨rfl, rfl⟩

end Go.Proofs.Ytgbpomakomddjaa
