/- DERIVED. CONTRACTS: spec.FormatInt, impl.FormatInt. -/
import Derived.Test.YtnbkiobbacaaiaaGreatDoorChecked
import Derived.Test.YtnbkiobbacaaiaaGreatDoorCore
import Derived.Test.YtnbkiobbacaaiaaGreatDoorDats
import Derived.Test.YtnbkiobbacaaiaaGreatDoorTxtMaths
import Derived.Test.YtnbkiobbacaaiaaGreatDoorShelf
import Derived.WalkKit
import Derived.Lib.Hide
import Derived.Lib.SmallJoins
import Derived.Lib.AppendIntMem
import Derived.Outline
namespace Go.Proofs.YtnbkiobbacaaiaaGreatDoor
open Go.RowKit

/-- The library's table of the powers of ten holds what it holds behind start-up. -/
def TB (w : World) : Prop := Lib.TabIs Tryz.prog w "internal/strconv.uint64pow10" .u64 Lib.pow10Tab
theorem gPow : Tryz.prog.globalNamed "internal/strconv.uint64pow10" = some 1 := by kernel_rfl
theorem TB.below {w w' : World} {B : Nat} (h : TB w) (hb : Below B w w') (hB : w.heap.size ≤ B) : TB w' := Joins.tab_stays gPow h hb hB

theorem itoa_any (n : Int) (w : World) (h0 : -9223372036854775808 ≤ n) (h1 : n ≤ 9223372036854775807) (ht : TB w) :
    Calls Tryz.prog 63 #[.int .i64 n] w fun e w' => e = .returned (.string ⟨(Lib.itoa n).toArray⟩) ∧ Below w.heap.size w w' :=
  (Tryz.strconv_Itoa n h0 h1 w ht).mono fun e w' ⟨he, k, os, hw⟩ => ⟨he, by rw [hw]; exact Lib.below_grow _ w (Nat.le_refl _) k os⟩

set_option maxHeartbeats 400000 in
theorem implFmt_any (n : Int) (w : World) (h0 : -9223372036854775808 ≤ n) (h1 : n ≤ 9223372036854775807) (ht : TB w) :
    Calls Tryz.prog 34 #[.int .i64 n] w fun e w' => e = .returned (.string (fmtB n)) ∧ Below w.heap.size w w' := by
  have HT := Lib.hid ht
  clear ht
  by_cases ha : n < -100000
  · have HF := Lib.hid (fmtB_out (n := n) (.inl ha))
    go_enter Tryz.func34, Tryz.ntmps34
    go_wp2
    go_ret
    exact ⟨by rw [HF.out]; rfl, Below.refl _ _⟩
  by_cases hb : (100000 : Int) < n
  · have HF := Lib.hid (fmtB_out (n := n) (.inr hb))
    go_enter Tryz.func34, Tryz.ntmps34
    go_wp2
    go_ret
    exact ⟨by rw [HF.out]; rfl, Below.refl _ _⟩
  have HF := Lib.hid (fmtB_in (n := n) (by omega) (by omega))
  go_enter Tryz.func34, Tryz.ntmps34
  go_wp2_with (go_at_call 63; refine (itoa_any _ _ h0 h1 HT.out).mono ?_; rintro e w' ⟨rfl, hbel⟩)
  go_ret
  exact ⟨by rw [HF.out]; rfl, hbel⟩

end Go.Proofs.YtnbkiobbacaaiaaGreatDoor
