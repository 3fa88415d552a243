/- DERIVED. The walk of the law FnExactIsName, by contracts. -/
import Derived.Test.YtllbhbilgmjbjaaName
namespace Go.Proofs.Ytllbhbilgmjbjaa
open Go.RowKit
set_option maxHeartbeats 400000 in
theorem walkFnExactIsName (s : ByteArray) (w : World) (hs : s.size ≤ maxLen) :
    Calls Try.prog 3 #[.string s] w fun e w' => e = .returned (.bool true) ∧ Below w.heap.size w w' := by
  have hs' := hs
  unfold maxLen at hs'
  by_cases hbig : (1048576 : Int) < s.size
  · go_enter Try.func3, Try.ntmps3
    go_wp2
    go_ret
    exact ⟨rfl, Below.refl _ _⟩
  · go_enter Try.func3, Try.ntmps3
    go_wp2_with (first | (go_at_call 7; refine (specIsName_any _ _ hs).mono ?_; rintro e w' ⟨rfl, rfl⟩) | (go_at_call 8; refine (implIsName_any _ _ hs).mono ?_; rintro e w' ⟨rfl, hbel⟩))
    go_ret
    exact ⟨rfl, hbel⟩
end Go.Proofs.Ytllbhbilgmjbjaa
