/- DERIVED. CONTRACT: impl.Join. -/
import Derived.Test.YtjbpkflladkdnaaDoorJoin
namespace Go.Proofs.YtjbpkflladkdnaaDoor
open Go.RowKit

set_option maxHeartbeats 400000 in
theorem implJoin_any (xs : List ByteArray) (b : ByteArray) (v : Value) (w : World) (hr : Rd w v (xs.map .string)) (ht : tot xs ≤ 1073741824) (hl : xs.length ≤ 1048576) (hb : b.size ≤ 1048576) :
    Calls Tryd.prog 11 #[v, .string b] w fun e w' => e = .returned (.string (joinB xs b)) ∧ Below w.heap.size w w' := by
  have HR := Lib.hid hr
  have HT := Lib.hid ht
  clear hr ht
  go_enter Tryd.func11, Tryd.ntmps11
  go_wp2_with (go_at_call 22; refine (joinAll_any xs b v _ HR.out HT.out hl hb).mono ?_; rintro e w' ⟨rfl, hbel⟩)
  go_ret
  exact ⟨rfl, hbel⟩
end Go.Proofs.YtjbpkflladkdnaaDoor
