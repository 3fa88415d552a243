/- DERIVED. CONTRACTS: elementAt at strings; a new row of strings. -/
import Derived.Test.YtgbpomakomddjaaCore
import Derived.Test.YtgbpomakomddjaaDats
import Derived.Test.YtgbpomakomddjaaMaths
namespace Go.Proofs.Ytgbpomakomddjaa
open Go.RowKit
set_option linter.unusedVariables false

theorem ret_strZ {a b : ByteArray} (h : a = b) : Ending.returned (.string a) = Ending.returned (.string b) := by rw [h]

theorem newRow_any (w : World) (T : TypeId) (l : List ByteArray) (hl : l.length ≤ maxLen) : Rd (w.alloc (.cells ⟨l.map .string⟩ T)) (.slice (some ⟨w.heap.size, 0, none⟩) l.length l.length) (l.map .string) :=
  ⟨by simpa using hl, _, _, by rw [List.length_map], .inr ⟨w.heap.size, 0, rfl, by simp, fun j hj => by
    rw [World.cell?_alloc_at _ _ _ _ rfl]
    have hj' : j < l.length := by simpa using hj
    simp [hj']⟩⟩
theorem newI_any (w : World) (T : TypeId) (l : List Int) (hl : l.length ≤ maxLen) : Rd (w.alloc (.cells ⟨l.map (.int .i64)⟩ T)) (.slice (some ⟨w.heap.size, 0, none⟩) l.length l.length) (l.map (.int .i64)) :=
  ⟨by simpa using hl, _, _, by rw [List.length_map], .inr ⟨w.heap.size, 0, rfl, by simp, fun j hj => by
    rw [World.cell?_alloc_at _ _ _ _ rfl]
    have hj' : j < l.length := by simpa using hj
    simp [hj']⟩⟩
end Go.Proofs.Ytgbpomakomddjaa
