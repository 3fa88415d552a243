/- DERIVED. A slice of ints that reads as a list; small steps of loops. -/
import Derived.Test.YtfgmbgdbnjpclaaIntS
namespace Go.Proofs.Ytfgmbgdbnjpclaa
open Go.RowKit

theorem rdI {w : World} {v : Value} {xs : List Int} (h : Rd w v (xs.map (.int .i64))) :
    xs.length ≤ maxLen ∧ ∃ A c, v = .slice A xs.length c ∧ ∀ k, k < xs.length → ∃ b o, A = some ⟨b, o, none⟩ ∧ b < w.heap.size ∧ ∀ j, (h : j < xs.length) → w.cell? ⟨b, o + j, none⟩ = some (.int .i64 xs[j]) := by
  obtain ⟨hl, A, c, rfl, h⟩ := h
  simp only [List.length_map] at *
  refine ⟨hl, A, c, rfl, fun k hk => ?_⟩
  rcases h with h | ⟨b, o, rfl, hb, hc⟩
  · have : xs = [] := by simpa using h
    subst this
    exact absurd hk (by simp)
  · exact ⟨b, o, rfl, hb, fun j hj => by simpa using hc j hj⟩

theorem ret_b {b c : Bool} (h : c = b) : Ending.returned (.bool b) = Ending.returned (.bool c) := by rw [h]
theorem all_succ {xs : List Int} {k : Nat} {p : Int → Prop} (hlt : k < xs.length) (hall : ∀ j, (h : j < xs.length) → j < k → p xs[j]) (hp : p xs[k]) : ∀ j, (h : j < xs.length) → j < k + 1 → p xs[j] := fun j hj hjk => by
  by_cases e : j = k
  · subst e; exact hp
  · exact hall j hj (by omega)

end Go.Proofs.Ytfgmbgdbnjpclaa
