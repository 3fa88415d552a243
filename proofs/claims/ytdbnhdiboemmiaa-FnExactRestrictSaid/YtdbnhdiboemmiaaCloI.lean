/- DERIVED. CONTRACT: slices.Clone at ints, of whatever slice. -/
import Derived.Test.YtdbnhdiboemmiaaDats
import Derived.Test.YtdbnhdiboemmiaaShelf
import Derived.Test.YtdbnhdiboemmiaaCore
namespace Go.Proofs.Ytdbnhdiboemmiaa
open Go.RowKit Go.Shelf
set_option linter.unusedVariables false

theorem cloneI_any (xs : List Int) (v : Value) (w : World) (hr : Rd w v (xs.map (.int .i64))) (hlen : xs.length ≤ 1073741823) :
    Calls Try.prog 108 #[v] w fun e w' => ∃ v', e = .returned v' ∧ w'.ownsRow w.heap.size 3 1 v' xs.length (xs.map (.int .i64)) ∧ Below w.heap.size w w' := by
  obtain ⟨hl, A, c, rfl, HR⟩ := rdI hr
  by_cases h0 : xs.length = 0
  · have hz : xs = [] := List.eq_nil_of_length_eq_zero h0
    subst hz
    cases A with
    | none =>
      refine (Try.slices_Clone_int_nil 0 c w).mono ?_
      rintro e w1 ⟨rfl, rfl⟩
      exact ⟨_, rfl, World.ownsRow_nil _ _ _ _, Below.refl _ _⟩
    | some a =>
      refine (Try.slices_Clone_int_zero a c w).mono ?_
      rintro e w1 ⟨v1, rfl, o, _, b⟩
      exact ⟨_, rfl, o, b⟩
  · obtain ⟨b, o, rfl, hb, hc⟩ := HR 0 (by omega)
    refine (Try.slices_Clone_int b o xs.length c xs w (Nat.le_refl _) (by omega) (fun j hj => ?_)).mono ?_
    · rw [hc j hj, List.getD, List.getElem?_eq_getElem hj]; rfl
    rintro e w1 ⟨v1, rfl, o1, _, b1⟩
    rw [List.take_length] at o1
    exact ⟨_, rfl, o1, b1⟩
end Go.Proofs.Ytdbnhdiboemmiaa
