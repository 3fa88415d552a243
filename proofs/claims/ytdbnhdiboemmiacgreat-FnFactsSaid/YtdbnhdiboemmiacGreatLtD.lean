/- DERIVED. CONTRACTS: spec.l11Draw and spec.MakeLit: a literal drawn. -/
import Derived.Test.YtdbnhdiboemmiacGreatScLt
import Derived.Test.YtdbnhdiboemmiacGreatRuDr
import Derived.Test.YtdbnhdiboemmiacGreatMkP
namespace Go.Proofs.YtdbnhdiboemmiacGreat
open Go.RowKit Go.Shelf
set_option linter.unusedVariables false

/-- A drawn literal: of an activity that there is; about a time below 10, or about one of its modes. -/
structure DrLt (p : Pj) (l : Lt) : Prop where
  ki : 1 ≤ l.ki ∧ l.ki ≤ 4
  ac : ∃ n : Nat, ∃ hn : n < p.acts.length, l.ac = (n : Int) ∧ ((l.ki ≤ 2 ∧ 0 ≤ l.va ∧ l.va < 10) ∨ (3 ≤ l.ki ∧ 0 ≤ l.va ∧ l.va < (p.acts[n].ms.length : Int)))
theorem drLt_ok {p : Pj} {l : Lt} (hp : pokB p = true) (h : DrLt p l) : litOkB p l = true := by
  obtain ⟨n, hn, e, hv⟩ := h.ac
  have hk := h.ki
  rw [lit_at hp hn e]
  unfold ltVal
  rcases hv with ⟨h2, h3, h4⟩ | ⟨h2, h3, h4⟩
  · rw [inB_yes (n := l.va) (lo := -1) (hi := 61) (by omega)]
    by_cases h1 : l.ki = 1
    · rw [if_pos h1]
    · rw [if_neg h1, if_pos (by omega)]
  · rw [if_neg (by omega), if_neg (by omega), inB_yes (n := l.va) (lo := 0) (by omega)]
    by_cases h1 : l.ki = 3
    · rw [if_pos h1]
    · rw [if_neg h1, if_pos (by omega)]
end Go.Proofs.YtdbnhdiboemmiacGreat
