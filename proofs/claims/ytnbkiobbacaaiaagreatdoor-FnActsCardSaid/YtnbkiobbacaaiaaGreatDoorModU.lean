/- DERIVED. CONTRACTS of the laws' helpers over activities: toActivity, eqModeS, eqActivity. -/
import Derived.Test.YtnbkiobbacaaiaaGreatDoorModT
namespace Go.Proofs.YtnbkiobbacaaiaaGreatDoor
open Go.RowKit

theorem ms_pre {xs ys : List Md} {k : Nat} (hl : xs.length = ys.length) (hk : ¬ k < xs.length) (h : ∀ j, (h1 : j < xs.length) → (h2 : j < ys.length) → j < k → xs[j] = ys[j]) : xs = ys :=
  List.ext_getElem hl fun j h1 h2 => h j h1 h2 (by omega)

theorem dec_ac (a b : Ac) : decide (a = b) = (decide (a.nm = b.nm) && (decide (a.fa = b.fa) && decide (a.ms = b.ms))) := by
  rw [Bool.eq_iff_iff]
  simp [ac_ext]

end Go.Proofs.YtnbkiobbacaaiaaGreatDoor
