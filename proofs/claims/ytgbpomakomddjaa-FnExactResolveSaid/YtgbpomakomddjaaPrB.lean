/- DERIVED. CONTRACTS: ActivityIndex, of the model and of the program; what makes a project valid. -/
import Derived.Test.YtgbpomakomddjaaPrA
import Derived.Test.YtgbpomakomddjaaHofP
import Derived.Test.YtgbpomakomddjaaTPj
import Derived.Test.YtgbpomakomddjaaActB
namespace Go.Proofs.Ytgbpomakomddjaa
open Go.RowKit Go.Shelf
set_option linter.unusedVariables false

/-- The place of a name, or -1. -/
def plcB (al : List Ac) (s : ByteArray) : Int := ixB (fun a => decide (a.nm = s)) al
/-- Each activity is the first of its name. -/
def ownB (al : List Ac) : Bool := decide (∀ j, (h : j < al.length) → plcB al al[j].nm = (j : Int))
theorem ownB_no {al : List Ac} {j : Nat} (h : j < al.length) (hn : ¬ plcB al al[j].nm = (j : Int)) : ownB al = false := decide_eq_false fun H => hn (H j h)
theorem ownB_yes {al : List Ac} (H : ∀ j, (h : j < al.length) → plcB al al[j].nm = (j : Int)) : ownB al = true := decide_eq_true H
theorem step_all' {al : List Ac} {k : Nat} (hlt : k < al.length) (hall : ∀ j, (hj : j < al.length) → j < k → plcB al al[j].nm = (j : Int)) (h : plcB al al[k].nm = (k : Int)) : ∀ j, (hj : j < al.length) → j < k + 1 → plcB al al[j].nm = (j : Int) := fun j hj hjk => by
  by_cases e : j = k
  · subst e; exact h
  · exact hall j hj (by omega)
def lokB (n : Nat) (l : Lk) : Bool := inB l.fr 0 ((n : Int) - 1) && (inB l.to 0 ((n : Int) - 1) && (!(decide (l.fr = l.to)) && inB l.lag (-60) 60))
/-- A valid project. -/
noncomputable def pokB (p : Pj) : Bool :=
  inB p.dl 1 60 && (inB (p.acts.length : Int) 1 6 && (decide ((p.ress.length : Int) ≤ 3) && (decide ((p.stk.length : Int) ≤ 2) && (decide ((p.lks.length : Int) ≤ 12) &&
    (p.acts.all (fun a => aokB a p.ress.length p.stk.length) && (ownB p.acts && (p.ress.all rokB && (p.stk.all (fun n => inB n 0 100) && p.lks.all (lokB p.acts.length)))))))))

theorem isBelow_any (n k : Int) (w : World) :
    Calls Try.prog 29 #[.int .i64 n, .int .i64 k] w fun e w' => e = .returned (.bool (inB n 0 (k - 1))) ∧ w = w' := by
  by_cases h : 0 ≤ n
  · by_cases h2 : n < k
    all_goals
      go_enter Try.func29, Try.ntmps29
      go_wp2
      go_ret
      exact ⟨by simp [inB] <;> omega, rfl⟩
  · go_enter Try.func29, Try.ntmps29
    go_wp2
    go_ret
    exact ⟨by simp [inB] <;> omega, rfl⟩

end Go.Proofs.Ytgbpomakomddjaa
