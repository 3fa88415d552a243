/- DERIVED. CONTRACT of the program's timingOf: the table that the links and the shortest modes determine. -/
import Derived.Test.YtoggakfkpeloiaaGreatDsTab
import Derived.Test.YtoggakfkpeloiaaGreatDsMod
import Derived.Test.YtoggakfkpeloiaaGreatLkPj
import Derived.Test.YtoggakfkpeloiaaGreatLkPi
import Derived.Test.YtoggakfkpeloiaaGreatLkGg
import Derived.Laws.ResultCell
namespace Go.Proofs.YtoggakfkpeloiaaGreat
open Go.RowKit Go.Shelf
set_option linter.unusedVariables false

def zT : Tb := fun _ _ => 0
def zD : Nat → Int := fun _ => 0
/-- The first k rows made ready. -/
def iniT (n k : Nat) : Tb := fun a b => if a < k then tb0 n a b else 0
/-- And j places of the next. -/
def iniJ (n k j : Nat) : Tb := fun a b => if a < k then tb0 n a b else if a = k ∧ b < j then -1000 else 0
theorem ini_zero (n : Nat) : iniT n 0 = zT := by funext a b; simp [iniT, zT]
theorem iniJ_zero (n k : Nat) : iniJ n k 0 = iniT n k := by funext a b; simp [iniT, iniJ]
theorem iniJ_next (n k j : Nat) : upT (iniJ n k j) k j (-1000) = iniJ n k (j + 1) := by
  funext a b
  unfold upT iniJ
  by_cases h1 : a = k ∧ b = j
  · rw [if_pos h1, if_neg (by omega), if_pos (by omega)]
  · rw [if_neg h1]
    by_cases h2 : a < k
    · rw [if_pos h2, if_pos h2]
    · rw [if_neg h2, if_neg h2]
      by_cases h3 : a = k ∧ b < j
      · rw [if_pos h3, if_pos (by omega)]
      · rw [if_neg h3, if_neg (by omega)]
theorem iniT_next {n k : Nat} (hk : k < n) : upT (iniJ n k n) k k 0 = iniT n (k + 1) := by
  funext a b
  unfold upT iniJ iniT tb0
  by_cases h1 : a = k ∧ b = k
  · rw [if_pos h1, if_pos (by omega), if_pos (by omega), if_pos (by omega)]
  · rw [if_neg h1]
    by_cases h2 : a < k
    · rw [if_pos h2, if_pos (show a < k + 1 by omega)]
    · rw [if_neg h2]
      by_cases h3 : a = k ∧ b < n
      · rw [if_pos h3, if_pos (show a < k + 1 by omega), if_pos (by omega), if_neg (by omega)]
      · rw [if_neg h3]
        by_cases h4 : a < k + 1
        · rw [if_pos h4, if_neg (by omega)]
        · rw [if_neg h4]
theorem iniT_full (n : Nat) : iniT n n = tb0 n := by
  funext a b
  unfold iniT tb0
  by_cases h : a < n
  · rw [if_pos h]
  · rw [if_neg h, if_neg (by omega)]
noncomputable def durK (p : Pj) (k : Nat) : Nat → Int := fun i => if i < k then shortA p i else 0
theorem durK_zero (p : Pj) : durK p 0 = zD := by funext i; simp [durK, zD]
theorem durK_next (p : Pj) (k : Nat) : upD (durK p k) k (shortA p k) = durK p (k + 1) := by
  funext i
  unfold upD durK
  by_cases h : i = k
  · subst h; rw [if_pos rfl, if_pos (by omega)]
  · rw [if_neg h]
    by_cases h2 : i < k
    · rw [if_pos h2, if_pos (by omega)]
    · rw [if_neg h2, if_neg (by omega)]
theorem durK_full (p : Pj) : durK p p.acts.length = shortA p := by
  funext i
  unfold durK
  by_cases h : i < p.acts.length
  · rw [if_pos h]
  · rw [if_neg h, shortA, if_neg h]
theorem results_tim {fn : Func} {p u : Tmp} (h : fn.results = #[.cell p 59, .tmp u]) (tmps : Array Value) (w : World) (g n : Nat) (T : Tb) (d : Nat → Int) (hp : tmps.getD p undef = .pointer (some ⟨g, 0, none⟩)) (hb : Bk w g 59 ⟨timC n T d⟩) :
    (results fn tmps).run Tryz.prog w = .ok (.tuple #[.agg ⟨timC n T d⟩, tmps.getD u undef]) w := by
  rw [results_cell_tmp h, hp]
  simp [asAddr, Result.andThen, run_loadVar_mid w g 0 59 (timC n T d) _ (bk_range hb) Tryz.underlying59 rfl (timC_info n T d)]
theorem wr_cell {F : List Nat} {a b : World} (h : Wr F a b) {p : Addr} (hp : p.block < a.heap.size) (hn : p.block ∉ F) : b.cell? p = a.cell? p := World.cell?_of_block (w := a) (h.block p.block hp hn)

end Go.Proofs.YtoggakfkpeloiaaGreat
