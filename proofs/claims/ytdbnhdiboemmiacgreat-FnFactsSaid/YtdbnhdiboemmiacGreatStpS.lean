/- DERIVED. CONTRACTS of the laws' helpers over slices of capacity steps: szStepS, toStep(S), eqStep(S), markStepS, heldStepS. -/
import Derived.Test.YtdbnhdiboemmiacGreatChecked
import Derived.Test.YtdbnhdiboemmiacGreatCore
import Derived.WalkKit
import Derived.Lib.Hide
import Derived.OwnWalk
import Derived.BigQuiet
import Derived.Deep.RegionWith
import Derived.Deep.QuietTactic
import Derived.Outline
namespace Go.Proofs.YtdbnhdiboemmiacGreat
open Go.RowKit

theorem eqP_pre {xs ys : List (Int × Int)} {k : Nat} (hl : xs.length = ys.length) (hk : ¬ k < xs.length) (h : ∀ j, (h1 : j < xs.length) → (h2 : j < ys.length) → j < k → xs[j] = ys[j]) : xs = ys :=
  List.ext_getElem hl fun j h1 h2 => h j h1 h2 (by omega)

def mkP (k : Nat) (i : Nat) : Int × Int := ((k + 2 * i : Nat), (k + 2 * i + 1 : Nat))
def marksP (k n : Nat) : List (Int × Int) := (List.range n).map (mkP k)
theorem marksP_len (k n : Nat) : (marksP k n).length = n := by simp [marksP]

/-- The first j pairs marked, the rest as before; 'mixP' one cell at a time is the same list with the j-th pair half marked. -/
def mixP (mk : Nat → Int × Int) (xs : List (Int × Int)) (j : Nat) : List (Int × Int) := (List.range j).map mk ++ xs.drop j
theorem mixP_zero (mk : Nat → Int × Int) (xs : List (Int × Int)) : mixP mk xs 0 = xs := by simp [mixP]
theorem mixP_full (mk : Nat → Int × Int) (xs : List (Int × Int)) {n : Nat} (h : xs.length = n) : mixP mk xs n = (List.range n).map mk := by simp [mixP, ← h]
theorem mixP_len (mk : Nat → Int × Int) (xs : List (Int × Int)) {j : Nat} (h : j ≤ xs.length) : (mixP mk xs j).length = xs.length := by simp [mixP]; omega
theorem mixP_set (mk : Nat → Int × Int) (xs : List (Int × Int)) {j : Nat} (h : j < xs.length) : (mixP mk xs j).set j (mk j) = mixP mk xs (j + 1) := by
  unfold mixP
  have e : (List.drop j xs).set 0 (mk j) = mk j :: List.drop (j + 1) xs := by rw [List.drop_eq_getElem_cons h]; rfl
  rw [List.set_append_right _ _ (by simp)]
  simp [List.range_succ, e]
/-- Both cells of the j-th pair written. -/
theorem cellsP_put (xs : List (Int × Int)) (j : Nat) (h : j < xs.length) (a b : Int) : ((cellsP xs).set (j * 2) (.int .i64 a)).set (j * 2 + 1) (.int .i64 b) = cellsP (xs.set j (a, b)) := by
  rw [cellsP_set0 xs j h, cellsP_set1 _ j (by simpa using h)]
  simp

theorem marksP_0 (k n j : Nat) (h : j < n) : (marksP k n)[j]'(by rw [marksP_len]; exact h) = mkP k j := by simp [marksP]

theorem infoStep : (Tryz.prog.info? 100).map (fun i => (i.zero, i.size, i.bytes)) = some (some (.agg #[.int .i64 0, .int .i64 0]), 2, 16) := by kernel_rfl
def elP (xs : List (Int × Int)) (i : Nat) : Int × Int := xs.getD i (0, 0)
theorem elP_all (xs : List (Int × Int)) : (List.range xs.length).map (elP xs) = xs := by
  apply List.ext_getElem
  · simp
  · intro i h1 h2
    simp [elP] at h1 ⊢
    rw [List.getElem?_eq_getElem h2]; rfl

/-- The first j pairs written, the rest as made. -/
def mixPC (xs : List (Int × Int)) (ms : List Value) (j : Nat) : List Value := cellsP (xs.take j) ++ ms.drop (j * 2)
theorem mixPC_zero (xs : List (Int × Int)) (ms : List Value) : mixPC xs ms 0 = ms := by simp [mixPC, cellsP]
theorem mixPC_full (xs : List (Int × Int)) (ms : List Value) (h : ms.length = xs.length * 2) : mixPC xs ms xs.length = cellsP xs := by simp [mixPC, ← h]
theorem mixPC_len (xs : List (Int × Int)) (ms : List Value) (j : Nat) (hj : j ≤ xs.length) (h : ms.length = xs.length * 2) : (mixPC xs ms j).length = xs.length * 2 := by
  simp [mixPC, cellsP_len]; omega
theorem mixPC_set (xs : List (Int × Int)) (ms : List Value) (j : Nat) (hj : j < xs.length) (h : ms.length = xs.length * 2) :
    ((mixPC xs ms j).set (j * 2) (.int .i64 xs[j].1)).set (j * 2 + 1) (.int .i64 xs[j].2) = mixPC xs ms (j + 1) := by
  unfold mixPC
  have hl : (cellsP (xs.take j)).length = j * 2 := by rw [cellsP_len]; simp; omega
  rw [List.set_append_right _ _ (by omega), List.set_append_right _ _ (by omega), hl, Nat.sub_self, show j * 2 + 1 - j * 2 = 1 from by omega]
  rw [List.take_succ_eq_append_getElem hj, cellsP_app]
  have e1 : ms.drop (j * 2) = ms[j * 2] :: ms[j * 2 + 1] :: ms.drop ((j + 1) * 2) := by
    rw [List.drop_eq_getElem_cons (by omega), List.drop_eq_getElem_cons (by omega), show (j + 1) * 2 = j * 2 + 1 + 1 from by omega]
  rw [e1]
  simp [cellsP]

end Go.Proofs.YtdbnhdiboemmiacGreat
