/- DERIVED. CONTRACTS: spec.SetAdd, spec.SetUnion, spec.IntRange, impl.IntRange. -/
import Derived.Test.YtgbpomakomddjabGreatDoorMaths
import Derived.Test.YtgbpomakomddjabGreatDoorDats

section
namespace Go.Proofs.YtgbpomakomddjabGreatDoor
open Go.RowKit

/-- What a slice of ints that reads as xs gives at each place. -/
theorem has_yes {xs : List Int} {k : Nat} {x : Int} (h : k < xs.length) (he : xs[k] = x) : hasB xs x = true := by
  unfold hasB
  rw [List.contains_iff_mem]; exact he ▸ List.getElem_mem h
theorem has_no {xs : List Int} {k : Nat} {x : Int} (hk : ¬ k < xs.length) (h : ∀ j, (hj : j < xs.length) → j < k → xs[j] ≠ x) : hasB xs x = false := by
  unfold hasB
  rw [← Bool.not_eq_true, List.contains_iff_mem]
  intro hm
  obtain ⟨j, hj, he⟩ := List.getElem_of_mem hm
  exact h j hj (by omega) he
theorem sub_no {xs ys : List Int} {k : Nat} (h : k < xs.length) (he : hasB ys xs[k] = false) : subB xs ys = false := by
  rw [← Bool.not_eq_true]
  intro hs
  have := List.all_eq_true.1 hs _ (List.getElem_mem h)
  change hasB ys xs[k] = true at this
  rw [he] at this; cases this
theorem sub_yes {xs ys : List Int} {k : Nat} (hk : ¬ k < xs.length) (h : ∀ j, (hj : j < xs.length) → j < k → hasB ys xs[j] = true) : subB xs ys = true := by
  unfold subB
  rw [List.all_eq_true]
  intro x hx
  obtain ⟨j, hj, rfl⟩ := List.getElem_of_mem hx
  exact h j hj (by omega)

theorem eq_no {xs ys : List Int} {k : Nat} (h : k < xs.length) (h2 : k < ys.length) (he : xs[k] ≠ ys[k]) : eqB xs ys = false := by
  unfold eqB
  rw [decide_eq_false_iff_not]; rintro rfl; exact he rfl

theorem ascB_badk {l : List Int} {j k : Nat} (h : j < l.length) (h0 : 0 < j) (hk : k = j - 1) (hb : l[j] ≤ l[k]'(by omega)) : ascB l = false := by
  subst hk; exact ascB_bad h h0 hb

end Go.Proofs.YtgbpomakomddjabGreatDoor
end

section
namespace Go.Proofs.YtgbpomakomddjabGreatDoor
open Go.RowKit

end Go.Proofs.YtgbpomakomddjabGreatDoor
end

section
namespace Go.Proofs.YtgbpomakomddjabGreatDoor
open Go.RowKit

theorem map_snocC (l : List Int) (x : Int) : (l ++ [x]).map (Value.int .i64) = l.map (Value.int .i64) ++ [.int .i64 x] := by simp
theorem rd_sub {w : World} {base g cap : Nat} {xs : List Int} (ho : w.ownsRow base 3 1 (.slice (some ⟨g, 0, none⟩) xs.length cap) xs.length (xs.map (.int .i64))) (hl : xs.length ≤ 1099511627776) (i j : Nat) (hij : i ≤ j) (hj : j ≤ xs.length) (n c : Nat) (hn : n = j - i) :
    Rd w (.slice (some ⟨g, i, none⟩) n c) (((xs.take j).drop i).map (.int .i64)) := by
  subst hn
  have hlen : (((xs.take j).drop i).map (Value.int .i64)).length = j - i := by simp; omega
  refine ⟨by rw [hlen]; unfold maxLen; omega, _, c, by rw [hlen], ?_⟩
  refine .inr ⟨g, i, rfl, (ho.lt g rfl).2, fun q hq => ?_⟩
  have hq' : q < j - i := by rw [← hlen]; exact hq
  rw [ho.cellAt (i + q) (by omega)]
  have h1 : i + q < xs.length := by omega
  simp [List.getElem?_eq_getElem h1]
theorem below_pre {xs : List Int} {k : Nat} {x : Int} (hk : k ≤ xs.length) (h : ∀ j, (hj : j < xs.length) → j < k → xs[j] < x) (h2 : k < xs.length → ∀ h : k < xs.length, ¬ xs[k] < x) : kB xs x = k :=
  kB_eq xs x k hk h (fun h => h2 h h)

theorem fold_step {xs : List Int} {k : Nat} (h : k < xs.length) : setB (xs.take (k + 1)) = putB (setB (xs.take k)) xs[k] := by
  rw [List.take_succ_eq_append_getElem h, setB_snoc]
theorem setB_take_len (xs : List Int) (k : Nat) : (setB (xs.take k)).length ≤ xs.length := Nat.le_trans (len_setB _) (by simp; omega)

end Go.Proofs.YtgbpomakomddjabGreatDoor
end

section
namespace Go.Proofs.YtgbpomakomddjabGreatDoor
open Go.RowKit

def upB (n : Nat) : List Int := (List.range n).map fun (i : Nat) => (i : Int)
theorem upB_succ (k : Nat) : upB (k + 1) = upB k ++ [(k : Int)] := by simp [upB, List.range_succ]
theorem upB_len (k : Nat) : (upB k).length = k := by simp [upB]
def rangeB (n : Int) : List Int := if 0 ≤ n ∧ n ≤ 200 then upB n.toNat else []

def upI (i : Nat) : Value := .int .i64 i
theorem upI_all (m : Nat) : (List.range m).map upI = (upB m).map (.int .i64) := by simp [upB, upI]

end Go.Proofs.YtgbpomakomddjabGreatDoor
end
