/- DERIVED. Function values that test elements; lists tested, searched, held against each other. -/
import Derived.Test.YtgbpomakomddjabGreatDoorDats
import Derived.Test.YtgbpomakomddjabGreatDoorActA
namespace Go.Proofs.YtgbpomakomddjabGreatDoor
open Go.RowKit

def trOne (n : Int) : Tr := .one (.int .i64 n)
/-- A function value that tests an element, from W on. -/
def Tests {α : Type} (tr : α → Tr) (f : FuncId) (bd : Array Value) (W : World) (p : α → Bool) : Prop :=
  ∀ (x : α) (v : Value) (w : World), Below W.heap.size W w → (tr x).ok → (tr x).rd w v → Calls Tryz.prog f (#[v] ++ bd) w fun e w' => e = .returned (.bool (p x)) ∧ Below w.heap.size w w'
def Tests2 {α : Type} (tr : α → Tr) (f : FuncId) (bd : Array Value) (W : World) (p : α → α → Bool) : Prop :=
  ∀ (x y : α) (v u : Value) (w : World), Below W.heap.size W w → (tr x).ok → (tr y).ok → (tr x).rd w v → (tr y).rd w u → Calls Tryz.prog f (#[v, u] ++ bd) w fun e w' => e = .returned (.bool (p x y)) ∧ Below w.heap.size w w'

theorem ints_ok {xs : List Int} (h : (trI xs).ok) : ∀ x ∈ xs, (trOne x).ok := by
  have h' : okL ((xs.map (Value.int .i64)).map .one) := h
  clear h
  induction xs with
  | nil => intro x hx; simp at hx
  | cons y xs ih =>
    intro x hx
    rcases List.mem_cons.1 hx with rfl | hx
    · exact h'.1
    · exact ih h'.2 x hx
theorem all_noG {α : Type} {xs : List α} {f : α → Bool} {k : Nat} (hk : k < xs.length) (h : f xs[k] = false) : xs.all f = false :=
  List.all_eq_false.2 ⟨xs[k], List.getElem_mem hk, by simp [h]⟩
theorem all_yesG {α : Type} {xs : List α} {f : α → Bool} (h : ∀ j, (hj : j < xs.length) → f xs[j] = true) : xs.all f = true :=
  List.all_eq_true.2 fun x hx => by obtain ⟨j, hj, rfl⟩ := List.mem_iff_getElem.1 hx; exact h j hj
theorem step_all {α : Type} {xs : List α} {k : Nat} {p : α → Prop} (hlt : k < xs.length) (hall : ∀ j, (h : j < xs.length) → j < k → p xs[j]) (hp : p xs[k]) : ∀ j, (h : j < xs.length) → j < k + 1 → p xs[j] := fun j hj hjk => by
  by_cases e : j = k
  · subst e; exact hp
  · exact hall j hj (by omega)
/-- The first place whose element passes, or -1. -/
def ixB {α : Type} (p : α → Bool) (xs : List α) : Int := match xs.findIdx? p with | some i => (i : Int) | none => -1
theorem ixB_at {α : Type} {p : α → Bool} {xs : List α} {k : Nat} (hlt : k < xs.length) (hall : ∀ j, (h : j < xs.length) → j < k → p xs[j] = false) (hp : p xs[k] = true) : ixB p xs = (k : Int) := by
  have : xs.findIdx? p = some k := by
    rw [List.findIdx?_eq_some_iff_getElem]
    exact ⟨hlt, hp, fun j hj => by simp [hall j (by omega) hj]⟩
  rw [ixB, this]
theorem ixB_none {α : Type} {p : α → Bool} {xs : List α} (hall : ∀ j, (h : j < xs.length) → p xs[j] = false) : ixB p xs = -1 := by
  have : xs.findIdx? p = none := by
    rw [List.findIdx?_eq_none_iff]
    intro x hx
    obtain ⟨j, hj, rfl⟩ := List.mem_iff_getElem.1 hx
    exact hall j hj
  rw [ixB, this]
theorem ixB_any {α : Type} (p : α → Bool) (xs : List α) : decide (0 ≤ ixB p xs) = xs.any p := by
  unfold ixB
  rw [Bool.eq_iff_iff]
  cases h : xs.findIdx? p with
  | none =>
    rw [List.findIdx?_eq_none_iff] at h
    simp
    intro x hx
    simpa using h x hx
  | some i =>
    rw [List.findIdx?_eq_some_iff_getElem] at h
    obtain ⟨hi, hp, _⟩ := h
    have h1 : xs.any p = true := List.any_eq_true.2 ⟨xs[i], List.getElem_mem hi, hp⟩
    rw [h1]
    exact ⟨fun _ => rfl, fun _ => decide_eq_true (Int.natCast_nonneg i)⟩
theorem ixB_range {α : Type} (p : α → Bool) (xs : List α) : -1 ≤ ixB p xs ∧ ixB p xs < xs.length := by
  unfold ixB
  cases h : xs.findIdx? p with
  | none => simp; omega
  | some i =>
    rw [List.findIdx?_eq_some_iff_getElem] at h
    obtain ⟨hi, _⟩ := h
    simp; omega
/-- Two lists of one length whose elements pass side by side. -/
def eqL {α : Type} (p : α → α → Bool) : List α → List α → Bool
  | [], [] => true
  | x :: xs, y :: ys => p x y && eqL p xs ys
  | _, _ => false
theorem eqL_iff {α : Type} {p : α → α → Bool} : ∀ {xs ys : List α}, eqL p xs ys = true ↔ xs.length = ys.length ∧ ∀ j, (h1 : j < xs.length) → (h2 : j < ys.length) → p xs[j] ys[j] = true
  | [], [] => by simp [eqL]
  | [], _ :: _ => by simp [eqL]
  | _ :: _, [] => by simp [eqL]
  | x :: xs, y :: ys => by
    rw [eqL, Bool.and_eq_true, eqL_iff]
    constructor
    · rintro ⟨h1, h2, h3⟩
      refine ⟨by simp [h2], fun j hj hj2 => ?_⟩
      cases j with
      | zero => exact h1
      | succ j => exact h3 j (by simpa using hj) (by simpa using hj2)
    · rintro ⟨h1, h2⟩
      exact ⟨h2 0 (by simp) (by simp), by simpa using h1, fun j hj hj2 => h2 (j + 1) (by simpa using hj) (by simpa using hj2)⟩
theorem eqL_len {α : Type} {p : α → α → Bool} {xs ys : List α} (h : ¬ xs.length = ys.length) : eqL p xs ys = false := by
  rw [Bool.eq_false_iff]; intro e; exact h (eqL_iff.1 e).1
theorem eqL_no {α : Type} {p : α → α → Bool} {xs ys : List α} {k : Nat} (h1 : k < xs.length) (h2 : k < ys.length) (h : p xs[k] ys[k] = false) : eqL p xs ys = false := by
  rw [Bool.eq_false_iff]; intro e
  have := (eqL_iff.1 e).2 k h1 h2
  rw [h] at this; cases this
theorem eqL_yes {α : Type} {p : α → α → Bool} {xs ys : List α} {k : Nat} (hl : xs.length = ys.length) (hk : ¬ k < xs.length) (h : ∀ j, (h1 : j < xs.length) → (h2 : j < ys.length) → j < k → p xs[j] ys[j] = true) : eqL p xs ys = true :=
  eqL_iff.2 ⟨hl, fun j h1 h2 => h j h1 h2 (by omega)⟩
theorem step_eqL {α : Type} {p : α → α → Bool} {xs ys : List α} {k : Nat} (h1 : k < xs.length) (h2 : k < ys.length) (hall : ∀ j, (h1 : j < xs.length) → (h2 : j < ys.length) → j < k → p xs[j] ys[j] = true) (h : p xs[k] ys[k] = true) : ∀ j, (h1 : j < xs.length) → (h2 : j < ys.length) → j < k + 1 → p xs[j] ys[j] = true := fun j hj hj2 hjk => by
  by_cases e : j = k
  · subst e; exact h
  · exact hall j hj hj2 (by omega)
theorem eqL_dec {α : Type} [DecidableEq α] {p : α → α → Bool} (hp : ∀ x y, p x y = decide (x = y)) : ∀ xs ys : List α, eqL p xs ys = decide (xs = ys)
  | [], [] => by simp [eqL]
  | [], _ :: _ => by simp [eqL]
  | _ :: _, [] => by simp [eqL]
  | x :: xs, y :: ys => by
    rw [eqL, eqL_dec hp, hp, Bool.eq_iff_iff]
    simp
end Go.Proofs.YtgbpomakomddjabGreatDoor
