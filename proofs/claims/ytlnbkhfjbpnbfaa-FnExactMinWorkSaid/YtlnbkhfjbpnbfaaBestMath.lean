/- DERIVED. PLAIN MATHEMATICS: the preferred value of the chosen modes. No dump. -/
import Derived.WalkKit
import Derived.Test.YtlnbkhfjbpnbfaaStpMath
import Derived.Test.YtlnbkhfjbpnbfaaSetMath
namespace Go.Proofs.Ytlnbkhfjbpnbfaa
open Go.RowKit

/-- n is a value of P to which none is preferred; 0 where there is none. -/
def IsBest (pref : Int → Int → Bool) (P : Int → Prop) (f : Bool) (n : Int) : Prop :=
  (f = false ∧ n = 0 ∧ ∀ x, ¬ P x) ∨ (f = true ∧ P n ∧ ∀ x, P x → pref x n = false)
structure Prefers (pref : Int → Int → Bool) : Prop where
  tot : ∀ x y, pref x y = false → pref y x = false → x = y
  trans : ∀ x y z, pref x y = true → pref y z = true → pref x z = true
  irr : ∀ x, pref x x = false
def ltB (x y : Int) : Bool := decide (x < y)
def gtB (x y : Int) : Bool := decide (y < x)
theorem prefers_lt : Prefers ltB := ⟨fun x y h k => by simp [ltB] at h k; omega, fun x y z h k => by simp [ltB] at h k ⊢; omega, fun x => by simp [ltB]⟩
theorem prefers_gt : Prefers gtB := ⟨fun x y h k => by simp [gtB] at h k; omega, fun x y z h k => by simp [gtB] at h k ⊢; omega, fun x => by simp [gtB]⟩

section
variable {pref : Int → Int → Bool} {P Q : Int → Prop} {f g : Bool} {n m x : Int}
theorem IsBest.start : IsBest pref (fun _ => False) false 0 := .inl ⟨rfl, rfl, fun _ h => h⟩
theorem IsBest.uniq (ho : Prefers pref) (h : IsBest pref P f n) (k : IsBest pref Q g m) (hPQ : ∀ x, P x ↔ Q x) : n = m := by
  rcases h with ⟨_, rfl, h⟩ | ⟨_, h1, h2⟩
  · rcases k with ⟨_, rfl, _⟩ | ⟨_, k1, _⟩
    · rfl
    · exact absurd ((hPQ m).2 k1) (h m)
  · rcases k with ⟨_, rfl, k⟩ | ⟨_, k1, k2⟩
    · exact absurd ((hPQ n).1 h1) (k n)
    · exact ho.tot n m (k2 n ((hPQ n).1 h1)) (h2 m ((hPQ m).2 k1))
theorem IsBest.same (h : IsBest pref P f n) (hQ : ∀ y, Q y ↔ P y) : IsBest pref Q f n := by
  rcases h with ⟨h1, h2, h⟩ | ⟨h0, h1, h2⟩
  · exact .inl ⟨h1, h2, fun y hy => h y ((hQ y).1 hy)⟩
  · exact .inr ⟨h0, (hQ n).2 h1, fun y hy => h2 y ((hQ y).1 hy)⟩
theorem IsBest.keep (h : IsBest pref P true n) (hQ : ∀ y, Q y ↔ P y ∨ y = x) (hp : pref x n = false) : IsBest pref Q true n := by
  rcases h with ⟨h1, _⟩ | ⟨h0, h1, h2⟩
  · cases h1
  · refine .inr ⟨h0, (hQ n).2 (.inl h1), fun y hy => ?_⟩
    rcases (hQ y).1 hy with hy | rfl
    · exact h2 y hy
    · exact hp
theorem IsBest.take0 (ho : Prefers pref) (h : IsBest pref P false n) (hQ : ∀ y, Q y ↔ P y ∨ y = x) : IsBest pref Q true x := by
  rcases h with ⟨_, _, h⟩ | ⟨h0, _⟩
  · refine .inr ⟨rfl, (hQ x).2 (.inr rfl), fun y hy => ?_⟩
    rcases (hQ y).1 hy with hy | rfl
    · exact absurd hy (h y)
    · exact ho.irr y
  · cases h0
theorem IsBest.take1 (ho : Prefers pref) (h : IsBest pref P true n) (hQ : ∀ y, Q y ↔ P y ∨ y = x) (hp : pref x n = true) : IsBest pref Q true x := by
  rcases h with ⟨h1, _⟩ | ⟨_, _, h2⟩
  · cases h1
  · refine .inr ⟨rfl, (hQ x).2 (.inr rfl), fun y hy => ?_⟩
    rcases (hQ y).1 hy with hy | rfl
    · have hyn := h2 y hy
      rcases hyx : pref y x with _ | _
      · rfl
      · rw [ho.trans y x n hyx hp] at hyn; cases hyn
    · exact ho.irr y
theorem IsBest.zero (h : IsBest pref P false n) : n = 0 := by
  rcases h with ⟨_, h, _⟩ | ⟨h, _⟩
  · exact h
  · cases h
end
noncomputable def bestV (pref : Int → Int → Bool) (P : Int → Prop) : Int := Classical.epsilon fun n => ∃ f, IsBest pref P f n
theorem best_eq {pref : Int → Int → Bool} (ho : Prefers pref) {P Q : Int → Prop} {f : Bool} {n : Int} (h : IsBest pref Q f n) (hQ : ∀ x, P x ↔ Q x) : bestV pref P = n := by
  have hp : IsBest pref P f n := h.same hQ
  obtain ⟨g, hg⟩ := Classical.epsilon_spec (p := fun n => ∃ f, IsBest pref P f n) ⟨n, f, hp⟩
  exact hg.uniq ho hp fun _ => Iff.rfl

section
variable {α : Type} {xs : List α} {S : List Int} {val : α → Option Int}
/-- The values of the first k elements whose indices are chosen. -/
def Vals (xs : List α) (S : List Int) (val : α → Option Int) (k : Nat) (x : Int) : Prop := ∃ i, ∃ h : i < xs.length, i < k ∧ hasB S (i : Int) = true ∧ val xs[i] = some x
/-- The values that the first k choices name. -/
def ValC (xs : List α) (S : List Int) (val : α → Option Int) (k : Nat) (x : Int) : Prop := ∃ j, ∃ h : j < S.length, j < k ∧ ∃ i, ∃ h' : i < xs.length, S[j] = (i : Int) ∧ val xs[i] = some x
/-- A chosen element without a value. -/
def Lacks (xs : List α) (S : List Int) (val : α → Option Int) : Prop := ∃ i, ∃ h : i < xs.length, hasB S (i : Int) = true ∧ val xs[i] = none
theorem vals_zero (x : Int) : Vals xs S val 0 x ↔ False := ⟨fun ⟨_, _, h, _⟩ => by omega, False.elim⟩
theorem valC_zero (x : Int) : ValC xs S val 0 x ↔ False := ⟨fun ⟨_, _, h, _⟩ => by omega, False.elim⟩
theorem vals_skip {k : Nat} (h : hasB S (k : Int) = false) (x : Int) : Vals xs S val (k + 1) x ↔ Vals xs S val k x := by
  constructor
  · rintro ⟨i, hi, hk, hs, hv⟩
    by_cases e : i = k
    · subst e; rw [h] at hs; cases hs
    · exact ⟨i, hi, by omega, hs, hv⟩
  · rintro ⟨i, hi, hk, hs, hv⟩
    exact ⟨i, hi, by omega, hs, hv⟩
theorem vals_add {k : Nat} (hk : k < xs.length) (h : hasB S (k : Int) = true) {x0 : Int} (hv : val xs[k] = some x0) (x : Int) : Vals xs S val (k + 1) x ↔ Vals xs S val k x ∨ x = x0 := by
  constructor
  · rintro ⟨i, hi, hik, hs, hx⟩
    by_cases e : i = k
    · subst e; rw [hv] at hx; injection hx with hx; exact .inr hx.symm
    · exact .inl ⟨i, hi, by omega, hs, hx⟩
  · rintro (⟨i, hi, hik, hs, hx⟩ | rfl)
    · exact ⟨i, hi, by omega, hs, hx⟩
    · exact ⟨k, hk, by omega, h, hv⟩
theorem valC_skip {k : Nat} (hk : k < S.length) (h : ∀ i : Nat, S[k] = (i : Int) → ¬ i < xs.length) (x : Int) : ValC xs S val (k + 1) x ↔ ValC xs S val k x := by
  constructor
  · rintro ⟨j, hj, hjk, i, hi, hs, hv⟩
    by_cases e : j = k
    · subst e; exact absurd hi (h i hs)
    · exact ⟨j, hj, by omega, i, hi, hs, hv⟩
  · rintro ⟨j, hj, hjk, i, hi, hs, hv⟩
    exact ⟨j, hj, by omega, i, hi, hs, hv⟩
theorem valC_add {k i : Nat} (hk : k < S.length) (hi : i < xs.length) (h : S[k] = (i : Int)) {x0 : Int} (hv : val xs[i] = some x0) (x : Int) : ValC xs S val (k + 1) x ↔ ValC xs S val k x ∨ x = x0 := by
  constructor
  · rintro ⟨j, hj, hjk, i', hi', hs, hx⟩
    by_cases e : j = k
    · subst e
      rw [h] at hs
      obtain rfl : i = i' := by omega
      rw [hv] at hx
      injection hx with hx
      exact .inr hx.symm
    · exact .inl ⟨j, hj, by omega, i', hi', hs, hx⟩
  · rintro (⟨j, hj, hjk, i', hi', hs, hx⟩ | rfl)
    · exact ⟨j, hj, by omega, i', hi', hs, hx⟩
    · exact ⟨k, hk, by omega, i, hi, h, hv⟩
theorem has_iff {y : Int} : hasB S y = true ↔ ∃ j, ∃ h : j < S.length, S[j] = y := by
  unfold hasB
  rw [List.contains_iff_mem, List.mem_iff_getElem]
theorem vals_valC (x : Int) : Vals xs S val xs.length x ↔ ValC xs S val S.length x := by
  constructor
  · rintro ⟨i, hi, _, hs, hv⟩
    obtain ⟨j, hj, hs⟩ := has_iff.1 hs
    exact ⟨j, hj, hj, i, hi, hs, hv⟩
  · rintro ⟨j, hj, _, i, hi, hs, hv⟩
    exact ⟨i, hi, hi, has_iff.2 ⟨j, hj, hs⟩, hv⟩
theorem lacks_at {k : Nat} (hk : k < xs.length) (h : hasB S (k : Int) = true) (hv : val xs[k] = none) : Lacks xs S val := ⟨k, hk, h, hv⟩
theorem lacks_ch {k i : Nat} (hk : k < S.length) (hi : i < xs.length) (h : S[k] = (i : Int)) (hv : val xs[i] = none) : Lacks xs S val := ⟨i, hi, has_iff.2 ⟨k, hk, h⟩, hv⟩
end
open Classical in
/-- The preferred value of the chosen elements: 0 if there is none or one of them has no value. -/
noncomputable def selB {α : Type} (pref : Int → Int → Bool) (val : α → Option Int) (xs : List α) (S : List Int) : Int := if Lacks xs S val then 0 else bestV pref (Vals xs S val xs.length)
theorem sel_lacks {α : Type} {pref : Int → Int → Bool} {val : α → Option Int} {xs : List α} {S : List Int} (h : Lacks xs S val) : selB pref val xs S = 0 := if_pos h
theorem sel_vals {α : Type} {pref : Int → Int → Bool} (ho : Prefers pref) {val : α → Option Int} {xs : List α} {S : List Int} {f : Bool} {n : Int} (h : ¬ Lacks xs S val) (hb : IsBest pref (Vals xs S val xs.length) f n) : selB pref val xs S = n := (if_neg h).trans (best_eq ho hb fun _ => Iff.rfl)
theorem sel_valC {α : Type} {pref : Int → Int → Bool} (ho : Prefers pref) {val : α → Option Int} {xs : List α} {S : List Int} {f : Bool} {n : Int} (h : ∀ j, (hj : j < S.length) → ∀ i, (hi : i < xs.length) → S[j] = (i : Int) → val xs[i] ≠ none) (hb : IsBest pref (ValC xs S val S.length) f n) : selB pref val xs S = n := by
  refine (if_neg ?_).trans (best_eq ho hb vals_valC)
  rintro ⟨i, hi, hs, hv⟩
  obtain ⟨j, hj, hs⟩ := has_iff.1 hs
  exact h j hj i hi hs hv

/-- The amount at an index, where there is one. -/
def amtB (l : List Int) (t : Int) : Option Int := if inB t 0 ((l.length : Int) - 1) = true then some (l.getD t.toNat 0) else none
theorem amt_no {l : List Int} {t : Int} (h : ¬ (0 ≤ t ∧ t < l.length)) : amtB l t = none := by unfold amtB; rw [inB_no (by omega)]; rfl
theorem amt_yes {l : List Int} {i : Nat} (h : i < l.length) : amtB l (i : Int) = some l[i] := by
  unfold amtB
  rw [inB_yes (by omega), if_pos rfl]
  simp [List.getD, List.getElem?_eq_getElem h]
end Go.Proofs.Ytlnbkhfjbpnbfaa
