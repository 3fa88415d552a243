/- DERIVED. CONTRACTS: impl.MinCapacity, impl.TotalCapacity: loops over the iterator. Written by tools/gen_loopf.py. -/
import Derived.Test.YtaglfdkeomjpdabGreatDoorStpX
namespace Go.Proofs.YtaglfdkeomjpdabGreatDoor
open Go.RowKit Go.Shelf
attribute [local go_sem] Oper.semAt_some

/-- The least capacity, in the walk's spelling. -/
def leastW (l : List (Pr × Int)) : Int := l.foldl (fun n q => if q.1.2 < n then q.1.2 else n) 20
theorem leastW_snoc (l : List (Pr × Int)) (q : Pr × Int) : leastW (l ++ [q]) = if q.1.2 < leastW l then q.1.2 else leastW l := by unfold leastW; rw [List.foldl_append]; rfl
theorem leastW_eq (l : List (Pr × Int)) : leastW l = leastP l := by
  unfold leastW leastP
  congr 1
  funext n q
  split <;> omega
/-- The sum, in the walk's spelling. -/
def sumW (l : List (Pr × Int)) : Int := l.foldl (fun n q => wrap64 (n + wrap64 (wrap64 (q.2 - q.1.1) * q.1.2))) 0
theorem sumW_snoc (l : List (Pr × Int)) (q : Pr × Int) : sumW (l ++ [q]) = wrap64 (sumW l + wrap64 (wrap64 (q.2 - q.1.1) * q.1.2)) := by unfold sumW; rw [List.foldl_append]; rfl

theorem partsP_in {xs : List Pr} {x y : Int} (h : okS xs) : ∀ q ∈ partsP xs x y, x ≤ q.1.1 ∧ q.1.1 < q.2 ∧ q.2 ≤ y ∧ 0 ≤ q.1.2 ∧ q.1.2 ≤ 20 := by
  intro q hq
  have hlt := partsP_lt q hq
  rw [partsP_eq, List.mem_flatMap] at hq
  obtain ⟨i, hi, hq⟩ := hq
  have hi' : i < xs.length := by simpa using hi
  have hg := h.2.2.2 i hi'
  unfold goodP at hg
  unfold partP at hq
  split at hq
  · simp at hq
    subst hq
    refine ⟨by show x ≤ max _ x; omega, hlt, ?_, hg.2.2.1, hg.2.2.2.1⟩
    show endP xs y i ≤ y
    unfold endP
    split <;> omega
  · simp at hq
theorem partsP_len (xs : List Pr) (x y : Int) : (partsP xs x y).length ≤ xs.length := by rw [← uptoP_full]; exact uptoP_len xs x y _
theorem mul_range {a c : Int} (h1 : 0 ≤ a) (h2 : a ≤ 61) (h3 : 0 ≤ c) (h4 : c ≤ 20) : 0 ≤ a * c ∧ a * c ≤ 1220 := by
  refine ⟨Int.mul_nonneg h1 h3, ?_⟩
  have := Int.mul_le_mul h2 h4 h3 (by omega : (0 : Int) ≤ 61)
  omega
theorem sumW_gen : ∀ (l : List (Pr × Int)) (n : Int), (∀ q ∈ l, 0 ≤ q.2 - q.1.1 ∧ q.2 - q.1.1 ≤ 61 ∧ 0 ≤ q.1.2 ∧ q.1.2 ≤ 20) → 0 ≤ n → n + 1220 * (l.length : Int) ≤ 1000000 →
    l.foldl (fun n q => wrap64 (n + wrap64 (wrap64 (q.2 - q.1.1) * q.1.2))) n = l.foldl (fun n q => n + (q.2 - q.1.1) * q.1.2) n
  | [], _, _, _, _ => rfl
  | q :: l, n, h, h0, hn => by
    obtain ⟨h1, h2, h3, h4⟩ := h q (by simp)
    obtain ⟨m1, m2⟩ := mul_range h1 h2 h3 h4
    simp only [List.length_cons] at hn
    rw [List.foldl_cons, List.foldl_cons]
    have e1 : wrap64 (q.2 - q.1.1) = q.2 - q.1.1 := by unfold wrap64; omega
    rw [e1]
    generalize (q.2 - q.1.1) * q.1.2 = m at *
    have e2 : wrap64 m = m := by unfold wrap64; omega
    have e3 : wrap64 (n + m) = n + m := by unfold wrap64; omega
    rw [e2, e3]
    exact sumW_gen l (n + m) (fun r hr => h r (by simp [hr])) (by omega) (by omega)
theorem sumW_eq {xs : List Pr} {x y : Int} (h : okS xs) (hx : 0 ≤ x) (hy : y ≤ 61) : sumW (partsP xs x y) = sumP (partsP xs x y) := by
  refine sumW_gen _ 0 (fun q hq => ?_) (by omega) ?_
  · have := partsP_in h q hq; omega
  · have := partsP_len xs x y; have := h.2.1; omega

end Go.Proofs.YtaglfdkeomjpdabGreatDoor
