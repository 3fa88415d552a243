/- DERIVED. The least of chosen modes: at most each one's, and at most the least of fewer. No contract. -/
import Derived.Test.YtnbkiobbacaaiaaGreatDoorActE
import Derived.Test.YtnbkiobbacaaiaaGreatDoorSets
import Derived.Test.YtnbkiobbacaaiaaGreatDoorDr4
import Derived.Test.YtnbkiobbacaaiaaGreatDoorModRt
namespace Go.Proofs.YtnbkiobbacaaiaaGreatDoor
open Go.RowKit

section
variable {α : Type} {xs : List α} {S S' : List Int} {val : α → Option Int} {pref : Int → Int → Bool}
theorem best_upto (ho : Prefers pref) (h : ¬ Lacks xs S val) : ∀ k, k ≤ xs.length → ∃ f n, IsBest pref (Vals xs S val k) f n
  | 0, _ => ⟨false, 0, .inl ⟨rfl, rfl, fun x hx => (vals_zero x).1 hx⟩⟩
  | k + 1, hk => by
    obtain ⟨f, n, ih⟩ := best_upto ho h k (by omega)
    by_cases hs : hasB S (k : Int) = true
    · obtain ⟨x0, hv⟩ : ∃ x0, val xs[k] = some x0 := by
        cases hv : val xs[k] with
        | none => exact absurd (lacks_at (by omega) hs hv) h
        | some x0 => exact ⟨x0, rfl⟩
      have hQ := vals_add (xs := xs) (S := S) (val := val) (by omega) hs hv
      cases f with
      | false => exact ⟨true, x0, ih.take0 ho hQ⟩
      | true =>
        cases hp : pref x0 n with
        | false => exact ⟨true, n, ih.keep hQ hp⟩
        | true => exact ⟨true, x0, ih.take1 ho hQ hp⟩
    · exact ⟨f, n, ih.same (vals_skip (by simpa using hs))⟩
theorem sel_is (ho : Prefers pref) (h : ¬ Lacks xs S val) : ∃ f, IsBest pref (Vals xs S val xs.length) f (selB pref val xs S) := by
  obtain ⟨f, n, hb⟩ := best_upto ho h xs.length (Nat.le_refl _)
  rw [sel_vals ho h hb]
  exact ⟨f, hb⟩
theorem sel_none (ho : Prefers pref) (h : ¬ Lacks xs S val) {i : Nat} (hi : i < xs.length) (hs : hasB S (i : Int) = true) {x : Int} (hv : val xs[i] = some x) : pref x (selB pref val xs S) = false := by
  obtain ⟨f, hb⟩ := sel_is ho h
  have hP : Vals xs S val xs.length x := ⟨i, hi, hi, hs, hv⟩
  rcases hb with ⟨_, _, hb⟩ | ⟨_, _, hb⟩
  · exact absurd hP (hb x)
  · exact hb x hP
theorem sel_le (h : ¬ Lacks xs S val) {i : Nat} (hi : i < xs.length) (hs : hasB S (i : Int) = true) {x : Int} (hv : val xs[i] = some x) : selB ltB val xs S ≤ x := by
  have := sel_none prefers_lt h hi hs hv
  simp [ltB] at this
  omega
theorem sel_ge (h : ¬ Lacks xs S val) {i : Nat} (hi : i < xs.length) (hs : hasB S (i : Int) = true) {x : Int} (hv : val xs[i] = some x) : x ≤ selB gtB val xs S := by
  have := sel_none prefers_gt h hi hs hv
  simp [gtB] at this
  omega
theorem sel_sub (h : ¬ Lacks xs S val) (hsub : ∀ y, hasB S' y = true → hasB S y = true) {i : Nat} (hi : i < xs.length) (hs : hasB S' (i : Int) = true) : selB ltB val xs S ≤ selB ltB val xs S' := by
  have h' : ¬ Lacks xs S' val := fun ⟨j, hj, h1, h2⟩ => h ⟨j, hj, hsub _ h1, h2⟩
  obtain ⟨f, hb⟩ := sel_is prefers_lt h'
  obtain ⟨x, hx⟩ : ∃ x, val xs[i] = some x := by
    cases hv : val xs[i] with
    | none => exact absurd ⟨i, hi, hs, hv⟩ h'
    | some x => exact ⟨x, rfl⟩
  rcases hb with ⟨_, _, hb⟩ | ⟨_, ⟨j, hj, _, h1, h2⟩, _⟩
  · exact absurd ⟨i, hi, hi, hs, hx⟩ (hb x)
  · exact sel_le h hj (hsub _ h1) h2
end
/-- The amounts at an index that all modes have. -/
theorem least_some {m : Md} {t : Nat} {take work : Bool} (h : t < (if take then m.co else m.us).length) : leastV (t : Int) take work m = some (if work then wrap64 ((if take then m.co else m.us)[t] * m.du) else (if take then m.co else m.us)[t]) := by
  rw [leastV, amt_yes h]
  rfl
theorem least_lacks {ms : List Md} {S : List Int} {t : Nat} {take work : Bool} (h : ∀ m ∈ ms, t < (if take then m.co else m.us).length) : ¬ Lacks ms S (leastV (t : Int) take work) := fun ⟨i, hi, _, hv⟩ => by
  rw [least_some (h _ (List.getElem_mem hi))] at hv
  cases hv
theorem has_range {n : Nat} (hn : n ≤ 200) {y : Int} : hasB (rangeB (n : Int)) y = true ↔ ∃ i : Nat, i < n ∧ y = (i : Int) := by
  rw [show rangeB (n : Int) = upB n from by unfold rangeB; rw [if_pos (by omega)]; rfl]
  unfold hasB upB
  rw [List.contains_iff_mem, List.mem_map]
  exact ⟨fun ⟨i, hi, e⟩ => ⟨i, List.mem_range.1 hi, e.symm⟩, fun ⟨i, hi, e⟩ => ⟨i, List.mem_range.2 hi, e.symm⟩⟩
theorem has_inter {a b : List Int} {y : Int} (h : hasB (interB a b) y = true) : hasB a y = true := by
  unfold hasB interB at *
  rw [List.contains_iff_mem, mem_setB, List.mem_filter] at h
  exact List.contains_iff_mem.2 h.1
/-- Fewer modes: the least of more is never greater. -/
theorem sel_fewer {α : Type} {ms : List α} {val : α → Option Int} {xs : List Int} (hn : ms.length ≤ 200) (hl : ¬ Lacks ms (rangeB (ms.length : Int)) val) (hne : (interB (rangeB (ms.length : Int)) xs).length ≠ 0) :
    selB ltB val ms (rangeB (ms.length : Int)) ≤ selB ltB val ms (interB (rangeB (ms.length : Int)) xs) := by
  obtain ⟨y, hy⟩ : ∃ y, hasB (interB (rangeB (ms.length : Int)) xs) y = true := by
    cases he : interB (rangeB (ms.length : Int)) xs with
    | nil => rw [he] at hne; exact absurd rfl hne
    | cons y ys => exact ⟨y, by simp [hasB]⟩
  obtain ⟨i, hi, rfl⟩ := (has_range hn).1 (has_inter hy)
  exact sel_sub hl (fun z hz => has_inter hz) hi hy
/-- All that FnActs asks of one mode, and of fewer modes. -/
structure OneMode (R S : Nat) (ms : List Md) (m : Md) : Prop where
  ok : mokB m R S = true
  txt : mdOk (fmtMd m.du m.us m.co) = true
  back : (parMd (fmtMd m.du m.us m.co)).du = m.du
  lo : selB ltB durV ms (rangeB (ms.length : Int)) ≤ m.du
  hi : m.du ≤ selB gtB durV ms (rangeB (ms.length : Int))
  us : ∃ h : 0 < m.us.length, selB ltB (leastV 0 false false) ms (rangeB (ms.length : Int)) ≤ m.us[0] ∧ selB ltB (leastV 0 false true) ms (rangeB (ms.length : Int)) ≤ m.du * m.us[0] ∧ 0 ≤ m.du * m.us[0] ∧ m.du * m.us[0] ≤ 8
  co : ∀ h : 0 < m.co.length, selB ltB (leastV 0 true false) ms (rangeB (ms.length : Int)) ≤ m.co[0]
theorem one_mode {i R S : Nat} {a : Ac} (h : DrA i R S a) (hR : 0 < R) {m : Md} (hm : m ∈ a.ms) : OneMode R S a.ms m := by
  have hn : a.ms.length ≤ 200 := by have := h.2.2.2.2.1; omega
  have hM := h.2.2.2.2.2
  obtain ⟨h1, h2, h3, h4, h5, h6⟩ := hM m hm
  obtain ⟨j, hj, rfl⟩ := List.getElem_of_mem hm
  have hr : hasB (rangeB (a.ms.length : Int)) (j : Int) = true := (has_range hn).2 ⟨j, hj, rfl⟩
  have lim : ∀ us : List Int, DrI us → ∀ n ∈ us, -100000 ≤ n ∧ n ≤ 100000 := fun us hd n hx => by have := hd n hx; omega
  have rt := mode_rt (d := a.ms[j].du) (inB_yes (by omega)) (by omega) (lim _ h5) (lim _ h6)
  have hu : 0 < a.ms[j].us.length := by omega
  have hu0 := h5 _ (List.getElem_mem hu)
  have hlu : ∀ work, ¬ Lacks a.ms (rangeB (a.ms.length : Int)) (leastV ((0 : Nat) : Int) false work) := fun work => least_lacks fun m hm => by have := (hM m hm).2.2.1; show 0 < m.us.length; omega
  refine ⟨(hM _ hm).ok, rt.1, by rw [rt.2], sel_le dur_lacks hj hr rfl, sel_ge dur_lacks hj hr rfl, ⟨hu, ?_, ?_, ?_, ?_⟩, fun hc => ?_⟩
  · exact sel_le (hlu false) hj hr (least_some (t := 0) (take := false) (work := false) hu)
  · have h7 := sel_le (hlu true) hj hr (least_some (t := 0) (take := false) (work := true) hu)
    refine Int.le_trans h7 (Int.le_of_eq ?_)
    show wrap64 (a.ms[j].us[0] * a.ms[j].du) = _
    have h8 : 0 ≤ a.ms[j].us[0] * a.ms[j].du := Int.mul_nonneg hu0.1 (by omega)
    have h9 : a.ms[j].us[0] * a.ms[j].du ≤ 2 * 4 := Int.mul_le_mul (by omega) h2 (by omega) (by omega)
    rw [Int.mul_comm] at h8 h9 ⊢
    generalize a.ms[j].du * a.ms[j].us[0] = z at *
    unfold wrap64
    omega
  · exact Int.mul_nonneg (by omega) hu0.1
  · have h9 : a.ms[j].du * a.ms[j].us[0] ≤ 4 * 2 := Int.mul_le_mul h2 (by omega) hu0.1 (by omega)
    omega
  · exact sel_le (least_lacks fun m' hm' => by have := (hM m' hm').2.2.2.1; show 0 < m'.co.length; omega) hj hr (least_some (t := 0) (take := true) (work := false) hc)
theorem fewer_modes {i R S : Nat} {a : Ac} (h : DrA i R S a) (hR : 0 < R) {xs : List Int} (hne : (interB (rangeB (a.ms.length : Int)) xs).length ≠ 0) :
    selB ltB durV a.ms (rangeB (a.ms.length : Int)) ≤ selB ltB durV a.ms (interB (rangeB (a.ms.length : Int)) xs) ∧ selB ltB (leastV 0 false false) a.ms (rangeB (a.ms.length : Int)) ≤ selB ltB (leastV 0 false false) a.ms (interB (rangeB (a.ms.length : Int)) xs) := by
  have hn : a.ms.length ≤ 200 := by have := h.2.2.2.2.1; omega
  exact ⟨sel_fewer hn dur_lacks hne, sel_fewer hn (least_lacks (t := 0) fun m hm => by have := (h.2.2.2.2.2 m hm).2.2.1; show 0 < m.us.length; omega) hne⟩
theorem range_len {n : Nat} (hn : n ≤ 200) : (rangeB (n : Int)).length = n := by
  rw [show rangeB (n : Int) = upB n from by unfold rangeB; rw [if_pos (by omega)]; rfl, upB_len]
end Go.Proofs.YtnbkiobbacaaiaaGreatDoor
