/- DERIVED. SETS OF INTS AS ASCENDING LISTS: no program, no dump. -/
import Derived.Lib.SlicesCompact
namespace Go.Proofs.Ytfgmbgdbnjpclaa
open Go.Lib

theorem asc_eq : ∀ {a b : List Int}, a.Pairwise (· < ·) → b.Pairwise (· < ·) → (∀ x, x ∈ a ↔ x ∈ b) → a = b
  | [], [], _, _, _ => rfl
  | [], y :: b, _, _, h => absurd ((h y).2 (by simp)) (by simp)
  | x :: a, [], _, _, h => absurd ((h x).1 (by simp)) (by simp)
  | x :: a, y :: b, ha, hb, h => by
    have ha1 := List.pairwise_cons.1 ha
    have hb1 := List.pairwise_cons.1 hb
    have hxy : x = y := by
      have h1 := (h x).1 (by simp)
      have h2 := (h y).2 (by simp)
      rcases List.mem_cons.1 h1 with e | e
      · exact e
      rcases List.mem_cons.1 h2 with e2 | e2
      · exact e2.symm
      have := hb1.1 x e
      have := ha1.1 y e2
      omega
    subst hxy
    congr 1
    refine asc_eq ha1.2 hb1.2 fun z => ?_
    have hz := h z
    simp only [List.mem_cons] at hz
    constructor
    · intro hm
      rcases hz.1 (.inr hm) with e | e
      · subst e; exact absurd (ha1.1 _ hm) (by omega)
      · exact e
    · intro hm
      rcases hz.2 (.inr hm) with e | e
      · subst e; exact absurd (hb1.1 _ hm) (by omega)
      · exact e

/-- The place where n goes: how many elements from the head on are less. -/
def kB : List Int → Int → Nat
  | [], _ => 0
  | x :: l, n => if x < n then kB l n + 1 else 0
theorem kB_le : ∀ (l : List Int) (n : Int), kB l n ≤ l.length
  | [], _ => by simp [kB]
  | x :: l, n => by
    have := kB_le l n
    unfold kB; split <;> simp <;> omega
theorem kB_eq : ∀ (l : List Int) (n : Int) (j : Nat), j ≤ l.length → (∀ i, (h : i < l.length) → i < j → l[i] < n) → (∀ h : j < l.length, ¬ l[j] < n) → kB l n = j
  | [], _, j, hj, _, _ => by simp at hj; simp [kB, hj]
  | x :: l, n, 0, _, _, h2 => by
    have : ¬ x < n := h2 (by simp)
    simp [kB, this]
  | x :: l, n, j + 1, hj, h1, h2 => by
    have hx : x < n := h1 0 (by simp) (by omega)
    have := kB_eq l n j (Nat.le_of_succ_le_succ hj) (fun i hi hij => h1 (i + 1) (Nat.succ_lt_succ hi) (by omega)) (fun h => h2 (Nat.succ_lt_succ h))
    simp [kB, hx, this]
theorem kB_take : ∀ (l : List Int) (n x : Int), x ∈ l.take (kB l n) → x < n
  | [], _, _, h => by simp at h
  | y :: l, n, x, h => by
    unfold kB at h
    split at h
    · rename_i hy
      simp only [List.take_succ_cons, List.mem_cons] at h
      rcases h with e | e
      · omega
      · exact kB_take l n x e
    · simp at h
theorem kB_drop : ∀ (l : List Int) (n x : Int), l.Pairwise (· < ·) → x ∈ l.drop (kB l n) → n ≤ x
  | [], _, _, _, h => by simp at h
  | y :: l, n, x, hp, h => by
    have hp1 := List.pairwise_cons.1 hp
    unfold kB at h
    split at h
    · simp only [List.drop_succ_cons] at h
      exact kB_drop l n x hp1.2 h
    · rename_i hy
      simp only [List.drop_zero, List.mem_cons] at h
      rcases h with e | e
      · omega
      · have := hp1.1 x e; omega

def putB (l : List Int) (n : Int) : List Int := if l.contains n then l else l.take (kB l n) ++ [n] ++ l.drop (kB l n)
def setB (l : List Int) : List Int := l.foldl putB []

theorem mem_putB (l : List Int) (n x : Int) : x ∈ putB l n ↔ x ∈ l ∨ x = n := by
  unfold putB
  split
  · rename_i h
    have h' : n ∈ l := by simpa using h
    constructor
    · exact .inl
    · rintro (h | rfl)
      · exact h
      · exact h'
  · rw [List.mem_append, List.mem_append, List.mem_singleton]
    conv => rhs; rw [← List.take_append_drop (kB l n) l, List.mem_append]
    constructor
    · rintro ((h | h) | h)
      · exact .inl (.inl h)
      · exact .inr h
      · exact .inl (.inr h)
    · rintro ((h | h) | h)
      · exact .inl (.inl h)
      · exact .inr h
      · exact .inl (.inr h)

theorem asc_putB {l : List Int} (h : l.Pairwise (· < ·)) (n : Int) : (putB l n).Pairwise (· < ·) := by
  unfold putB
  split
  · exact h
  · rename_i hn
    have hn' : n ∉ l := by simpa using hn
    rw [List.append_assoc, List.pairwise_append]
    refine ⟨h.sublist (List.take_sublist _ _), ?_, ?_⟩
    · rw [List.singleton_append, List.pairwise_cons]
      refine ⟨fun x hx => ?_, h.sublist (List.drop_sublist _ _)⟩
      have h1 := kB_drop l n x h hx
      have h2 : x ≠ n := fun e => hn' (e ▸ List.mem_of_mem_drop hx)
      omega
    · intro x hx y hy
      have h1 := kB_take l n x hx
      rw [List.singleton_append, List.mem_cons] at hy
      rcases hy with rfl | hy
      · exact h1
      · have := kB_drop l n y h hy
        omega

theorem setB_snoc (l : List Int) (n : Int) : setB (l ++ [n]) = putB (setB l) n := by simp [setB]
theorem foldl_put (l : List Int) : ∀ (acc : List Int), acc.Pairwise (· < ·) → (l.foldl putB acc).Pairwise (· < ·) ∧ ∀ x, x ∈ l.foldl putB acc ↔ x ∈ acc ∨ x ∈ l := by
  induction l with
  | nil => intro acc h; exact ⟨h, fun x => by simp⟩
  | cons n l ih =>
    intro acc h
    obtain ⟨h1, h2⟩ := ih (putB acc n) (asc_putB h n)
    refine ⟨h1, fun x => ?_⟩
    rw [List.foldl_cons, h2 x, mem_putB, List.mem_cons, or_assoc]
theorem asc_setB (l : List Int) : (setB l).Pairwise (· < ·) := (foldl_put l [] .nil).1
theorem mem_setB (l : List Int) (x : Int) : x ∈ setB l ↔ x ∈ l := by
  have := (foldl_put l [] .nil).2 x
  unfold setB
  simpa only [List.not_mem_nil, false_or] using this
theorem len_put (l : List Int) (n : Int) : (putB l n).length ≤ l.length + 1 := by
  unfold putB; split
  · omega
  · have := kB_le l n
    simp; omega
theorem len_foldl (l : List Int) : ∀ acc, (l.foldl putB acc).length ≤ acc.length + l.length := by
  induction l with
  | nil => intro acc; simp
  | cons n l ih => intro acc; have := ih (putB acc n); have := len_put acc n; simp; omega
theorem len_setB (l : List Int) : (setB l).length ≤ l.length := by
  have := len_foldl l []
  unfold setB
  simpa only [List.length_nil, Nat.zero_add] using this
theorem setB_nil : setB [] = [] := rfl

/-! ### what the library's sort and compact leave -/
theorem compact_mem (d : Array Int) (m : Nat) (x : Int) : x ∈ compactUpTo d m ↔ ∃ j, j < m ∧ d[j]! = x := by
  induction m with
  | zero => simp [compactUpTo]
  | succ m ih =>
    rw [compactUpTo_succ, List.mem_append, ih]
    by_cases h : keeps d m = true
    · rw [if_pos h, List.mem_singleton]
      constructor
      · rintro (⟨j, h1, h2⟩ | h)
        · exact ⟨j, by omega, h2⟩
        · exact ⟨m, by omega, h.symm⟩
      · rintro ⟨j, h1, h2⟩
        by_cases hj : j = m
        · subst hj; exact .inr h2.symm
        · exact .inl ⟨j, by omega, h2⟩
    · rw [if_neg h]
      have hk : m ≠ 0 ∧ d[m]! = d[m - 1]! := by
        unfold keeps at h
        simpa using h
      constructor
      · rintro (⟨j, h1, h2⟩ | h)
        · exact ⟨j, by omega, h2⟩
        · cases h
      · rintro ⟨j, h1, h2⟩
        by_cases hj : j = m
        · subst hj; exact .inl ⟨j - 1, by omega, hk.2.symm.trans h2⟩
        · exact .inl ⟨j, by omega, h2⟩
theorem compact_asc (d : Array Int) (hs : ∀ i j, i ≤ j → j < d.size → d[i]! ≤ d[j]!) : ∀ m, m ≤ d.size → (compactUpTo d m).Pairwise (· < ·) := by
  intro m
  induction m with
  | zero => intro _; simp [compactUpTo]
  | succ m ih =>
    intro hm
    rw [compactUpTo_succ]
    by_cases h : keeps d m = true
    · rw [if_pos h, List.pairwise_append]
      refine ⟨ih (by omega), by simp, fun x hx y hy => ?_⟩
      rw [List.mem_singleton] at hy
      subst hy
      obtain ⟨j, hj, rfl⟩ := (compact_mem d m x).1 hx
      have hk : m = 0 ∨ d[m]! ≠ d[m - 1]! := by unfold keeps at h; exact of_decide_eq_true h
      rcases hk with hk | hk
      · omega
      · have h1 := hs j (m - 1) (by omega) (by omega)
        have h2 := hs (m - 1) m (by omega) (by omega)
        omega
    · rw [if_neg h, List.append_nil]; exact ih (by omega)

def sortB (l : List Int) : List Int := compact (l.mergeSort fun x y => decide (x ≤ y))
theorem sortB_eq (l : List Int) : sortB l = setB l := by
  have hs : (l.mergeSort fun x y => decide (x ≤ y)).Pairwise (· ≤ ·) := by
    have := List.pairwise_mergeSort (le := fun (x y : Int) => decide (x ≤ y)) (fun a b c h1 h2 => by simp at *; omega) (fun _ _ => by simp; omega) l
    exact this.imp (fun h => by simpa using h)
  have hm : ∀ x, x ∈ (l.mergeSort fun x y => decide (x ≤ y)) ↔ x ∈ l := fun x => (List.mergeSort_perm l _).mem_iff
  unfold sortB
  generalize (l.mergeSort fun x y => decide (x ≤ y)) = s at hs hm
  refine asc_eq (compact_asc s.toArray ?_ _ (by simp)) (asc_setB l) fun x => ?_
  · intro i j hij hj
    have hj' : j < s.length := by simpa using hj
    rcases Nat.eq_or_lt_of_le hij with rfl | h
    · exact Int.le_refl _
    · have := List.pairwise_iff_getElem.1 hs i j (by omega) hj' h
      simpa [hj', show i < s.length by omega] using this
  · rw [mem_setB, ← hm, compact, compact_mem]
    constructor
    · rintro ⟨j, hj, rfl⟩
      simp only [List.getElem!_toArray, getElem!_pos s j hj]
      exact List.getElem_mem hj
    · intro hx
      obtain ⟨j, hj, rfl⟩ := List.getElem_of_mem hx
      exact ⟨j, hj, by simp [hj]⟩
theorem sortB_len (l : List Int) : (sortB l).length ≤ l.length := by rw [sortB_eq]; exact len_setB l

/-! ### the operations -/
theorem set_add (l : List Int) (n : Int) : setB (l ++ [n]) = putB (setB l) n := setB_snoc l n
theorem set_pick (a : List Int) (p : Int → Bool) : (setB a).filter p = setB (a.filter p) :=
  asc_eq ((asc_setB a).sublist List.filter_sublist) (asc_setB _) fun x => by simp [mem_setB]
theorem contains_setB (l : List Int) (x : Int) : (setB l).contains x = l.contains x := by
  rw [Bool.eq_iff_iff]; simp [mem_setB]
def interB (a b : List Int) : List Int := setB (a.filter fun x => b.contains x)
def diffB (a b : List Int) : List Int := setB (a.filter fun x => !b.contains x)
theorem inter_eq (a b : List Int) : (setB a).filter (fun x => (setB b).contains x) = interB a b := by
  unfold interB
  rw [← set_pick a]
  simp only [contains_setB]
theorem diff_eq (a b : List Int) : (setB a).filter (fun x => !(setB b).contains x) = diffB a b := by
  unfold diffB
  rw [← set_pick a]
  simp only [contains_setB]
/-- Is x among the elements? -/
def hasB (l : List Int) (x : Int) : Bool := l.contains x
def eqB (a b : List Int) : Bool := decide (a = b)
def subB (a b : List Int) : Bool := a.all fun x => b.contains x
theorem sub_eq (a b : List Int) : subB a b = ((diffB a b).length == 0) := by
  unfold subB diffB
  rw [Bool.eq_iff_iff, beq_iff_eq, List.length_eq_zero_iff]
  simp only [List.all_eq_true, List.eq_nil_iff_forall_not_mem, mem_setB, List.mem_filter]
  simp
/-- Strictly ascending, as a test. -/
def ascB (l : List Int) : Bool := decide (∀ j, (h : j < l.length) → 0 < j → l[j - 1] < l[j])
theorem ascB_iff {l : List Int} : ascB l = true ↔ ∀ j, (h : j < l.length) → 0 < j → l[j - 1] < l[j] := by simp [ascB]
theorem ascB_of {l : List Int} (h : l.Pairwise (· < ·)) : ascB l = true :=
  ascB_iff.2 fun j hj h0 => List.pairwise_iff_getElem.1 h (j - 1) j (by omega) hj (by omega)
theorem ascB_bad {l : List Int} {j : Nat} (h : j < l.length) (h0 : 0 < j) (hb : l[j] ≤ l[j - 1]) : ascB l = false := by
  rcases e : ascB l with _ | _
  · rfl
  · have := ascB_iff.1 e j h h0; omega
def clampB (x : Int) : Int := min (max x (-100000)) 100000
end Go.Proofs.Ytfgmbgdbnjpclaa
