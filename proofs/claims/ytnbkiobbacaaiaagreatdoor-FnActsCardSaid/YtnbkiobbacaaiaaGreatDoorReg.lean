/- DERIVED. A region that draws its order, by an invariant over the set of the operations that have come up. No dump. -/
import Derived.Orders
import Derived.RegionTactic
namespace Go.Proofs.YtnbkiobbacaaiaaGreatDoor

def left (l : List Bool) : Nat := l.countP (fun b => !b)
theorem left_set : ∀ (l : List Bool) (i : Nat), l[i]? = some false → left (l.set i true) + 1 = left l
  | b :: l, 0, h => by simp at h; subst h; simp [left]
  | b :: l, i + 1, h => by
    have := left_set l i (by simpa using h)
    unfold left at this ⊢
    simp only [List.set_cons_succ, List.countP_cons]
    omega
theorem left_zero {l : List Bool} (h : left l = 0) : ∀ b ∈ l, b = true := by
  intro b hb
  have := List.countP_eq_zero.1 h b hb
  simpa using this
theorem left_replicate (n : Nat) : left (List.replicate n false) = n := by simp [left, List.countP_replicate]

section
variable {P : Program} {ops : Array Oper} {Q : Exit → Act → World → Prop} {md : Region.Mode}
theorem ready_mem {L : Array Bool} {i : Nat} (h : i ∈ Region.ready md ops L) : i < ops.size ∧ L.getD i true = false := by
  unfold Region.ready at h
  rw [List.mem_filter, List.mem_range] at h
  refine ⟨h.1, ?_⟩
  have := h.2
  rw [Bool.and_eq_true] at this
  simpa using this.1
theorem wpAny_by (I : Array Bool → Act → World → Prop)
    (step : ∀ L a w, I L a w → ∀ i ∈ Region.ready md ops L, ∀ K : Act → World → Prop, (∀ a w, I (L.setIfInBounds i true) a w → K a w) → wpOp P ops Q i K a w)
    (done : ∀ L a w, I L a w → Region.ready md ops L = [] → Q .normal a w) :
    ∀ (fuel : Nat) (L : Array Bool) (a : Act) (w : World), L.size = ops.size → left L.toList ≤ fuel → I L a w → wpAny P md ops Q fuel L a w
  | 0, L, a, w, hs, hf, h => by
    have hr : Region.ready md ops L = [] := by
      rw [List.eq_nil_iff_forall_not_mem]
      intro i hi
      obtain ⟨h1, h2⟩ := ready_mem hi
      have hl : i < L.size := by omega
      have h3 := left_zero (Nat.le_zero.1 hf) (L[i]) (by simp)
      simp [Array.getD, hl, h3] at h2
    exact ⟨hr, done L a w h hr⟩
  | fuel + 1, L, a, w, hs, hf, h => by
    refine ⟨done L a w h, fun i hi => ?_⟩
    obtain ⟨h1, h2⟩ := ready_mem hi
    have hl : i < L.size := by omega
    have hLi : L.toList[i]? = some false := by
      have : L[i] = false := by simpa [Array.getD, hl] using h2
      rw [Array.getElem?_toList, Array.getElem?_eq_getElem hl, this]
    refine step L a w h i hi _ (fun a' w' h' => wpAny_by I step done fuel _ a' w' (by simpa using hs) ?_ h')
    have := left_set L.toList i hLi
    rw [Array.toList_setIfInBounds]
    omega
theorem wp_region_by {id : Nat} (hm : P.follows .mixedOrders = true) (I : Array Bool → Act → World → Prop)
    (step : ∀ L a w, I L a w → ∀ i ∈ Region.ready .any ops L, ∀ K : Act → World → Prop, (∀ a w, I (L.setIfInBounds i true) a w → K a w) → wpOp P ops Q i K a w)
    (done : ∀ L a w, I L a w → Region.ready .any ops L = [] → Q .normal a w) {a : Act} {w : World} (h : I (Array.replicate ops.size false) a w.drew) : (Code.region id ops true).wp P Q a w :=
  wp_region_any hm (wpAny_by I step done _ _ _ _ (by simp) (by rw [Array.toList_replicate, left_replicate]; exact Nat.le_refl _) h)
end

/-- All sets of n operations. -/
def allL : Nat → List (List Bool)
  | 0 => [[]]
  | n + 1 => (allL n).flatMap fun l => [false :: l, true :: l]
theorem mem_allL : ∀ l : List Bool, l ∈ allL l.length
  | [] => by simp [allL]
  | b :: l => by
    simp only [List.length_cons, allL, List.mem_flatMap]
    exact ⟨l, mem_allL l, by cases b <;> simp⟩
def regCheck (md : Region.Mode) (ops : Array Oper) (dep : Nat → List Bool → Bool) : Bool := (allL ops.size).all fun l => (Region.ready md ops ⟨l⟩).all fun i => dep i l
def regDone (md : Region.Mode) (ops : Array Oper) : Bool := (allL ops.size).all fun l => !(Region.ready md ops ⟨l⟩).isEmpty || l.all id
theorem reg_dep {md : Region.Mode} {ops : Array Oper} {dep : Nat → List Bool → Bool} {L : Array Bool} {i : Nat} (hc : regCheck md ops dep = true) (hs : L.size = ops.size) (hi : i ∈ Region.ready md ops L) : dep i L.toList = true := by
  have hm : L.toList ∈ allL ops.size := by have := mem_allL L.toList; rwa [Array.length_toList, hs] at this
  exact List.all_eq_true.1 (List.all_eq_true.1 hc _ hm) i hi
theorem reg_done {md : Region.Mode} {ops : Array Oper} {L : Array Bool} (hc : regDone md ops = true) (hs : L.size = ops.size) (hr : Region.ready md ops L = []) : ∀ b ∈ L.toList, b = true := by
  have hm : L.toList ∈ allL ops.size := by have := mem_allL L.toList; rwa [Array.length_toList, hs] at this
  have := List.all_eq_true.1 hc _ hm
  rw [show (⟨L.toList⟩ : Array Bool) = L from rfl, hr] at this
  have h3 : L.toList.all id = true := by simpa only [List.isEmpty_nil, Bool.not_true, Bool.false_or] using this
  exact fun b hb => List.all_eq_true.1 h3 b hb
/-- The k-th operation has come up. -/
def on (L : Array Bool) (k : Nat) : Prop := L.toList[k]? = some true
theorem on_set {L : Array Bool} {i k : Nat} (h : on (L.setIfInBounds i true) k) : k = i ∨ on L k := by
  unfold on at *
  rw [Array.toList_setIfInBounds] at h
  by_cases e : k = i
  · exact .inl e
  · rw [List.getElem?_set_ne (by omega)] at h; exact .inr h
theorem on_add {L : Array Bool} {i k : Nat} (h : on L k) : on (L.setIfInBounds i true) k := by
  unfold on at *
  rw [Array.toList_setIfInBounds]
  by_cases e : k = i
  · subst e
    rw [List.getElem?_set_self (List.getElem?_eq_some_iff.1 h).1]
  · rw [List.getElem?_set_ne (by omega)]; exact h
theorem on_new {L : Array Bool} {i : Nat} (h : i < L.size) : on (L.setIfInBounds i true) i := by
  unfold on
  rw [Array.toList_setIfInBounds, List.getElem?_set_self (by simpa using h)]
theorem on_getD {l : List Bool} {k : Nat} (h : l.getD k false = true) : l[k]? = some true := by
  rw [List.getD] at h
  rcases hx : l[k]? with _ | b
  · rw [hx] at h; cases h
  · rw [hx] at h; exact congrArg some h
theorem not_on {L : Array Bool} {k : Nat} (h : L.getD k true = false) : ¬ on L k := by
  intro ho
  unfold on at ho
  rw [Array.getElem?_toList] at ho
  rw [Array.getD_eq_getD_getElem?, ho] at h
  cases h
theorem on_none {n k : Nat} (h : on (Array.replicate n false) k) : False := by
  unfold on at h
  rw [Array.toList_replicate, List.getElem?_replicate] at h
  split at h
  · cases h
  · cases h
theorem on_all {L : Array Bool} (h : ∀ b ∈ L.toList, b = true) {k : Nat} (hk : k < L.size) : on L k := by
  unfold on
  have hk' : k < L.toList.length := by simpa using hk
  rw [List.getElem?_eq_getElem hk', h _ (List.getElem_mem hk')]
end Go.Proofs.YtnbkiobbacaaiaaGreatDoor
