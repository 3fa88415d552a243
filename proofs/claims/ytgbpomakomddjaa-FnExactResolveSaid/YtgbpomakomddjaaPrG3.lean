/- DERIVED. CONTRACTS: elementAt over resources and activities; IsMachine, SetupTime, ProjectStats, of the model and of the program. -/
import Derived.Test.YtgbpomakomddjaaPrB
import Derived.Deep.QuietTactic

section
namespace Go.Proofs.Ytgbpomakomddjaa
open Go.RowKit Go.Shelf
set_option linter.unusedVariables false

/-- The ands of the program in the order of the model. -/
theorem pok_false_0 {a b c d e f g h i : Bool}  (h0 : (a && e) = false) : false = (a && (b && (c && (d && (e && (f && (g && (h && i)))))))) := by
  cases a <;> cases b <;> cases c <;> cases d <;> cases e <;> cases f <;> cases g <;> cases h <;> cases i <;> simp_all
theorem pok_false_1 {a b c d e f g h i : Bool} (h0 : (a && e) = true) (h1 : (f) = false) : false = (a && (b && (c && (d && (e && (f && (g && (h && i)))))))) := by
  cases a <;> cases b <;> cases c <;> cases d <;> cases e <;> cases f <;> cases g <;> cases h <;> cases i <;> simp_all
theorem pok_false_2 {a b c d e f g h i : Bool} (h0 : (a && e) = true) (h1 : (f) = true) (h2 : (b && g) = false) : false = (a && (b && (c && (d && (e && (f && (g && (h && i)))))))) := by
  cases a <;> cases b <;> cases c <;> cases d <;> cases e <;> cases f <;> cases g <;> cases h <;> cases i <;> simp_all
theorem pok_false_3 {a b c d e f g h i : Bool} (h0 : (a && e) = true) (h1 : (f) = true) (h2 : (b && g) = true) (h3 : (c && h) = false) : false = (a && (b && (c && (d && (e && (f && (g && (h && i)))))))) := by
  cases a <;> cases b <;> cases c <;> cases d <;> cases e <;> cases f <;> cases g <;> cases h <;> cases i <;> simp_all
theorem pok_false_4 {a b c d e f g h i : Bool} (h0 : (a && e) = true) (h1 : (f) = true) (h2 : (b && g) = true) (h3 : (c && h) = true) (h4 : (d && i) = false) : false = (a && (b && (c && (d && (e && (f && (g && (h && i)))))))) := by
  cases a <;> cases b <;> cases c <;> cases d <;> cases e <;> cases f <;> cases g <;> cases h <;> cases i <;> simp_all
theorem pok_true {a b c d e f g h i : Bool} (h0 : (a && e) = true) (h1 : (f) = true) (h2 : (b && g) = true) (h3 : (c && h) = true) (h4 : (d && i) = true) : true = (a && (b && (c && (d && (e && (f && (g && (h && i)))))))) := by
  cases a <;> cases b <;> cases c <;> cases d <;> cases e <;> cases f <;> cases g <;> cases h <;> cases i <;> simp_all

end Go.Proofs.Ytgbpomakomddjaa
end

section
namespace Go.Proofs.Ytgbpomakomddjaa
open Go.RowKit Go.Shelf
set_option linter.unusedVariables false

end Go.Proofs.Ytgbpomakomddjaa
end

section
namespace Go.Proofs.Ytgbpomakomddjaa
open Go.RowKit Go.Shelf
set_option linter.unusedVariables false

def atI {α : Type} (xs : List α) (i : Int) : Option α := if 0 ≤ i then xs[i.toNat]? else none
theorem atI_no {α : Type} {xs : List α} {i : Int} (h : ¬ (0 ≤ i ∧ i < (xs.length : Int))) : atI xs i = none := by
  unfold atI
  by_cases h0 : 0 ≤ i
  · rw [if_pos h0, List.getElem?_eq_none (by omega)]
  · rw [if_neg h0]
theorem atI_yes {α : Type} {xs : List α} {n : Nat} (h : n < xs.length) : atI xs (n : Int) = some xs[n] := by
  unfold atI
  rw [if_pos (by omega), Int.toNat_natCast, List.getElem?_eq_getElem h]
def machB (p : Pj) (r : Int) : Bool := match atI p.ress r with | some x => decide (0 < (x.su.length : Int)) | none => false
theorem machB_no {p : Pj} {r : Int} (h : ¬ (0 ≤ r ∧ r < (p.ress.length : Int))) : machB p r = false := by rw [machB, atI_no h]
theorem machB_yes {p : Pj} {n : Nat} (h : n < p.ress.length) : machB p (n : Int) = decide (0 < (p.ress[n].su.length : Int)) := by rw [machB, atI_yes h]

/-- A slice of ints built at once. -/
theorem row1_new (w : World) (e : TypeId) (xs : List Int) (hx : xs.length ≤ maxLen) : (flat e (xs.map (.int .i64))).own (w.alloc (.cells ⟨xs.map (.int .i64)⟩ e)) w.heap.size (.slice (some ⟨w.heap.size, 0, none⟩) xs.length xs.length) [w.heap.size] ∧ Below w.heap.size w (w.alloc (.cells ⟨xs.map (.int .i64)⟩ e)) := by
  refine ⟨⟨xs.map (.int .i64), [], ⟨by simp, .inr ⟨w.heap.size, xs.length, ⟨xs.map (.int .i64)⟩, by simp, Nat.le_refl _, heap_alloc_new w _, by simp, hx, by simp, List.take_of_length_le (by simp)⟩⟩, ownL_ones.2 ⟨rfl, rfl⟩, by simp [Value.ownBlock]⟩, (Below.refl _ _).alloc (Nat.le_refl _) _⟩
def modesN (al : List Ac) : Nat := (al.map fun a => a.ms.length).sum
theorem modesN_take {al : List Ac} {k : Nat} (h : k < al.length) : modesN (al.take (k + 1)) = modesN (al.take k) + al[k].ms.length := by
  unfold modesN
  rw [List.take_succ_eq_append_getElem h, List.map_append, List.sum_append]
  simp
theorem modesN_le (al : List Ac) : ∀ {n : Nat}, (∀ a ∈ al, a.ms.length ≤ n) → modesN al ≤ al.length * n := by
  intro n h
  unfold modesN
  induction al with
  | nil => simp
  | cons a al ih =>
    have h1 := h a (by simp)
    have h2 := ih (fun x hx => h x (by simp [hx]))
    simp only [List.map_cons, List.sum_cons, List.length_cons, Nat.succ_mul]
    omega
noncomputable def statsB (p : Pj) : List Int := if pokB p = true then [(p.acts.length : Int), (modesN p.acts : Int), (p.lks.length : Int), (p.ress.length : Int), (p.stk.length : Int)] else []
theorem statsB_len (p : Pj) : (statsB p).length ≤ 5 := by unfold statsB; split <;> simp
theorem pok_acts {p : Pj} (h : pokB p = true) : p.acts.length ≤ 6 ∧ ∀ a ∈ p.acts, aokB a p.ress.length p.stk.length = true := by
  simp only [pokB, Bool.and_eq_true, List.all_eq_true] at h
  exact ⟨by have := (inB_iff.1 h.2.1).2; omega, h.2.2.2.2.2.1⟩
theorem aok_modes {a : Ac} {r s : Int} (h : aokB a r s = true) : a.ms.length ≤ 3 ∧ (∀ m ∈ a.ms, mokB m r s = true) ∧ inB a.fa 0 3 = true := by
  simp only [aokB, Bool.and_eq_true, List.all_eq_true] at h
  exact ⟨by have := (inB_iff.1 h.2.2.2).2; omega, h.1, h.2.2.1⟩
theorem mok_us {m : Md} {r s : Int} (h : mokB m r s = true) : (m.us.length : Int) = r ∧ ∀ x ∈ m.us, inB x 0 20 = true := by
  simp only [mokB, numsB, Bool.and_eq_true, List.all_eq_true, decide_eq_true_eq] at h
  exact ⟨h.2.1.2, h.2.1.1⟩

end Go.Proofs.Ytgbpomakomddjaa
end
