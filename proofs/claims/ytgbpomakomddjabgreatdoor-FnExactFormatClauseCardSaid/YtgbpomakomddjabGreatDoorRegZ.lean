/- DERIVED. A region that draws its order, held by a condition that its last operation (number z, for which all others are waited) may break. No dump. -/
import Derived.Test.YtgbpomakomddjabGreatDoorCore
import Derived.OrdersHeld
import Derived.Deep.RegionHeld3
namespace Go.Proofs.YtgbpomakomddjabGreatDoor
open Go.RowKit
set_option linter.unusedVariables false

section
variable {P : Program} {md : Region.Mode} {ops : Array Oper} {Q : Exit → Act → World → Prop} {S : World → Prop} {z : Nat}
/-- S is asked only where z has not come up. -/
def wpAnyZ (P : Program) (md : Region.Mode) (ops : Array Oper) (Q : Exit → Act → World → Prop) (S : World → Prop) (z : Nat) : Nat → Array Bool → Act → World → Prop
  | 0, l, a, w => Region.ready md ops l = [] ∧ Q .normal a w
  | f + 1, l, a, w => (Region.ready md ops l = [] → Q .normal a w) ∧ ∀ i ∈ Region.ready md ops l,
      wpOp P ops Q i (fun b u => ((l.setIfInBounds i true).getD z true = false → S u) ∧ wpAnyZ P md ops Q S z f (l.setIfInBounds i true) b u) a w
theorem wpAnyZ_any : ∀ (f : Nat) (l : Array Bool) (a : Act) (w : World), wpAnyZ P md ops Q S z f l a w → wpAny P md ops Q f l a w
  | 0, _, _, _, h => h
  | f + 1, _, _, _, h => ⟨h.1, fun i hi => wpOp_mono (fun b u hb => wpAnyZ_any f _ b u hb.2) (h.2 i hi)⟩
/-- z waits for i. -/
def waitsB (md : Region.Mode) (ops : Array Oper) (z i : Nat) : Bool := match ops[z]? with | some o => o.after.any (fun e => Region.binds md e && e.on == i) | none => false
theorem waits_ne {i : Nat} {l : Array Bool} (h : waitsB md ops z i = true) (hi : l.getD i true = false) : z ∉ Region.ready md ops l := fun hz => by
  obtain ⟨_, o, ho, hall⟩ := mem_ready.1 hz
  rw [waitsB, ho] at h
  obtain ⟨e, he, hb⟩ := Array.any_eq_true'.1 h
  rw [Bool.and_eq_true, beq_iff_eq] at hb
  have h1 := hall e he hb.1
  rw [hb.2] at h1
  simp only [Array.getD_eq_getD_getElem?] at hi h1
  cases hc : l[i]? <;> rw [hc] at hi h1 <;> simp at hi h1
  rw [hi] at h1
  cases h1
theorem wpAnyZ_first {i : Nat} {o : Oper} {v : Value} (hi : ops[i]? = some o) (hs : Region.noSelect ops = true) (hw : waitsB md ops z i = true) (hQ : ∀ c a w, Q (.panic c) (a.put o.dst v) w → Q (.panic c) a w) :
    ∀ (f : Nat) (l : Array Bool) (a : Act) (w : World), (∀ j oj, ops[j]? = some oj → j ≠ i → l.getD j true = false → (∀ e ∈ oj.after, Region.binds md e = true → e.on ≠ i) → o.apart ops oj = true) →
      i ∈ Region.ready md ops l → l.getD z true = false → z ≠ i → YieldsIf P ops S o v a → S w → wpAnyZ P md ops Q S z f (l.setIfInBounds i true) (a.put o.dst v) w → wpAnyZ P md ops Q S z (f + 1) l a w
  | f, l, a, w, hfree, hr, hz, hzi, hy, hS, H => by
    refine ⟨fun h0 => absurd (h0 ▸ hr) (by simp), fun j hj => ?_⟩
    have hi0 := (mem_ready.1 hr).1
    by_cases hji : j = i
    · subst hji
      exact hy.wpOp hi hS ⟨fun _ => hS, H⟩
    · have hjz : z ≠ j := fun e => waits_ne hw hi0 (e ▸ hj)
      match f, H with
      | 0, H => exact absurd (H.1 ▸ ready_mono hj hji) (by simp)
      | f + 1, H =>
        obtain ⟨hun, oj, hoj, hall⟩ := mem_ready.1 hj
        have hnot : ∀ e ∈ oj.after, Region.binds md e = true → e.on ≠ i := fun e he hb heq => by
          have h1 := hall e he hb
          rw [heq] at h1
          simp only [Array.getD_eq_getD_getElem?] at hi0 h1
          cases hc : l[i]? <;> rw [hc] at hi0 h1 <;> simp at hi0 h1
          rw [hi0] at h1
          cases h1
        have h2 := wpOp_putIf hoj (hfree j oj hoj hji hun hnot) (fun cs b => Region.noSelect_spec hs i o cs b hi) (fun cs b => Region.noSelect_spec hs j oj cs b hoj) hQ hy (H.2 j (ready_mono hj hji))
        have hri : i ∈ Region.ready md ops (l.setIfInBounds j true) := ready_mono hr (Ne.symm hji)
        have hz2 : (l.setIfInBounds j true).getD z true = false := by rw [getD_set_ne true (Ne.symm hjz)]; exact hz
        have hz3 : ((l.setIfInBounds i true).setIfInBounds j true).getD z true = false := by rw [getD_set_ne true (Ne.symm hjz), getD_set_ne true (Ne.symm hzi)]; exact hz
        refine wpOp_mono (fun b u hb => ⟨fun _ => hb.2.1 hz3, ?_⟩) h2
        refine wpAnyZ_first hi hs hw hQ f _ b u (fun k ok hok hki hku hno => hfree k ok hok hki ?_ hno) hri hz2 hzi hb.1 (hb.2.1 hz3) ?_
        · by_cases hjk : j = k
          · subst hjk; exact hun
          · rw [getD_set_ne true hjk] at hku; exact hku
        · rw [Array.setIfInBounds_comm _ _ hji]
          exact hb.2.2
/-- Number i taken first. -/
theorem wpAnyZ_take {i : Nat} {o : Oper} {v : Value} {f : Nat} {l : Array Bool} {a : Act} {w : World} (hi : ops[i]? = some o) (hs : Region.noSelect ops = true) (hf : Region.free md ops l i = true)
    (hr : ((Region.ready md ops l).contains i && (waitsB md ops z i && (!(l.getD z true) && !(z == i)))) = true) (hQ : ∀ c a w, Q (.panic c) (a.put o.dst v) w → Q (.panic c) a w) (hy : YieldsIf P ops S o v a) (hS : S w)
    (h : wpAnyZ P md ops Q S z f (l.setIfInBounds i true) (a.put o.dst v) w) : wpAnyZ P md ops Q S z (f + 1) l a w := by
  simp only [Bool.and_eq_true, Bool.not_eq_true', beq_eq_false_iff_ne] at hr
  exact wpAnyZ_first hi hs hr.2.1 hQ f l a w (Region.free_spec hi hf) (by simpa using hr.1) hr.2.2.1 hr.2.2.2 hy hS h
/-- One operation alone may come up, and S is to be shown behind it. -/
theorem wpAnyZ_one {i : Nat} {o : Oper} {f : Nat} {l : Array Bool} {a : Act} {w : World} (hr : Region.ready md ops l = [i]) (ho : ops[i]? = some o)
    (h : ∀ K : Act → World → Prop, Shut (∀ a w, S w → (S w → wpAnyZ P md ops Q S z f (l.setIfInBounds i true) a w) → K a w) → if Region.wanted o (yielded ops a.tmps) = true then Oper.wp P o a w K Q else K (a.put o.dst undef) w) :
    wpAnyZ P md ops Q S z (f + 1) l a w := by
  refine ⟨fun h0 => absurd (hr.symm.trans h0) (by simp), fun j hj => ?_⟩
  rw [hr, List.mem_singleton] at hj
  subst hj
  exact wpOp_step ho (fun K hK => h K (fun a w hS hW => hK a w ⟨fun _ => hS, hW hS⟩))
/-- The last one: it alone may come up; nothing is left behind it. -/
theorem wpAnyZ_last {o : Oper} {f : Nat} {l : Array Bool} {a : Act} {w : World} (hr : Region.ready md ops l = [z]) (hd : (Region.ready md ops (l.setIfInBounds z true) == [] && decide (z < l.size)) = true) (ho : ops[z]? = some o)
    (h : ∀ K : Act → World → Prop, Shut (∀ a w, Q .normal a w → K a w) → if Region.wanted o (yielded ops a.tmps) = true then Oper.wp P o a w K Q else K (a.put o.dst undef) w) :
    wpAnyZ P md ops Q S z (f + 1) l a w := by
  simp only [Bool.and_eq_true, beq_iff_eq, decide_eq_true_eq] at hd
  refine ⟨fun h0 => absurd (hr.symm.trans h0) (by simp), fun j hj => ?_⟩
  rw [hr, List.mem_singleton] at hj
  subst hj
  refine wpOp_step ho (fun K hK => h K (fun a w hq => hK a w ⟨fun e => absurd e (by simp [Array.getD, hd.2]), ?_⟩))
  cases f with
  | zero => exact ⟨hd.1, hq⟩
  | succ f => exact ⟨fun _ => hq, by rw [hd.1]; simp⟩
theorem wpAnyZ_start (z : Nat) {id : Nat} {a : Act} {w : World} (S : World → Prop) (hm : P.follows .mixedOrders = true) (hS : S w.drew) (h : S w.drew → wpAnyZ P .any ops Q S z ops.size (Array.replicate ops.size false) a w.drew) : (Code.region id ops true).wp P Q a w :=
  wp_region_any hm (wpAnyZ_any _ _ _ _ (h hS))
end
end Go.Proofs.YtgbpomakomddjabGreatDoor
