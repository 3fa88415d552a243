/- DERIVED. append OF INTS onto a row of the call's own: whatever slice of ints is appended. -/
import Derived.Test.YtfgmbgdbnjpclaaIntS
import Derived.OwnWalk
import Derived.Laws.AppendOwnNone
namespace Go.Proofs.Ytfgmbgdbnjpclaa
open Go.RowKit

/-- A nil slice has no room. -/
def NilOk (v : Value) : Prop := ∀ n c, v = .slice none n c → c = 0
theorem nilOk_some (ad : Addr) (n c : Nat) : NilOk (.slice (some ad) n c) := fun n' c' h => by cases h
theorem nilOk_ite (p : Prop) [Decidable p] (a b : Addr) (n c : Nat) : NilOk (.slice (if p then some a else some b) n c) := by
  split
  · exact nilOk_some _ _ _
  · exact nilOk_some _ _ _
theorem rd_zero (w : World) (A : Option Addr) (n c : Nat) (hn : n = 0) : Rd w (.slice A n c) [] := ⟨by simp, A, c, by subst hn; rfl, .inl rfl⟩
theorem nilOk_own {w : World} {base : Nat} {e : TypeId} {size : Nat} {v : Value} {n : Nat} {xs : List Value} (h : w.ownsRow base e size v n xs) : NilOk v := by
  rcases h.2 with ⟨rfl, _⟩ | ⟨g, cap, cur, rfl, _⟩
  · intro n c h; cases h; rfl
  · exact nilOk_some _ _ _
theorem rd_new (w : World) (x : Int) (t : TypeId) : Rd (w.alloc (.cells #[.int .i64 x] t)) (.slice (some ⟨w.heap.size, 0, none⟩) 1 1) ([x].map (.int .i64)) :=
  ⟨by simp [maxLen], _, _, rfl, .inr ⟨w.heap.size, 0, rfl, by simp, fun j hj => by
    have h := new_cell w (.int .i64 x) t j _ (List.getElem?_eq_getElem hj)
    have hadd : (⟨w.heap.size, 0, none⟩ : Addr).add j = ⟨w.heap.size, 0 + j, none⟩ := by unfold Addr.add; split <;> simp_all
    rw [hadd] at h
    exact h⟩⟩
theorem rd_alloc {w : World} {v : Value} {xs : List Value} (h : Rd w v xs) (o : Obj) : Rd (w.alloc o) v xs :=
  h.below ((Below.refl _ _).alloc (Nat.le_refl _) _) (Nat.le_refl _)

theorem step_below {B : Nat} {w0 w w' : World} {o : Obj} {r : Option Nat} (hb : Below B w0 w) (hg : (w.alloc o).grownBy w' r) (hB : B ≤ w.heap.size) (hv : ∀ i, r = some i → B ≤ i) : Below B w0 w' :=
  (hb.alloc hB _).grown hg (by simp; omega) hv
theorem own_base {w : World} {base base' : Nat} {e : TypeId} {size : Nat} {v : Value} {n : Nat} {xs : List Value} (h : w.ownsRow base e size v n xs) (hb : base' ≤ base) : w.ownsRow base' e size v n xs := by
  refine ⟨h.1, ?_⟩
  rcases h.2 with h | ⟨g, cap, cur, h1, h2, h3⟩
  · exact .inl h
  · exact .inr ⟨g, cap, cur, h1, Nat.le_trans hb h2, h3⟩
theorem own_mem {w : World} {base : Nat} {e : TypeId} {size : Nat} {v : Value} {n : Nat} {xs : List Value} (h : w.ownsRow base e size v n xs) : ∀ i, v.ownBlock = some i → base ≤ i := fun i hi => (h.lt i hi).1
theorem app_rd {w : World} {ops : Array Oper} {rest : List Oper} {o : Oper} {a : Act} {Q : Exit → Act → World → Prop} (hgd : o.guard = none) (s x : Operand) (t : TypeId)
    (ho : o.op = .call { callee := .builtin .append, args := #[s, x], argTypes := #[t, t] }) (ht : Try.prog.underlying t = some (.slice 3))
    (base : Nat) (v vx : Value) (xs ys : List Int) (hs : a.eval s = v) (hx : a.eval x = vx) (hown : w.ownsRow base 3 1 v xs.length (xs.map (.int .i64))) (hr : Rd w vx (ys.map (.int .i64))) (hnil : NilOk vx)
    (hlen : xs.length + ys.length ≤ 1099511627776) (hbase : base ≤ w.heap.size)
    (h : ∀ v' w', w'.ownsRow base 3 1 v' (xs ++ ys).length ((xs ++ ys).map (.int .i64)) → w.grownBy w' v.ownBlock → (v ≠ .slice none 0 0 ∨ ys ≠ [] → v' ≠ .slice none 0 0) → wpList Try.prog ops Q rest (a.put o.dst v') w') :
    wpList Try.prog ops Q (o :: rest) a w := by
  obtain ⟨i0, hi, hz0, hz1, hz2⟩ := info_parts infoInt
  obtain ⟨hl, A, c, rfl, hA⟩ := hr
  rw [List.length_map] at hx
  have key : ∀ ad, A = some ad → (∀ j u, (ys.map (Value.int .i64))[j]? = some u → w.cell? (ad.add j) = some u) → wpList Try.prog ops Q (o :: rest) a w := by
    intro ad had hc
    subst had
    refine wpList_append_own w hgd s x t ho base 3 i0 (.int .i64 0) 1 8 ht hi hz0 hz1 hz2 rfl (by decide) v xs.length (xs.map (.int .i64)) hs hown ad ys.length c (ys.map (.int .i64)) hx (by simp) hc
      (by intro u hu; obtain ⟨y, _, rfl⟩ := List.mem_map.1 hu; rfl) (by unfold maxLen; omega) (by omega) hbase ?_
    intro v' w' h1 h2 h3
    refine h v' w' (by rw [List.length_append, List.map_append]; exact h1) h2 ?_
    intro hor hv'
    obtain ⟨h4, h5⟩ := h3.1 hv'
    rcases hor with hor | hor
    · exact hor h4
    · exact hor (List.eq_nil_of_length_eq_zero h5)
  rcases hA with hA | ⟨b, off, rfl, hb, hc⟩
  · have hy : ys = [] := by simpa using hA
    subst hy
    cases A with
    | some ad => exact key ad rfl (by intro j u hu; simp at hu)
    | none =>
      have hc0 : c = 0 := hnil _ _ rfl
      subst hc0
      refine wpList_append_own_none hgd s x t ho base 3 i0 1 ht hi v xs.length (xs.map (.int .i64)) hs hown hx ?_
      exact h v w (by simpa using hown) ⟨rfl, rfl, rfl, Nat.le_refl _, fun _ _ _ => rfl⟩ (by
        intro hor; rcases hor with hor | hor
        · exact hor
        · exact absurd rfl hor)
  · refine key _ rfl fun j u hu => ?_
    obtain ⟨hj, rfl⟩ := List.getElem?_eq_some_iff.1 hu
    have hadd : (⟨b, off, none⟩ : Addr).add j = ⟨b, off + j, none⟩ := by unfold Addr.add; split <;> simp_all
    rw [hadd]
    exact hc j hj
end Go.Proofs.Ytfgmbgdbnjpclaa
