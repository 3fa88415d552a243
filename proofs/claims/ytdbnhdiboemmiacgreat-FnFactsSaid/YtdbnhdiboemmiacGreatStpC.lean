/- DERIVED. CONTRACTS: append of one pair; spec.l03Low, spec.MergeSteps, impl.mergedSteps, impl.MergeSteps, StepsEqual. -/
import Derived.Test.YtdbnhdiboemmiacGreatStpB
import Derived.Test.YtdbnhdiboemmiacGreatStpS
import Derived.Test.YtdbnhdiboemmiacGreatDats
import Derived.OwnWalk
import Derived.Laws.AppendOwnNone
namespace Go.Proofs.YtdbnhdiboemmiacGreat
open Go.RowKit

/-- append of one pair onto a row of the call's own. -/
theorem appP1 {w : World} {ops : Array Oper} {rest : List Oper} {o : Oper} {a : Act} {Q : Exit → Act → World → Prop} (hgd : o.guard = none) (s x : Operand) (t : TypeId)
    (ho : o.op = .call { callee := .builtin .append, args := #[s, x], argTypes := #[t, t] }) (ht : Tryz.prog.underlying t = some (.slice 100))
    (base : Nat) (v : Value) (g : Nat) (xs : List Pr) (p : Pr) (hs : a.eval s = v) (hx : a.eval x = .slice (some ⟨g, 0, none⟩) 1 1) (hown : w.ownsRow base 100 2 v xs.length (cellsP xs))
    (hc0 : w.cell? ⟨g, 0, none⟩ = some (.int .i64 p.1)) (hc1 : w.cell? ⟨g, 1, none⟩ = some (.int .i64 p.2))
    (hlen : xs.length + 1 ≤ 1099511627776) (hbase : base ≤ w.heap.size)
    (h : ∀ v' w', w'.ownsRow base 100 2 v' (xs ++ [p]).length (cellsP (xs ++ [p])) → w.grownBy w' v.ownBlock → wpList Tryz.prog ops Q rest (a.put o.dst v') w') :
    wpList Tryz.prog ops Q (o :: rest) a w := by
  obtain ⟨i0, hi, hz0, hz1, hz2⟩ := info_parts infoStep
  refine wpList_append_own w hgd s x t ho base 100 i0 _ 2 16 ht hi hz0 hz1 hz2 rfl (by decide) v xs.length (cellsP xs) hs hown ⟨g, 0, none⟩ 1 1 [.int .i64 p.1, .int .i64 p.2] hx rfl ?_
    (by intro u hu; simp at hu; rcases hu with rfl | rfl <;> rfl) (by unfold maxLen; omega) (by omega) hbase ?_
  · intro j u hu
    match j, hu with
    | 0, hu => simp at hu; subst hu; exact hc0
    | 1, hu => simp at hu; subst hu; exact hc1
  · intro v' w' h1 h2 _
    refine h v' w' ?_ h2
    rw [List.length_append, cellsP_app]
    exact h1
theorem newP0 (w : World) (x y : Value) (t : TypeId) {n : Nat} (h : n = w.heap.size) : (w.alloc (.cells #[x, y] t)).cell? ⟨n, 0, none⟩ = some x := by rw [h, World.cell?_alloc_at _ _ _ _ rfl]; rfl
theorem newP1 (w : World) (x y : Value) (t : TypeId) {n : Nat} (h : n = w.heap.size) : (w.alloc (.cells #[x, y] t)).cell? ⟨n, 1, none⟩ = some y := by rw [h, World.cell?_alloc_at _ _ _ _ rfl]; rfl

theorem madeP0 (w : World) : (w.alloc (.cells #[] 100)).ownsRow w.heap.size 100 2 (.slice (some ⟨w.heap.size, 0, none⟩) 0 0) 0 (cellsP []) := World.ownsRow_made w #[] 0 (Nat.le_refl _) (by decide) rfl

/-- A row of the call's own grown in a later world. -/
theorem step_grown {w wr W w2 : World} {e : TypeId} {z : Nat} {v : Value} {n : Nat} {cs : List Value} (hB : Below w.heap.size w wr) (hown : wr.ownsRow w.heap.size e z v n cs) (hW : Below wr.heap.size wr W) (hg : W.grownBy w2 v.ownBlock) : Below w.heap.size w w2 :=
  (hB.trans (hW.mono hB.size)).grown hg (Nat.le_trans hB.size hW.size) (own_mem hown)

theorem low_keep {xs : List Pr} {k : Nat} (h : k < xs.length) (hk : 0 < k) (he : xs[k].2 = (xs[k - 1]'(by omega)).2) : lowP (xs.take (k + 1)) = lowP (xs.take k) := by
  rw [List.take_succ_eq_append_getElem h, lowP_snoc, endC_take hk (by omega), if_pos (by rw [he]), List.append_nil]
theorem low_add {xs : List Pr} {k : Nat} (h : k < xs.length) (hk : 0 < k) (he : xs[k].2 ≠ (xs[k - 1]'(by omega)).2) : lowP (xs.take (k + 1)) = lowP (xs.take k) ++ [xs[k]] := by
  rw [List.take_succ_eq_append_getElem h, lowP_snoc, endC_take hk (by omega), if_neg (by intro e; exact he (Option.some.inj e).symm)]
theorem low_first {xs : List Pr} (h : 0 < xs.length) : lowP (xs.take 1) = lowP (xs.take 0) ++ [xs[0]] := by
  rw [List.take_succ_eq_append_getElem h, lowP_snoc]; rfl
theorem low_last {xs : List Pr} {k : Nat} (hk : 0 < k) (h : k ≤ xs.length) : ∃ hn : 0 < (lowP (xs.take k)).length, ((lowP (xs.take k))[(lowP (xs.take k)).length - 1]'(by omega)).2 = (xs[k - 1]'(by omega)).2 := by
  have hn : 0 < (lowP (xs.take k)).length := by
    rw [List.length_pos_iff]
    intro e
    have := lowP_nil.1 e
    rw [List.take_eq_nil_iff] at this
    rcases this with rfl | rfl
    · omega
    · simp at h; omega
  refine ⟨hn, ?_⟩
  have h1 := lowP_end (xs.take k)
  rw [endC_getD hn, endC_take hk h] at h1
  exact Option.some.inj h1
theorem low_take_len (xs : List Pr) (k : Nat) : (lowP (xs.take k)).length ≤ xs.length := Nat.le_trans (lowP_len _) (by simp; omega)

end Go.Proofs.YtdbnhdiboemmiacGreat
