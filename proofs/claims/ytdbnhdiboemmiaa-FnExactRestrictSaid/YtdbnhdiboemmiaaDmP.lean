/- DERIVED. append of a whole slice of ints to a row of one's own, as a step of a drawn region. -/
import Derived.Test.YtdbnhdiboemmiaaDmO
import Derived.Test.YtdbnhdiboemmiaaRegZ
import Derived.Maps.AppendAt
namespace Go.Proofs.Ytdbnhdiboemmiaa
open Go.RowKit
set_option linter.unusedVariables false

theorem step_app_rd {ops : Array Oper} {o : Oper} {a : Act} {w : World} {K : Act → World → Prop} {Q : Exit → Act → World → Prop} {E : Prop} (hgd : o.guard = none) (s x : Operand) (t : TypeId)
    (ho : o.op = .call { callee := .builtin .append, args := #[s, x], argTypes := #[t, t] }) (ht : Try.prog.underlying t = some (.slice 3))
    (base : Nat) (v : Value) (xs ys : List Int) (hs : a.eval s = v) (hown : w.ownsRow base 3 1 v xs.length (xs.map (.int .i64)))
    (vx : Value) (hx : a.eval x = vx) (hr : Rd w vx (ys.map (.int .i64))) (hnil : NilOk vx) (hlen : xs.length + ys.length ≤ 1099511627776) (hbase : base ≤ w.heap.size)
    (h : ∀ v' w', w'.ownsRow base 3 1 v' (xs ++ ys).length ((xs ++ ys).map (.int .i64)) → w.grownBy w' v.ownBlock → (v'.ownBlock = v.ownBlock ∨ v'.ownBlock = some w.heap.size) → K (a.put o.dst v') w') :
    if Region.wanted o (yielded ops a.tmps) = true then Oper.wp Try.prog o a w K Q else E := by
  have hw : Region.wanted o (yielded ops a.tmps) = true := by simp [Region.wanted, hgd]
  rw [if_pos hw]
  obtain ⟨i0, hi, hz0, hz1, hz2⟩ := info_parts infoInt
  obtain ⟨hl, A, c, rfl, hA⟩ := hr
  rw [List.length_map] at hx
  have key : ∀ ad, A = some ad → (∀ j u, (ys.map (Value.int .i64))[j]? = some u → w.cell? (ad.add j) = some u) → Oper.wp Try.prog o a w K Q := by
    intro ad had hc
    subst had
    obtain ⟨v', w', hrun, h1, h2, _, h4⟩ := run_append_own_at (P := Try.prog) w base t o.type 3 i0 (.int .i64 0) 1 8 ht hi hz0 hz1 hz2 rfl (by decide) v xs.length (xs.map (.int .i64)) hown ad ys.length c (ys.map (.int .i64)) (by simp) hc
      (by intro u hu; obtain ⟨y, _, rfl⟩ := List.mem_map.1 hu; rfl) (by unfold maxLen; omega) (by omega) hbase
    unfold Oper.wp
    simp [execOp, ho, resolve, invoke, builtin, hs, hx, hrun, Result.andThen]
    exact h v' w' (by rw [List.length_append, List.map_append]; exact h1) h2 h4
  rcases hA with hA | ⟨b, off, rfl, hb, hc⟩
  · have hy : ys = [] := by simpa using hA
    subst hy
    cases A with
    | some ad => exact key ad rfl (by intro j u hu; simp at hu)
    | none =>
      have hc0 : c = 0 := hnil _ _ rfl
      subst hc0
      have hrun := run_append_owned_none (P := Try.prog) (w := w) base t o.type 3 i0 1 ht hi v xs.length (xs.map (.int .i64)) hown
      have hx' : a.eval x = .slice none 0 0 := hx
      unfold Oper.wp
      simp [execOp, ho, resolve, invoke, builtin, hs, hx', hrun, Result.andThen]
      exact h v w (by simpa using hown) ⟨rfl, rfl, rfl, Nat.le_refl _, fun _ _ _ => rfl⟩ (.inl rfl)
  · refine key _ rfl fun j u hu => ?_
    obtain ⟨hj, rfl⟩ := List.getElem?_eq_some_iff.1 hu
    have hadd : (⟨b, off, none⟩ : Addr).add j = ⟨b, off + j, none⟩ := by unfold Addr.add; split <;> simp_all
    rw [hadd]
    exact hc j hj
theorem Wr.fresh {F : List Nat} {a b c : World} {e : Nat} (h : Wr F a b) (hg : Wr [e] b c) (he : a.heap.size ≤ e) : Wr F a c :=
  ⟨hg.os.trans h.os, hg.tape.trans h.tape, hg.output.trans h.output, Nat.le_trans h.size hg.size, fun k hk hF => (hg.block k (by have := h.size; omega) (by simp only [List.mem_singleton]; omega)).trans (h.block k hk hF)⟩
/-- The newest tree, an empty row, has become the row ys. -/
theorem Sn.appRow {w0 W w6 : World} {L : List Item} {ys : List Int} {v v' : Value} {F : List Nat} {n : Nat} (h : Sn w0 W (⟨trI [], v, F⟩ :: L)) (hown : w6.ownsRow w0.heap.size 3 1 v' n (ys.map (.int .i64)))
    (hg : W.grownBy w6 v.ownBlock) (hat : v'.ownBlock = v.ownBlock ∨ v'.ownBlock = some W.heap.size) : Sn w0 w6 (⟨trI ys, v', v'.ownBlock.toList⟩ :: L) := by
  have hF : F = v.ownBlock.toList := (own_flat (h.own 0 rfl).1).2
  have ho : (trI ys).own w6 w0.heap.size v' v'.ownBlock.toList := (flat_own hown).1
  refine h.turn ho (flat_own hown).2 (fun k hk => ?_) (by rw [hF]; exact Wr.of_grown hg)
  rcases hat with e | e
  · left; show k ∈ F; rw [hF, ← e]; exact hk
  · right
    rw [e] at hk
    simp only [Option.toList, List.mem_singleton] at hk
    omega
end Go.Proofs.Ytdbnhdiboemmiaa
