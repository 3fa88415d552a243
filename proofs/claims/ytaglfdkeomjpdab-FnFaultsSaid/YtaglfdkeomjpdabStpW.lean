/- DERIVED. THE ITERATOR over the parts of the steps in an interval: impl.stepsWithin and its closure. -/
import Derived.RangeFuncNested
import Derived.RangeFuncBound
import Derived.RangeFuncBox
import Derived.RangeFuncCalls
import Derived.RangeFuncLeaves
import Derived.Shelf.Abstract
import Derived.Shelf.RegionOpen
import Derived.WalkKit
import Derived.OwnWalkIn
import Derived.TacticsInMore
import Derived.LoopNIn
import Derived.LoopIn
import Derived.RegionIn
import Derived.Sort.QuietIn
import Derived.Lib.Hide
import Derived.Outline
import Derived.Test.YtaglfdkeomjpdabChecked
import Derived.Test.YtaglfdkeomjpdabCore
import Derived.Test.YtaglfdkeomjpdabMaths
namespace Go.Proofs.Ytaglfdkeomjpdab
open Go.RowKit Go.Shelf
attribute [local go_sem] Oper.semAt_some

abbrev encsP (q : Pr × Int) : Array Value := #[.agg #[.int .i64 q.1.1, .int .i64 q.1.2], .int .i64 q.2]

theorem stepsWithin_any (n : Nat) (A : Option Addr) (len cap : Nat) (x y : Int) (w : World) :
    CallsIn Fence.wide n Try.prog 56 #[.slice A len cap, .int .i64 x, .int .i64 y] w fun e w' =>
      e = .returned (.func (.func 88) #[] #[.pointer (some ⟨w.heap.size, 0, none⟩), .pointer (some ⟨w.heap.size + 1, 0, none⟩), .pointer (some ⟨w.heap.size + 1 + 1, 0, none⟩)]) ∧
      w' = ((w.alloc (.cells #[.slice A len cap] 54)).alloc (.cells #[.int .i64 x] 3)).alloc (.cells #[.int .i64 y] 3) := by
  refine callsIn_of_wp Try.func56 rfl trivial ?_ rfl
  simp only [Try.ntmps56, List.size_toArray, List.length_cons, List.length_nil, Nat.reduceAdd, Nat.reduceSub, Array.replicate_succ, Array.replicate_zero, List.push_toArray, List.append_toArray, List.nil_append, List.cons_append]
  gi_wp2
  go_ret
  exact ⟨rfl, rfl⟩

/-- What a round keeps for the iterator: what lay below n₀, and its three boxes. -/
def KpS (n₀ Bl : Nat) (W W' : World) : Prop := Below n₀ W W' ∧ ∀ i, Bl ≤ i → i < Bl + 3 → W'.heap[i]? = W.heap[i]?
theorem KpS.refl (n₀ Bl : Nat) (W : World) : KpS n₀ Bl W W := ⟨Below.refl _ _, fun _ _ _ => rfl⟩
theorem KpS.trans {n₀ Bl : Nat} {A B C : World} (h : KpS n₀ Bl A B) (k : KpS n₀ Bl B C) : KpS n₀ Bl A C := ⟨h.1.trans k.1, fun i h1 h2 => (k.2 i h1 h2).trans (h.2 i h1 h2)⟩
theorem KpS.drewN {n₀ Bl : Nat} {A B : World} (h : KpS n₀ Bl A B) (n : Nat) : KpS n₀ Bl A (B.drewN n) := ⟨below_drewN h.1 n, h.2⟩
theorem KpS.alloc {n₀ Bl : Nat} {A B : World} (h : KpS n₀ Bl A B) (hn : n₀ ≤ B.heap.size) (hb : Bl + 3 ≤ B.heap.size) (o : Obj) : KpS n₀ Bl A (B.alloc o) :=
  ⟨h.1.alloc hn o, fun i h1 h2 => (Below.heap_alloc B o i (by omega)).trans (h.2 i h1 h2)⟩
theorem KpS.setCell {n₀ Bl : Nat} {A B : World} (h : KpS n₀ Bl A B) {p : Addr} (hn : n₀ ≤ p.block) (hb : p.block < Bl ∨ Bl + 3 ≤ p.block) (u : Value) : KpS n₀ Bl A (B.setCell p u) :=
  ⟨h.1.setCell hn u, fun i h1 h2 => (Below.heap_setCell B p u i (by omega)).trans (h.2 i h1 h2)⟩
theorem KpS.grown {n₀ Bl : Nat} {A B C : World} {row : Option Nat} (h : KpS n₀ Bl A B) (hg : B.grownBy C row) (hn : n₀ ≤ B.heap.size) (hb : Bl + 3 ≤ B.heap.size) (hr : ∀ k, row = some k → n₀ ≤ k ∧ (k < Bl ∨ Bl + 3 ≤ k)) : KpS n₀ Bl A C :=
  ⟨h.1.grown hg hn (fun k e => (hr k e).1), fun i h1 h2 => (hg.block i (by omega) (fun e => by have := hr i e.symm; omega)).trans (h.2 i h1 h2)⟩
theorem KpS.cell {n₀ Bl : Nat} {A B : World} (h : KpS n₀ Bl A B) {i : Nat} (h1 : Bl ≤ i) (h2 : i < Bl + 3) (o : Nat) : B.cell? ⟨i, o, none⟩ = A.cell? ⟨i, o, none⟩ := World.cell?_of_block (h.2 i h1 h2)
theorem kpS_b {n₀ Bl : Nat} {w : World} (hn : n₀ ≤ w.heap.size) (hb : Bl + 3 ≤ w.heap.size) (W : World) (l : Nat) (o o' : Obj) (hl : w.heap.size ≤ l) (h : W.heap[l]? = some o) (hc : o.isCells = false) (hw : o.isWalk = false) : KpS n₀ Bl W (W.putObj l o') :=
  ⟨belowK_b hn W l o o' hl h hc hw, fun i _ _ => (grownBy_putObj' W l o').block i (by have := (Array.getElem?_eq_some_iff.1 h).1; omega) (fun e => by cases e; omega)⟩

theorem grown_drewN {a w : World} {row : Option Nat} (h : a.grownBy w row) (n : Nat) : a.grownBy (w.drewN n) row := ⟨h.os, h.tape, h.output, h.size, h.block⟩
theorem uptoP_len (xs : List Pr) (x y : Int) (k : Nat) : (uptoP xs x y k).length ≤ k := by
  induction k with
  | zero => simp [uptoP]
  | succ k ih =>
    rw [uptoP_succ, List.length_append]
    have : (partP xs x y k).length ≤ 1 := by unfold partP; split <;> simp
    omega

set_option maxRecDepth 100000 in
set_option maxHeartbeats 2000000 in
theorem parts1_in (n : Nat) (hn : 1 ≤ n) (l Bl n₀ b off cap : Nat) (xs : List Pr) (x y : Int) (hlen : xs.length ≤ 1000) (hb : b < n₀)
    (J Jx : List (Pr × Int) → World → Prop) (W : World) (hn₀ : n₀ ≤ W.heap.size) (hB3 : Bl + 3 ≤ W.heap.size) (hJ : ∀ s A B, J s A → A.grownBy B none → J s B)
    (hY : ∀ pre q W1, J pre W1 → pre.length < xs.length → YieldAt Fence.wide (n - 1) Try.prog l #[.agg #[.int .i64 q.1.1, .int .i64 q.1.2], .int .i64 q.2] W1 fun e W' =>
      (e = .returned (.bool true) ∧ J (pre ++ [q]) W' ∧ KpS n₀ Bl W1 W') ∨ (e = .returned (.bool false) ∧ Jx (pre ++ [q]) W'))
    (cl : W.cell? ⟨Bl, 0, none⟩ = some (.slice (some ⟨b, off, none⟩) xs.length cap)) (cx : W.cell? ⟨Bl + 1, 0, none⟩ = some (.int .i64 x)) (cy : W.cell? ⟨Bl + 1 + 1, 0, none⟩ = some (.int .i64 y))
    (hc : ∀ j, (hj : j < xs.length) → W.cell? ⟨b, off + j * 2, none⟩ = some (.int .i64 xs[j].1) ∧ W.cell? ⟨b, off + j * 2 + 1, none⟩ = some (.int .i64 xs[j].2)) (h0 : J [] W) :
    CallsIn Fence.wide n Try.prog 88 #[.func (.yield l) #[] #[], .pointer (some ⟨Bl, 0, none⟩), .pointer (some ⟨Bl + 1, 0, none⟩), .pointer (some ⟨Bl + 1 + 1, 0, none⟩)] W fun e W' => (∃ v, e = .returned v) ∧
      ((∃ ys, ys = partsP xs x y ∧ J ys W') ∨ (∃ pre, pre <+: partsP xs x y ∧ Jx pre W')) := by
  have HC := Lib.hid hc
  have HY := Lib.hid hY
  have HJ := Lib.hid hJ
  clear hc hY hJ
  refine callsIn_of_wp Try.func88 rfl trivial ?_ rfl
  simp only [Try.ntmps88, List.size_toArray, List.length_cons, List.length_nil, Nat.reduceAdd, Nat.reduceSub, Array.replicate_succ, Array.replicate_zero, List.push_toArray, List.append_toArray, List.nil_append, List.cons_append]
  gi_wp2
  gi_loopw [11] (fun i wr => ∃ k : Nat, k ≤ xs.length ∧ i = .int .i64 k ∧ J (uptoP xs x y k) wr ∧ KpS n₀ Bl W wr) (fun i _ => xs.length - (intOf i).toNat)
  case atStart => exact ⟨0, Nat.zero_le _, rfl, h0, KpS.refl _ _ _⟩
  case round =>
    obtain ⟨k, hk, rfl, hJs, hnx⟩ := hrel
    have HJs := Lib.hid hJs
    have HNX := Lib.hid hnx
    clear hJs
    by_cases hlt : k < xs.length
    · have hlt' : (k : Int) < (xs.length : Int) := by omega
      have cx0 := (hnx.1.cell (p := ⟨b, off + k * 2, none⟩) hb).trans (HC.out k hlt).1
      have cx1 := (hnx.1.cell (p := ⟨b, off + k * 2 + 1, none⟩) hb).trans (HC.out k hlt).2
      have cl' := (hnx.cell (i := Bl) (by omega) (by omega) 0).trans cl
      have cxx := (hnx.cell (i := Bl + 1) (by omega) (by omega) 0).trans cx
      have cyy := (hnx.cell (i := Bl + 1 + 1) (by omega) (by omega) 0).trans cy
      have hsz := hnx.1.size
      have hbw : b < wr.heap.size := by omega
      have hBlw : Bl < wr.heap.size := by omega
      have hBxw : Bl + 1 < wr.heap.size := by omega
      have hByw : Bl + 1 + 1 < wr.heap.size := by omega
      have hmx : max xs[k].1 x = if xs[k].1 < x then x else xs[k].1 := by rw [Int.max_def]; split <;> split <;> omega
      have HP := Lib.hid (show partP xs x y k = if (if xs[k].1 < x then x else xs[k].1) < endP xs y k then [((if xs[k].1 < x then x else xs[k].1, xs[k].2), endP xs y k)] else [] from by
        unfold partP; simp only [List.getD, List.getElem?_eq_getElem hlt, Option.getD_some, hmx])
      clear cl cx cy hnx hmx
      generalize xs[k].1 = x0 at cx0 HP
      generalize xs[k].2 = x1 at cx1 HP
      gi_wp2
      gi_quiet (fail)
      revert nq
      intro n1
      generalize (if x0 < x then x else x0) = fx at HP ⊢
      by_cases hnext : k + 1 < xs.length
      · have hnext' : (k : Int) + 1 < (xs.length : Int) := by omega
        have cz0 := (HNX.out.1.cell (p := ⟨b, off + (k + 1) * 2, none⟩) hb).trans (HC.out (k + 1) hnext).1
        have HE := Lib.hid (show endP xs y k = if y < xs[k + 1].1 then y else xs[k + 1].1 from by
          unfold endP; rw [if_pos hnext]; simp only [List.getD, List.getElem?_eq_getElem hnext, Option.getD_some, Int.min_def]; split <;> split <;> omega)
        generalize endP xs y k = ee at HP HE
        generalize xs[k + 1].1 = z0 at cz0 HE
        gi_wp2
        gi_quiet (fail)
        rw [← HE.out]
        revert nq
        intro n2
        by_cases hfe : fx < ee
        · obtain ⟨fn, tmps, assign, body, hy, hR⟩ := HY.out (uptoP xs x y k) ((fx, x1), ee) ((wr.alloc (.cells #[.int .i64 x0, .int .i64 x1] 110)).drewN (n1 + n2))
              (HJ.out _ _ _ HJs.out (grown_drewN (World.grownBy_alloc wr _ none) _)) (Nat.lt_of_le_of_lt (uptoP_len xs x y k) hlt)
          have HS := Lib.hid (show uptoP xs x y k ++ [((fx, x1), ee)] = uptoP xs x y (k + 1) from by rw [uptoP_succ, HP.out, if_pos hfe])
          dsimp only at hy
          gi_wp2
          refine hR.mono ?_
          rintro e W3 (⟨rfl, hJ3, hk3⟩ | ⟨rfl, hJx3⟩)
          · rw [HS.out] at hJ3
            have H3 := Lib.hid (And.intro hJ3 (HNX.out.trans ((((KpS.refl n₀ Bl wr).alloc (Nat.le_trans hn₀ hsz) (Nat.le_trans hB3 hsz) _).drewN _).trans hk3)))
            clear hJ3 hk3 hy hR
            gi_wp2
            go_roundw
            case rel => exact ⟨k + 1, by omega, by go_num, H3.out.1, H3.out.2⟩
            case measure => simp [intOf]; omega
          · rw [HS.out] at hJx3
            have H3 := Lib.hid hJx3
            clear hJx3 hy hR
            gi_wp2
            refine bodyPost_ret (results_none rfl _ _ _) rfl ?_
            exact ⟨⟨_, rfl⟩, .inr ⟨_, uptoP_prefix xs x y (k + 1) (by omega), H3.out⟩⟩
        · have HS := Lib.hid (show uptoP xs x y k = uptoP xs x y (k + 1) from by rw [uptoP_succ, HP.out, if_neg hfe, List.append_nil])
          gi_wp2
          refine ⟨fun _ h => (by cases h), ?_⟩
          gi_wp2
          go_roundw
          case rel => exact ⟨k + 1, by omega, by go_num, by rw [← HS.out]; exact HJ.out _ _ _ HJs.out (grown_drewN (World.grownBy_alloc wr _ none) _), HNX.out.trans (((KpS.refl n₀ Bl wr).alloc (Nat.le_trans hn₀ hsz) (Nat.le_trans hB3 hsz) _).drewN _)⟩
          case measure => simp [intOf]; omega
      · have hnext' : ¬ (k : Int) + 1 < (xs.length : Int) := by omega
        rw [show endP xs y k = y from by unfold endP; rw [if_neg hnext]] at HP
        by_cases hfe : fx < y
        · obtain ⟨fn, tmps, assign, body, hy, hR⟩ := HY.out (uptoP xs x y k) ((fx, x1), y) ((wr.alloc (.cells #[.int .i64 x0, .int .i64 x1] 110)).drewN n1)
              (HJ.out _ _ _ HJs.out (grown_drewN (World.grownBy_alloc wr _ none) _)) (Nat.lt_of_le_of_lt (uptoP_len xs x y k) hlt)
          have HS := Lib.hid (show uptoP xs x y k ++ [((fx, x1), y)] = uptoP xs x y (k + 1) from by rw [uptoP_succ, HP.out, if_pos hfe])
          dsimp only at hy
          gi_wp2
          refine hR.mono ?_
          rintro e W3 (⟨rfl, hJ3, hk3⟩ | ⟨rfl, hJx3⟩)
          · rw [HS.out] at hJ3
            have H3 := Lib.hid (And.intro hJ3 (HNX.out.trans ((((KpS.refl n₀ Bl wr).alloc (Nat.le_trans hn₀ hsz) (Nat.le_trans hB3 hsz) _).drewN _).trans hk3)))
            clear hJ3 hk3 hy hR
            gi_wp2
            go_roundw
            case rel => exact ⟨k + 1, by omega, by go_num, H3.out.1, H3.out.2⟩
            case measure => simp [intOf]; omega
          · rw [HS.out] at hJx3
            have H3 := Lib.hid hJx3
            clear hJx3 hy hR
            gi_wp2
            refine bodyPost_ret (results_none rfl _ _ _) rfl ?_
            exact ⟨⟨_, rfl⟩, .inr ⟨_, uptoP_prefix xs x y (k + 1) (by omega), H3.out⟩⟩
        · have HS := Lib.hid (show uptoP xs x y k = uptoP xs x y (k + 1) from by rw [uptoP_succ, HP.out, if_neg hfe, List.append_nil])
          gi_wp2
          refine ⟨fun _ h => (by cases h), ?_⟩
          gi_wp2
          go_roundw
          case rel => exact ⟨k + 1, by omega, by go_num, by rw [← HS.out]; exact HJ.out _ _ _ HJs.out (grown_drewN (World.grownBy_alloc wr _ none) _), HNX.out.trans (((KpS.refl n₀ Bl wr).alloc (Nat.le_trans hn₀ hsz) (Nat.le_trans hB3 hsz) _).drewN _)⟩
          case measure => simp [intOf]; omega
    · have hge : ¬ (k : Int) < (xs.length : Int) := by omega
      obtain rfl : k = xs.length := by omega
      rw [uptoP_full] at HJs
      gi_wp2
      go_end0
      exact ⟨⟨_, rfl⟩, .inl HJs.out⟩

/-- The closure that stepsWithin hands back has its contract: all parts come, in their order. -/
theorem parts_stops (n : Nat) (hn : 1 ≤ n) (Bl n₀ b off cap : Nat) (xs : List Pr) (x y : Int) (hlen : xs.length ≤ 1000) (hb : b < n₀) (w : World) (hn₀ : n₀ ≤ w.heap.size) (hB3 : Bl + 3 ≤ w.heap.size)
    (cl : w.cell? ⟨Bl, 0, none⟩ = some (.slice (some ⟨b, off, none⟩) xs.length cap)) (cx : w.cell? ⟨Bl + 1, 0, none⟩ = some (.int .i64 x)) (cy : w.cell? ⟨Bl + 1 + 1, 0, none⟩ = some (.int .i64 y))
    (hc : ∀ j, (hj : j < xs.length) → w.cell? ⟨b, off + j * 2, none⟩ = some (.int .i64 xs[j].1) ∧ w.cell? ⟨b, off + j * 2 + 1, none⟩ = some (.int .i64 xs[j].2)) :
    SeqStopsK Fence.wide n Try.prog 88 #[.pointer (some ⟨Bl, 0, none⟩), .pointer (some ⟨Bl + 1, 0, none⟩), .pointer (some ⟨Bl + 1 + 1, 0, none⟩)] encsP (KpS n₀ Bl) (fun ys => ys = partsP xs x y) (fun pre => pre <+: partsP xs x y) xs.length w :=
  fun l J Jx W hW hJ _ hY h0 => parts1_in n hn l Bl n₀ b off cap xs x y hlen hb J Jx W (Nat.le_trans hn₀ hW.size) (Nat.le_trans hB3 hW.size)
    (fun s A B h hg => hJ s A B none h hg (fun r e => by cases e)) hY
    ((hW.cell (p := ⟨Bl, 0, none⟩) (by show Bl < _; omega)).trans cl) ((hW.cell (p := ⟨Bl + 1, 0, none⟩) (by show Bl + 1 < _; omega)).trans cx) ((hW.cell (p := ⟨Bl + 1 + 1, 0, none⟩) (by show Bl + 1 + 1 < _; omega)).trans cy)
    (fun j hj => ⟨(hW.cell (p := ⟨b, off + j * 2, none⟩) (by show b < _; omega)).trans (hc j hj).1, (hW.cell (p := ⟨b, off + j * 2 + 1, none⟩) (by show b < _; omega)).trans (hc j hj).2⟩) h0
end Go.Proofs.Ytaglfdkeomjpdab
