/- DERIVED. CONTRACT: impl.ReduceCapacity: three loops over the iterator that append to one variable. -/
import Derived.Test.YthcbndbfgpeokaaDoorStpY
import Derived.Test.YthcbndbfgpeokaaDoorStpC
import Derived.Stop.RegionWithIn
import Derived.Sort.QuietIn
namespace Go.Proofs.YthcbndbfgpeokaaDoor
open Go.RowKit Go.Shelf
attribute [local go_sem] Oper.semAt_some

theorem leastB_min {xs : List Pr} {x y : Int} (h : spanB xs x y = true) : leastB xs x y = minT xs x y := by rw [leastB, h]; rfl
theorem leastB_le20 (xs : List Pr) (x y : Int) : leastB xs x y ≤ 20 := by
  unfold leastB
  split
  · rename_i h
    exact (minT_range (spanB_iff.1 h).1 x y).2
  · omega
/-- A region that can't panic, walked with no word on panics. -/
theorem region_only {P : Program} {c : Code} {K : Act → World → Prop} {Q : Exit → Act → World → Prop} {a : Act} {w : World} (h : c.wp P (Exit.then K (fun _ _ _ => False)) a w) : c.wp P (Exit.then K Q) a w :=
  wp_mono h (by intro e a w h; cases e <;> first | exact h | exact h.elim)

/-- append of one pair onto a row of the call's own, inside a fence. -/
theorem appP1In {F : Fence} {n : Nat} {w : World} {ops : Array Oper} {rest : List Oper} {o : Oper} {a : Act} {Q : Exit → Act → World → Prop} (hgd : o.guard = none) (s x : Operand) (t : TypeId)
    (ho : o.op = .call { callee := .builtin .append, args := #[s, x], argTypes := #[t, t] }) (ht : Tryd.prog.underlying t = some (.slice 52))
    (base : Nat) (v : Value) (g : Nat) (xs : List Pr) (p : Pr) (hs : a.eval s = v) (hx : a.eval x = .slice (some ⟨g, 0, none⟩) 1 1) (hown : w.ownsRow base 52 2 v xs.length (cellsP xs))
    (hc0 : w.cell? ⟨g, 0, none⟩ = some (.int .i64 p.1)) (hc1 : w.cell? ⟨g, 1, none⟩ = some (.int .i64 p.2))
    (hlen : xs.length + 1 ≤ 1099511627776) (hbase : base ≤ w.heap.size)
    (h : ∀ v' w', w'.ownsRow base 52 2 v' (xs ++ [p]).length (cellsP (xs ++ [p])) → w.grownBy w' v.ownBlock → wpListIn F n Tryd.prog ops Q rest (a.put o.dst v') w') :
    wpListIn F n Tryd.prog ops Q (o :: rest) a w := by
  obtain ⟨i0, hi, hz0, hz1, hz2⟩ := info_parts infoStep
  refine wpListIn_append_own w hgd s x t ho base 52 i0 _ 2 16 ht hi hz0 hz1 hz2 rfl (by decide) v xs.length (cellsP xs) hs hown ⟨g, 0, none⟩ 1 1 [.int .i64 p.1, .int .i64 p.2] hx rfl ?_
    (by intro u hu; simp at hu; rcases hu with rfl | rfl <;> rfl) (by unfold maxLen; omega) (by omega) hbase ?_
  · intro j u hu
    match j, hu with
    | 0, hu => simp at hu; subst hu; exact hc0
    | 1, hu => simp at hu; subst hu; exact hc1
  · intro v' w' h1 h2 _
    refine h v' w' ?_ h2
    rw [List.length_append, cellsP_app]
    exact h1

/-- What holds between two rounds of the loops that join the parts. -/
def RI (w : World) (S Bl : Nat) (n : Int) (sv : Value) (x y : Int) (ds : List Nat) (zs : List Pr) (W : World) : Prop :=
  (∃ v, Boxed W S 23 v ∧ W.ownsRow w.heap.size 52 2 v zs.length (cellsP zs)) ∧ Boxed W w.heap.size 3 (.int .i64 n) ∧
  (Boxed W Bl 23 sv ∧ Boxed W (Bl + 1) 3 (.int .i64 x) ∧ Boxed W (Bl + 1 + 1) 3 (.int .i64 y)) ∧ Below w.heap.size w W ∧ ∀ d ∈ ds, W.heap[d]? = some (.deferred (some []))

theorem boxed_kept {W W' : World} {row : Option Nat} {B : Nat} {t : TypeId} {v : Value} (h : Boxed W B t v) (hg : W.grownBy W' row) (hr : ∀ r, row = some r → ∃ o : Obj, W.heap[r]? = some o ∧ o.isCells = false) : Boxed W' B t v :=
  h.kept hg (fun e => by obtain ⟨o, ho, hc⟩ := hr B e.symm; rw [show W.heap[B]? = _ from h] at ho; cases ho; cases hc)
theorem own_kept {W W' : World} {row : Option Nat} {base : Nat} {e : TypeId} {z : Nat} {v : Value} {k : Nat} {cs : List Value} (h : W.ownsRow base e z v k cs) (hg : W.grownBy W' row) (hr : ∀ r, row = some r → ∃ o : Obj, W.heap[r]? = some o ∧ o.isCells = false) : W'.ownsRow base e z v k cs := by
  refine h.kept hg ?_
  rcases h.2 with ⟨rfl, _⟩ | ⟨g, cap, cur, rfl, _, hgb, _⟩
  · exact .inl rfl
  · refine .inr fun e' => ?_
    obtain ⟨o, ho, hc⟩ := hr g (by simpa [Value.ownBlock] using e'.symm)
    rw [hgb] at ho; cases ho; cases hc
theorem RI.kept {w : World} {S Bl : Nat} {n : Int} {sv : Value} {x y : Int} {ds : List Nat} {zs : List Pr} {W W' : World} {row : Option Nat} {B : Nat} (h : RI w S Bl n sv x y ds zs W) (hB : w.heap.size ≤ B) (hd : ∀ d ∈ ds, d < B)
    (hg : W.grownBy W' row) (hr : ∀ r, row = some r → B ≤ r ∧ ∃ o : Obj, W.heap[r]? = some o ∧ o.isCells = false) : RI w S Bl n sv x y ds zs W' := by
  obtain ⟨⟨v, hv, ho⟩, hn, ⟨h1, h2, h3⟩, hb, hds⟩ := h
  have hr' := fun r e => (hr r e).2
  refine ⟨⟨v, boxed_kept hv hg hr', own_kept ho hg hr'⟩, boxed_kept hn hg hr', ⟨boxed_kept h1 hg hr', boxed_kept h2 hg hr', boxed_kept h3 hg hr'⟩, hb.grown hg hb.size (fun k e => Nat.le_trans hB (hr k e).1), fun d hdm => ?_⟩
  have := hds d hdm
  exact (hg.block d (Array.getElem?_eq_some_iff.1 this).1 (fun e => by have := (hr d e.symm).1; have := hd d hdm; omega)).trans this
theorem RI.own {w : World} {S Bl : Nat} {n : Int} {sv : Value} {x y : Int} {ds : List Nat} {B : Nat} (f : List (Pr × Int) → List Pr) (hB : w.heap.size ≤ B) (hd : ∀ d ∈ ds, d < B) : OwnFrom B (fun pre W => RI w S Bl n sv x y ds (f pre) W) :=
  fun _ _ _ _ hs hg hr => hs.kept hB hd hg hr
theorem RI.alloc {w : World} {S Bl : Nat} {n : Int} {sv : Value} {x y : Int} {ds : List Nat} {zs : List Pr} {W : World} (h : RI w S Bl n sv x y ds zs W) (o : Obj) : RI w S Bl n sv x y ds zs (W.alloc o) := by
  obtain ⟨⟨v, hv, ho⟩, hn, ⟨h1, h2, h3⟩, hb, hds⟩ := h
  refine ⟨⟨v, hv.alloc _, ho.alloc _⟩, hn.alloc _, ⟨h1.alloc _, h2.alloc _, h3.alloc _⟩, hb.alloc hb.size _, fun d hdm => ?_⟩
  have := hds d hdm
  exact (Below.heap_alloc W o d (Array.getElem?_eq_some_iff.1 this).1).trans this
theorem RI.step {w : World} {S Bl : Nat} {n : Int} {sv : Value} {x y : Int} {ds : List Nat} {zs : List Pr} {W W1 : World} {p : Pr} {v v' : Value} {tmp : Obj} (h : RI w S Bl n sv x y ds zs W) (hv : Boxed W S 23 v) (hrow : W.ownsRow w.heap.size 52 2 v zs.length (cellsP zs))
    (hS : w.heap.size < S) (hSB : S < Bl) (hown' : W1.ownsRow w.heap.size 52 2 v' (zs ++ [p]).length (cellsP (zs ++ [p]))) (hgrow : (W.alloc tmp).grownBy W1 v.ownBlock) :
    RI w S Bl n sv x y ds (zs ++ [p]) (W1.setCell ⟨S, 0, none⟩ v') ∧ KpS w.heap.size Bl W (W1.setCell ⟨S, 0, none⟩ v') ∧ KeepsOthers W (W1.setCell ⟨S, 0, none⟩ v') ∧ Boxed W1 S 23 v := by
  obtain ⟨_, hn, ⟨h1, h2, h3⟩, hb, hds⟩ := h
  obtain ⟨hv1, hv2, hr2, hk2, hb2⟩ := hv.appended (by decide) hrow hb.size (Nat.le_of_lt hS) hown' hgrow
  have other : ∀ {B : Nat} {t : TypeId} {u : Value}, Boxed W B t u → t ≠ 52 → B ≠ S → Boxed (W1.setCell ⟨S, 0, none⟩ v') B t u := fun hu ht hne =>
    ((hu.alloc tmp).kept hgrow (hu.not_row ht hrow)).other hne v'
  have g1 := other h1 (by decide) (by omega)
  have g2 := other h2 (by decide) (by omega)
  have g3 := other h3 (by decide) (by omega)
  refine ⟨⟨⟨v', hv2, hr2⟩, other hn (by decide) (by omega), ⟨g1, g2, g3⟩, hb.trans hb2, fun d hdm => hk2.same d _ (hds d hdm) rfl⟩, ⟨hb2, fun i hi1 hi2 => ?_⟩, hk2, hv1⟩
  rcases (by omega : i = Bl ∨ i = Bl + 1 ∨ i = Bl + 1 + 1) with rfl | rfl | rfl
  · exact (show _ = _ from g1).trans (show _ = _ from h1).symm
  · exact (show _ = _ from g2).trans (show _ = _ from h2).symm
  · exact (show _ = _ from g3).trans (show _ = _ from h3).symm

set_option maxRecDepth 100000 in
set_option maxHeartbeats 4000000 in
theorem implReduce_any (xs : List Pr) (x y n : Int) (v : Value) (w : World) (hr : RdP w v xs) :
    Calls Tryd.prog 9 #[v, .int .i64 x, .int .i64 y, .int .i64 n] w fun e w' => ∃ v', e = .returned (.tuple #[v', .bool (reduceB xs x y n)]) ∧ w'.ownsRow w.heap.size 52 2 v' (reducedB xs x y n).length (cellsP (reducedB xs x y n)) ∧ Below w.heap.size w w' := by
  obtain ⟨A, c, rfl, HR0⟩ := rdPk hr
  have HR := Lib.hid hr
  have HA := Lib.hid HR0
  have HQ := Lib.hid (show reduceB xs x y n = (okP xs && inB x 0 60 && inB y 0 60 && !decide (y ≤ x) && inB n 0 (leastB xs x y) && okP (redP xs x y n)) from rfl)
  have HQ2 := Lib.hid (show reducedB xs x y n = if reduceB xs x y n then redP xs x y n else [] from rfl)
  have hno : ∀ W : World, reduceB xs x y n = false → W.ownsRow w.heap.size 52 2 (.slice none 0 0) (reducedB xs x y n).length (cellsP (reducedB xs x y n)) := fun W h => by
    rw [HQ2.out, h]; exact World.ownsRow_nil _ _ _ _
  have HNO := Lib.hid hno
  clear hr HR0 hno
  have hbn := (Below.refl w.heap.size w).alloc (Nat.le_refl _) (.cells #[.int .i64 n] 3)
  have bN0 := Boxed.new w 3 (.int .i64 n)
  have HBN := Lib.hid hbn
  refine (callsIn_wide (n := 12)).1 ?_
  refine callsIn_of_wp_marks Tryd.func9 rfl trivial ?_ rfl
  simp only [Tryd.ntmps9, List.size_toArray, List.length_cons, List.length_nil, Nat.reduceAdd, Nat.reduceSub, Array.replicate_succ, Array.replicate_zero, List.push_toArray, List.append_toArray, List.nil_append, List.cons_append]
  refine wpIn_wide.2 ?_
  go_wp2_with fail
  refine (implStepsOk_any xs _ _ (HR.out.below HBN.out (Nat.le_refl _))).mono ?_
  rintro e w1 ⟨rfl, hb1⟩
  have HB := Lib.hid (HBN.out.trans (hb1.mono HBN.out.size))
  have bN : Boxed w1 w.heap.size 3 (.int .i64 n) := (hb1.block w.heap.size (by simp)).trans bN0
  clear hb1 hbn bN0
  rcases hok : okP xs with _ | _
  · have HF := Lib.hid (show reduceB xs x y n = false from by rw [HQ.out, hok]; rfl)
    clear hok
    go_wp2
    exact ⟨_, results_tmp2 rfl _ _ _, _, by rw [HF.out]; rfl, HNO.out _ HF.out, HB.out⟩
  have HO := Lib.hid hok
  clear hok
  go_wp2_with fail
  refine (isTime_any _ _).mono ?_
  rintro e w2 ⟨rfl, rfl⟩
  rcases hin : inB x 0 60 with _ | _
  · have HF := Lib.hid (show reduceB xs x y n = false from by rw [HQ.out, HO.out, hin]; rfl)
    clear hin
    go_wp2
    exact ⟨_, results_tmp2 rfl _ _ _, _, by rw [HF.out]; rfl, HNO.out _ HF.out, HB.out⟩
  have HI := Lib.hid hin
  obtain ⟨hx0, hx1⟩ := inB_iff.1 hin
  clear hin
  go_wp2_with fail
  refine (isTime_any _ _).mono ?_
  rintro e w2 ⟨rfl, rfl⟩
  rcases hin : inB y 0 60 with _ | _
  · have HF := Lib.hid (show reduceB xs x y n = false from by rw [HQ.out, HO.out, HI.out, hin]; rfl)
    clear hin
    go_wp2
    exact ⟨_, results_tmp2 rfl _ _ _, _, by rw [HF.out]; rfl, HNO.out _ HF.out, HB.out⟩
  have HI2 := Lib.hid hin
  obtain ⟨hy0, hy1⟩ := inB_iff.1 hin
  clear hin
  by_cases hyx : y ≤ x
  · have HF := Lib.hid (show reduceB xs x y n = false from by rw [HQ.out, HO.out, HI.out, HI2.out, decide_eq_true hyx]; rfl)
    go_wp2
    exact ⟨_, results_tmp2 rfl _ _ _, _, by rw [HF.out]; rfl, HNO.out _ HF.out, HB.out⟩
  have HYX := Lib.hid (decide_eq_false hyx)
  have cN := bN.cell
  have hF18 : Fence.wide.fn 8 := trivial
  by_cases hn0 : n < 0
  · have HF := Lib.hid (show reduceB xs x y n = false from by rw [HQ.out, inB_no (n := n) (fun h => by have := h.1; omega)]; simp)
    have hn0d : decide (n < 0) = true := by simpa using hn0
    go_wp2
    go_quiet (fail)
    go_wp2
    exact ⟨_, results_tmp2 rfl _ _ _, _, by rw [HF.out]; rfl, HNO.out _ HF.out, below_drewN HB.out _⟩
  have hn0d : decide (n < 0) = false := by simpa using hn0
  have hlb : w.heap.size < w1.heap.size := bN.lt
  have HMW : ∀ W3 : World, Below w1.heap.size w1.drew W3 → W3.cell? ⟨w.heap.size, 0, none⟩ = some (.int .i64 n) := fun W3 h => (h.cell (p := ⟨w.heap.size, 0, none⟩) hlb).trans cN
  have HM := Lib.hid HMW
  clear HMW
  go_wp2
  refine wp_mono (Q := Exit.then (fun a w3 => a = { tmps := #[Value.slice A xs.length c, Value.int IntKind.i64 x, Value.int IntKind.i64 y, Value.int IntKind.i64 n, undef, undef, undef, Value.pointer (some { block := w.heap.size, off := 0 }), Value.slice none 0 0, Value.bool false, undef, undef, undef, undef, undef, Value.slice A xs.length c, Value.bool true, Value.bool false, Value.bool false, Value.int IntKind.i64 x, Value.bool true, Value.bool false, Value.bool false, Value.bool false, Value.int IntKind.i64 y, Value.bool true, Value.bool false, Value.bool false, Value.bool false, Value.int IntKind.i64 y, Value.int IntKind.i64 x, Value.bool (decide (y ≤ x)), Value.bool (decide (y ≤ x)), Value.int IntKind.i64 n, Value.bool false, Value.bool false, Value.int IntKind.i64 n, Value.slice A xs.length c, Value.int IntKind.i64 x, Value.int IntKind.i64 y, Value.int IntKind.i64 (leastB xs x y), Value.bool (decide (leastB xs x y < n)), Value.bool (decide (leastB xs x y < n)), undef, undef, undef, undef, undef, undef, undef, undef, undef, undef, undef, undef, undef, undef, undef, undef, undef, undef, undef, undef, undef, undef, undef, undef, undef, undef, undef, undef, undef, undef, undef, undef, undef, undef, undef, undef, undef, undef, undef, undef], defers := [] } ∧ Below w1.heap.size w1.drew w3) (fun _ _ _ => False)) ?r ?k
  case r =>
    go_region_with (go_at_call 8; refine (implMin_any xs x y _ _ (HR.out.below HB.out.drew (Nat.le_refl _))).mono ?_; rintro e w3 ⟨rfl, hb3⟩; have cn3 := HM.out _ hb3)
    all_goals (refine ⟨?_, hb3⟩; first | rfl | simp [Act.put])
  intro e a w3 h3
  obtain ⟨rfl, rfl, hb3⟩ : e = .normal ∧ a = _ ∧ Below w1.heap.size w1.drew w3 := by
    cases e <;> first | exact ⟨rfl, h3⟩ | exact h3.elim
  clear h3
  have HB3 := Lib.hid (HB.out.drew.trans (hb3.mono HB.out.drew.size))
  have bN3 : Boxed w3 w.heap.size 3 (.int .i64 n) := (hb3.block w.heap.size hlb).trans bN
  clear hb3
  have HLB := Lib.hid (show spanB xs x y = true from by rw [spanB, HO.out, HI.out, HI2.out]; rfl)
  by_cases hnm : leastB xs x y < n
  · have HF := Lib.hid (show reduceB xs x y n = false from by rw [HQ.out, inB_no (n := n) (fun h => by have := h.2; omega)]; simp)
    go_wp2
    exact ⟨_, results_tmp2 rfl _ _ _, _, by rw [HF.out]; rfl, HNO.out _ HF.out, HB3.out⟩
  have HNI := Lib.hid (inB_yes (n := n) (lo := 0) (hi := leastB xs x y) ⟨by omega, by omega⟩)
  go_wp2_with fail
  refine (callsIn_wide.1 (stepsWithin_any 0 _ _ _ _ _ _)).mono ?_
  rintro e w4 ⟨rfl, rfl⟩
  go_wp2
  have hok := okP_iff.1 HO.out
  have hl1 := hok.1
  have hl8 := hok.2.1
  have HOK := Lib.hid hok
  clear hok
  obtain ⟨b, o, rfl, hb, hc⟩ := HA.out 0 (by omega)
  have HC := Lib.hid hc
  clear hc cN HM
  -- THE LOOPS
  have bS0 := Boxed.new w3 23 (.slice none 0 0)
  have hR0 : RI w w3.heap.size (w3.heap.size + 1) n (Value.slice (some ⟨b, o, none⟩) xs.length c) 0 x [] [] ((((w3.alloc (.cells #[.slice none 0 0] 23)).alloc (.cells #[Value.slice (some ⟨b, o, none⟩) xs.length c] 23)).alloc (.cells #[.int .i64 0] 3)).alloc (.cells #[.int .i64 x] 3)) := by
    have hb3s := HB3.out.size
    refine ⟨⟨_, ((bS0.alloc _).alloc _).alloc _, World.ownsRow_nil _ _ _ _⟩, (((bN3.alloc _).alloc _).alloc _).alloc _, ⟨?_, ?_, ?_⟩, (((HB3.out.alloc HB3.out.size _).alloc (by simp; omega) _).alloc (by simp; omega) _).alloc (by simp; omega) _, fun d hd => by simp at hd⟩
    · have h := ((Boxed.new (w3.alloc (.cells #[.slice none 0 0] 23)) 23 (Value.slice (some ⟨b, o, none⟩) xs.length c)).alloc (.cells #[.int .i64 0] 3)).alloc (.cells #[.int .i64 x] 3)
      simpa only [World.size_alloc] using h
    · have h := (Boxed.new ((w3.alloc (.cells #[.slice none 0 0] 23)).alloc (.cells #[Value.slice (some ⟨b, o, none⟩) xs.length c] 23)) 3 (.int .i64 0)).alloc (.cells #[.int .i64 x] 3)
      simpa only [World.size_alloc] using h
    · have h := Boxed.new (((w3.alloc (.cells #[.slice none 0 0] 23)).alloc (.cells #[Value.slice (some ⟨b, o, none⟩) xs.length c] 23)).alloc (.cells #[.int .i64 0] 3)) 3 (.int .i64 x)
      simpa only [World.size_alloc] using h
  have hsz0 : ((((w3.alloc (.cells #[.slice none 0 0] 23)).alloc (.cells #[Value.slice (some ⟨b, o, none⟩) xs.length c] 23)).alloc (.cells #[.int .i64 0] 3)).alloc (.cells #[.int .i64 x] 3)).heap.size = w3.heap.size + 1 + 3 := by simp
  generalize ((((w3.alloc (.cells #[.slice none 0 0] 23)).alloc (.cells #[Value.slice (some ⟨b, o, none⟩) xs.length c] 23)).alloc (.cells #[.int .i64 0] 3)).alloc (.cells #[.int .i64 x] 3)) = V0 at hR0 hsz0 ⊢
  have hSlt : w.heap.size < w3.heap.size := bN3.lt
  clear bS0
  refine (wpIn_wide (n := 12)).1 ?_
  have HR0 := Lib.hid hR0
  have hb0 : Below w.heap.size w V0 := hR0.2.2.2.1
  have hbz0 := hb0.size
  clear hR0
  refine wpIn_rangeFunc_ownH rfl (by omega) (gf := 43) (lb := #[Value.pointer (some { block := w3.heap.size + 1, off := 0 }), Value.pointer (some { block := w3.heap.size + 1 + 1, off := 0 }), Value.pointer (some { block := w3.heap.size + 1 + 1 + 1, off := 0 })]) rfl trivial (enters_of Tryd.func43 (by kernel_rfl) rfl)
    (parts_stops _ (by omega) (w3.heap.size + 1) w.heap.size b o c xs 0 x (by omega) hb V0 (by omega) (by omega) HR0.out.2.2.1.1.cell HR0.out.2.2.1.2.1.cell HR0.out.2.2.1.2.2.cell
      (fun j hj => ⟨(hb0.cell (p := ⟨b, o + j * 2, none⟩) hb).trans (HC.out j hj).1, (hb0.cell (p := ⟨b, o + j * 2 + 1, none⟩) hb).trans (HC.out j hj).2⟩))
    (fun h k => h.trans k) (kpS_b (by omega) (by omega)) (Below.refl _ _) (fun _ => rfl)
    (fun pre W => RI w w3.heap.size (w3.heap.size + 1) n (Value.slice (some ⟨b, o, none⟩) xs.length c) 0 x [] (pre.map (·.1)) W)
    (fun _ _ _ => False)
    (RI.own (fun pre => pre.map (·.1)) (by omega) (fun d hd => by simp at hd))
    (fun _ _ _ _ _ hs _ _ => hs)
    (by simpa using HR0.out)
    (fun q a' W => ∃ Bx, w3.heap.size + 1 + 3 ≤ Bx ∧ Boxed2 W Bx 52 (.int .i64 q.1.1) (.int .i64 q.1.2) ∧ a' =
    { tmps :=
        #[Value.slice (some ⟨b, o, none⟩) xs.length c, Value.int IntKind.i64 x, Value.int IntKind.i64 y, Value.int IntKind.i64 n, undef, undef, undef, Value.pointer (some { block := w.heap.size, off := 0 }), Value.slice none 0 0, Value.bool false, Value.pointer (some { block := w3.heap.size, off := 0 }), Value.pointer (some { block := Bx, off := 0 }), undef, undef, undef, Value.slice (some ⟨b, o, none⟩) xs.length c, Value.bool true, Value.bool false, Value.bool false, Value.int IntKind.i64 x, Value.bool true, Value.bool false, Value.bool false, Value.bool false, Value.int IntKind.i64 y, Value.bool true, Value.bool false, Value.bool false, Value.bool false, Value.int IntKind.i64 y, Value.int IntKind.i64 x, Value.bool (decide (y ≤ x)), Value.bool (decide (y ≤ x)), Value.int IntKind.i64 n, Value.bool false, Value.bool false, Value.int IntKind.i64 n, Value.slice (some ⟨b, o, none⟩) xs.length c, Value.int IntKind.i64 x, Value.int IntKind.i64 y, Value.int IntKind.i64 (leastB xs x y), Value.bool (decide (leastB xs x y < n)), Value.bool (decide (leastB xs x y < n)), Value.slice (some ⟨b, o, none⟩) xs.length c, Value.int IntKind.i64 x, Value.func (Fn.func 43) #[] #[Value.pointer (some { block := w3.heap.size + 1, off := 0 }), Value.pointer (some { block := w3.heap.size + 1 + 1, off := 0 }), Value.pointer (some { block := w3.heap.size + 1 + 1 + 1, off := 0 })], .agg #[.int .i64 q.1.1, .int .i64 q.1.2], .int .i64 q.2, undef, undef, undef, undef, undef, undef, undef, undef, undef, undef, undef, undef, undef, undef, undef, undef, undef, undef, undef, undef, undef, undef, undef, undef, undef, undef, undef, undef, undef, undef, undef, undef, undef, undef, undef],
      defers := [] })
    (fun q a' _ X Y row hs hg hr => by obtain ⟨Bx, h1, h2, h3⟩ := hs; exact ⟨Bx, h1, h2.kept hg (fun r e => (hr r e).2), h3⟩)
    ?assign0 ?body0 ?done0 ?stop0
  case assign0 =>
    rintro l pre q W K hRI hK
    have hgt : w3.heap.size + 1 + 1 + 1 < W.heap.size := hRI.2.2.1.2.2.lt
    have hbs := hRI.2.2.2.1.size
    have HRI := Lib.hid hRI
    clear hRI
    gi_wp2
    exact hK _ _ ((KeepsOthers.alloc _ _).from _) ((KpS.refl _ _ W).alloc hbs (by omega) _) (HRI.out.alloc _) ⟨W.heap.size, by omega, Boxed2.new W _ _ _, rfl⟩
  case body0 =>
    rintro l pre q a' W hl hrec hRI ⟨Bx, hBx, b2, rfl⟩ hlt
    have c0 := b2.cell0
    have c1 := b2.cell1
    have cN' := hRI.2.1.cell
    have hNlt := hRI.2.1.lt
    have hgt : w3.heap.size + 1 + 1 + 1 < W.heap.size := hRI.2.2.1.2.2.lt
    have hbs := hRI.2.2.2.1.size
    obtain ⟨⟨v, hv, hrow⟩, _⟩ := id hRI
    have cS := hv.cell
    have fS := hv.frozen
    have hSl := hv.lt
    have HRI := Lib.hid hRI
    have hlz : (pre.map (·.1)).length ≤ 100 := by have := hlt; simp; omega
    have HZ := Lib.hid (show (pre.map (·.1)) ++ [(q.1.1, q.1.2)] = (pre ++ [q]).map (·.1) from by simp)
    clear hRI
    generalize (pre.map (·.1)) = zs at hrow HRI hlz HZ
    have HV := Lib.hid hv
    have HW := Lib.hid hrow
    have hlt2 := b2.lt
    clear hv hrow
    gi_wp2_with (gi_at_builtin; refine appP1In rfl (.tmp 48) (.tmp 50) 23 rfl rfl w.heap.size _ _ zs (q.1.1, q.1.2) rfl rfl (by exact HW.out.alloc _) (by exact newP0 _ _ _ _ rfl) (by exact newP1 _ _ _ _ rfl) (by omega) (by simp; omega) ?_; intro v' w1' hown' hgrow; obtain ⟨g', cap', rfl⟩ := ownsRow_succ (k := zs.length) (by simpa using hown'); obtain ⟨hA1, hA2, hA3, hA4⟩ := HRI.out.step HV.out HW.out hSlt (by omega) hown' hgrow; have hc1 := hA4.cell; have hf1 := hA4.frozen; have HA4 := Lib.hid (And.intro hA1 (And.intro hA2 hA3)); clear hA1 hA2 hA3 hown' hgrow)
    refine ⟨HA4.out.2.2.from _, HA4.out.2.1, ?_⟩
    have h1 := HA4.out.1
    rw [HZ.out] at h1
    first | exact h1 | (rw [List.append_assoc] at h1; exact h1)
  case stop0 =>
    rintro D c pre W _ _ h _
    exact h.elim
  rintro DA ys WA hD0 rfl hQ hK
  have hQ0 := Lib.hid hQ
  have hK0 := Lib.hid hK
  clear hQ hK
  go_wp2_with fail
  refine (callsIn_wide.1 (stepsWithin_any 0 _ _ _ _ _ _)).mono ?_
  rintro e wz1 ⟨rfl, rfl⟩
  go_wp2
  have hR1 : RI w w3.heap.size (WA.heap.size) n (Value.slice (some ⟨b, o, none⟩) xs.length c) x y [DA] ((partsP xs 0 x).map (·.1)) (((WA.alloc (.cells #[Value.slice (some ⟨b, o, none⟩) xs.length c] 23)).alloc (.cells #[.int .i64 x] 3)).alloc (.cells #[.int .i64 y] 3)) := by
    obtain ⟨⟨v, hv, ho⟩, hn', _, hb', hds'⟩ := hQ0.out
    have hlt' := hb'.size
    refine ⟨⟨v, ((hv.alloc _).alloc _).alloc _, ((ho.alloc _).alloc _).alloc _⟩, ((hn'.alloc _).alloc _).alloc _, ⟨?_, ?_, ?_⟩, ((hb'.alloc hb'.size _).alloc (by simp; omega) _).alloc (by simp; omega) _, fun d hd => ?_⟩
    · exact ((Boxed.new WA 23 (Value.slice (some ⟨b, o, none⟩) xs.length c)).alloc _).alloc _
    · have h := (Boxed.new (WA.alloc (.cells #[Value.slice (some ⟨b, o, none⟩) xs.length c] 23)) 3 (.int .i64 x)).alloc (.cells #[.int .i64 y] 3)
      simpa only [World.size_alloc] using h
    · have h := Boxed.new ((WA.alloc (.cells #[Value.slice (some ⟨b, o, none⟩) xs.length c] 23)).alloc (.cells #[.int .i64 x] 3)) 3 (.int .i64 y)
      simpa only [World.size_alloc] using h
    · have hdd : WA.heap[d]? = some (.deferred (some [])) := by
        rcases List.mem_cons.1 hd with rfl | hd
        · exact hK0.out
        · exact hds' d hd
      have hdl := (Array.getElem?_eq_some_iff.1 hdd).1
      exact ((Below.heap_alloc _ _ d (by simp; omega)).trans ((Below.heap_alloc _ _ d (by simp; omega)).trans (Below.heap_alloc _ _ d hdl))).trans hdd
  have hsz1 : (((WA.alloc (.cells #[Value.slice (some ⟨b, o, none⟩) xs.length c] 23)).alloc (.cells #[.int .i64 x] 3)).alloc (.cells #[.int .i64 y] 3)).heap.size = WA.heap.size + 3 := by simp
  have hdl1 : ∀ d ∈ [DA], d < WA.heap.size := by
    intro d hd
    rcases List.mem_cons.1 hd with rfl | hd
    · exact (Array.getElem?_eq_some_iff.1 hK0.out).1
    · exact (Array.getElem?_eq_some_iff.1 (hQ0.out.2.2.2.2 d hd)).1
  have hS1 : w3.heap.size < WA.heap.size := by obtain ⟨⟨v, hv, _⟩, _⟩ := hQ0.out; exact hv.lt
  generalize (((WA.alloc (.cells #[Value.slice (some ⟨b, o, none⟩) xs.length c] 23)).alloc (.cells #[.int .i64 x] 3)).alloc (.cells #[.int .i64 y] 3)) = V1 at hR1 hsz1 ⊢
  refine (wpIn_wide (n := 12)).1 ?_
  have HR1 := Lib.hid hR1
  have hb1 : Below w.heap.size w V1 := hR1.2.2.2.1
  have hbz1 := hb1.size
  clear hR1
  refine wpIn_rangeFunc_ownH rfl (by omega) (gf := 43) (lb := #[Value.pointer (some { block := WA.heap.size, off := 0 }), Value.pointer (some { block := WA.heap.size + 1, off := 0 }), Value.pointer (some { block := WA.heap.size + 1 + 1, off := 0 })]) rfl trivial (enters_of Tryd.func43 (by kernel_rfl) rfl)
    (parts_stops _ (by omega) (WA.heap.size) w.heap.size b o c xs x y (by omega) hb V1 (by omega) (by omega) HR1.out.2.2.1.1.cell HR1.out.2.2.1.2.1.cell HR1.out.2.2.1.2.2.cell
      (fun j hj => ⟨(hb1.cell (p := ⟨b, o + j * 2, none⟩) hb).trans (HC.out j hj).1, (hb1.cell (p := ⟨b, o + j * 2 + 1, none⟩) hb).trans (HC.out j hj).2⟩))
    (fun h k => h.trans k) (kpS_b (by omega) (by omega)) (Below.refl _ _) (fun _ => rfl)
    (fun pre W => RI w w3.heap.size (WA.heap.size) n (Value.slice (some ⟨b, o, none⟩) xs.length c) x y [DA] (((partsP xs 0 x).map (·.1)) ++ pre.map (fun q => (q.1.1, wrap64 (q.1.2 - n)))) W)
    (fun _ _ _ => False)
    (RI.own (fun pre => ((partsP xs 0 x).map (·.1)) ++ pre.map (fun q => (q.1.1, wrap64 (q.1.2 - n)))) (by omega) (fun d hd => by have := hdl1 d hd; omega))
    (fun _ _ _ _ _ hs _ _ => hs)
    (by simpa using HR1.out)
    (fun q a' W => ∃ Bx, WA.heap.size + 3 ≤ Bx ∧ Boxed2 W Bx 52 (.int .i64 q.1.1) (.int .i64 q.1.2) ∧ a' =
    { tmps :=
        #[Value.slice (some ⟨b, o, none⟩) xs.length c, Value.int IntKind.i64 x, Value.int IntKind.i64 y, Value.int IntKind.i64 n, undef, undef, undef, Value.pointer (some { block := w.heap.size, off := 0 }), Value.slice none 0 0, Value.bool false, Value.pointer (some { block := w3.heap.size, off := 0 }), undef, Value.pointer (some { block := Bx, off := 0 }), undef, undef, Value.slice (some ⟨b, o, none⟩) xs.length c, Value.bool true, Value.bool false, Value.bool false, Value.int IntKind.i64 x, Value.bool true, Value.bool false, Value.bool false, Value.bool false, Value.int IntKind.i64 y, Value.bool true, Value.bool false, Value.bool false, Value.bool false, Value.int IntKind.i64 y, Value.int IntKind.i64 x, Value.bool (decide (y ≤ x)), Value.bool (decide (y ≤ x)), Value.int IntKind.i64 n, Value.bool false, Value.bool false, Value.int IntKind.i64 n, Value.slice (some ⟨b, o, none⟩) xs.length c, Value.int IntKind.i64 x, Value.int IntKind.i64 y, Value.int IntKind.i64 (leastB xs x y), Value.bool (decide (leastB xs x y < n)), Value.bool (decide (leastB xs x y < n)), Value.slice (some ⟨b, o, none⟩) xs.length c, Value.int IntKind.i64 x, Value.func (Fn.func 43) #[] #[Value.pointer (some { block := w3.heap.size + 1, off := 0 }), Value.pointer (some { block := w3.heap.size + 1 + 1, off := 0 }), Value.pointer (some { block := w3.heap.size + 1 + 1 + 1, off := 0 })], undef, undef, undef, undef, undef, undef, Value.slice (some ⟨b, o, none⟩) xs.length c, Value.int IntKind.i64 x, Value.int IntKind.i64 y, Value.func (Fn.func 43) #[] #[Value.pointer (some { block := WA.heap.size, off := 0 }), Value.pointer (some { block := WA.heap.size + 1, off := 0 }), Value.pointer (some { block := WA.heap.size + 1 + 1, off := 0 })], .agg #[.int .i64 q.1.1, .int .i64 q.1.2], .int .i64 q.2, undef, undef, undef, undef, undef, undef, undef, undef, undef, undef, undef, undef, undef, undef, undef, undef, undef, undef, undef, undef, undef, undef, undef, undef, undef],
      defers := [] })
    (fun q a' _ X Y row hs hg hr => by obtain ⟨Bx, h1, h2, h3⟩ := hs; exact ⟨Bx, h1, h2.kept hg (fun r e => (hr r e).2), h3⟩)
    ?assign1 ?body1 ?done1 ?stop1
  case assign1 =>
    rintro l pre q W K hRI hK
    have hgt : WA.heap.size + 1 + 1 < W.heap.size := hRI.2.2.1.2.2.lt
    have hbs := hRI.2.2.2.1.size
    have HRI := Lib.hid hRI
    clear hRI
    gi_wp2
    exact hK _ _ ((KeepsOthers.alloc _ _).from _) ((KpS.refl _ _ W).alloc hbs (by omega) _) (HRI.out.alloc _) ⟨W.heap.size, by omega, Boxed2.new W _ _ _, rfl⟩
  case body1 =>
    rintro l pre q a' W hl hrec hRI ⟨Bx, hBx, b2, rfl⟩ hlt
    have c0 := b2.cell0
    have c1 := b2.cell1
    have cN' := hRI.2.1.cell
    have hNlt := hRI.2.1.lt
    have hgt : WA.heap.size + 1 + 1 < W.heap.size := hRI.2.2.1.2.2.lt
    have hbs := hRI.2.2.2.1.size
    obtain ⟨⟨v, hv, hrow⟩, _⟩ := id hRI
    have cS := hv.cell
    have fS := hv.frozen
    have hSl := hv.lt
    have HRI := Lib.hid hRI
    have hlz : (((partsP xs 0 x).map (·.1)) ++ pre.map (fun q => (q.1.1, wrap64 (q.1.2 - n)))).length ≤ 100 := by have := hlt; have := partsP_len xs 0 x; have := partsP_len xs x y; simp; omega
    have HZ := Lib.hid (show (((partsP xs 0 x).map (·.1)) ++ pre.map (fun q => (q.1.1, wrap64 (q.1.2 - n)))) ++ [(q.1.1, wrap64 (q.1.2 - n))] = ((partsP xs 0 x).map (·.1)) ++ (pre ++ [q]).map (fun q => (q.1.1, wrap64 (q.1.2 - n))) from by simp)
    clear hRI
    generalize (((partsP xs 0 x).map (·.1)) ++ pre.map (fun q => (q.1.1, wrap64 (q.1.2 - n)))) = zs at hrow HRI hlz HZ
    have HV := Lib.hid hv
    have HW := Lib.hid hrow
    have hlt2 := b2.lt
    clear hv hrow
    gi_wp2_with (gi_at_builtin; refine appP1In rfl (.tmp 58) (.tmp 66) 23 rfl rfl w.heap.size _ _ zs (q.1.1, wrap64 (q.1.2 - n)) rfl rfl (by exact HW.out.alloc _) (by exact newP0 _ _ _ _ rfl) (by exact newP1 _ _ _ _ rfl) (by omega) (by simp; omega) ?_; intro v' w1' hown' hgrow; obtain ⟨g', cap', rfl⟩ := ownsRow_succ (k := zs.length) (by simpa using hown'); obtain ⟨hA1, hA2, hA3, hA4⟩ := HRI.out.step HV.out HW.out hSlt (by omega) hown' hgrow; have hc1 := hA4.cell; have hf1 := hA4.frozen; have HA4 := Lib.hid (And.intro hA1 (And.intro hA2 hA3)); clear hA1 hA2 hA3 hown' hgrow)
    refine ⟨HA4.out.2.2.from _, HA4.out.2.1, ?_⟩
    have h1 := HA4.out.1
    rw [HZ.out] at h1
    first | exact h1 | (rw [List.append_assoc] at h1; exact h1)
  case stop1 =>
    rintro D c pre W _ _ h _
    exact h.elim
  rintro DB ys WB hD1 rfl hQ hK
  have hQ1 := Lib.hid hQ
  have hK1 := Lib.hid hK
  clear hQ hK
  go_wp2_with fail
  refine (callsIn_wide.1 (stepsWithin_any 0 _ _ _ _ _ _)).mono ?_
  rintro e wz2 ⟨rfl, rfl⟩
  go_wp2
  have hR2 : RI w w3.heap.size (WB.heap.size) n (Value.slice (some ⟨b, o, none⟩) xs.length c) y 61 [DB, DA] (((partsP xs 0 x).map (·.1)) ++ (partsP xs x y).map (fun q => (q.1.1, wrap64 (q.1.2 - n)))) (((WB.alloc (.cells #[Value.slice (some ⟨b, o, none⟩) xs.length c] 23)).alloc (.cells #[.int .i64 y] 3)).alloc (.cells #[.int .i64 61] 3)) := by
    obtain ⟨⟨v, hv, ho⟩, hn', _, hb', hds'⟩ := hQ1.out
    have hlt' := hb'.size
    refine ⟨⟨v, ((hv.alloc _).alloc _).alloc _, ((ho.alloc _).alloc _).alloc _⟩, ((hn'.alloc _).alloc _).alloc _, ⟨?_, ?_, ?_⟩, ((hb'.alloc hb'.size _).alloc (by simp; omega) _).alloc (by simp; omega) _, fun d hd => ?_⟩
    · exact ((Boxed.new WB 23 (Value.slice (some ⟨b, o, none⟩) xs.length c)).alloc _).alloc _
    · have h := (Boxed.new (WB.alloc (.cells #[Value.slice (some ⟨b, o, none⟩) xs.length c] 23)) 3 (.int .i64 y)).alloc (.cells #[.int .i64 61] 3)
      simpa only [World.size_alloc] using h
    · have h := Boxed.new ((WB.alloc (.cells #[Value.slice (some ⟨b, o, none⟩) xs.length c] 23)).alloc (.cells #[.int .i64 y] 3)) 3 (.int .i64 61)
      simpa only [World.size_alloc] using h
    · have hdd : WB.heap[d]? = some (.deferred (some [])) := by
        rcases List.mem_cons.1 hd with rfl | hd
        · exact hK1.out
        · exact hds' d hd
      have hdl := (Array.getElem?_eq_some_iff.1 hdd).1
      exact ((Below.heap_alloc _ _ d (by simp; omega)).trans ((Below.heap_alloc _ _ d (by simp; omega)).trans (Below.heap_alloc _ _ d hdl))).trans hdd
  have hsz2 : (((WB.alloc (.cells #[Value.slice (some ⟨b, o, none⟩) xs.length c] 23)).alloc (.cells #[.int .i64 y] 3)).alloc (.cells #[.int .i64 61] 3)).heap.size = WB.heap.size + 3 := by simp
  have hdl2 : ∀ d ∈ [DB, DA], d < WB.heap.size := by
    intro d hd
    rcases List.mem_cons.1 hd with rfl | hd
    · exact (Array.getElem?_eq_some_iff.1 hK1.out).1
    · exact (Array.getElem?_eq_some_iff.1 (hQ1.out.2.2.2.2 d hd)).1
  have hS2 : w3.heap.size < WB.heap.size := by obtain ⟨⟨v, hv, _⟩, _⟩ := hQ1.out; exact hv.lt
  generalize (((WB.alloc (.cells #[Value.slice (some ⟨b, o, none⟩) xs.length c] 23)).alloc (.cells #[.int .i64 y] 3)).alloc (.cells #[.int .i64 61] 3)) = V2 at hR2 hsz2 ⊢
  refine (wpIn_wide (n := 12)).1 ?_
  have HR2 := Lib.hid hR2
  have hb2 : Below w.heap.size w V2 := hR2.2.2.2.1
  have hbz2 := hb2.size
  clear hR2
  refine wpIn_rangeFunc_ownH rfl (by omega) (gf := 43) (lb := #[Value.pointer (some { block := WB.heap.size, off := 0 }), Value.pointer (some { block := WB.heap.size + 1, off := 0 }), Value.pointer (some { block := WB.heap.size + 1 + 1, off := 0 })]) rfl trivial (enters_of Tryd.func43 (by kernel_rfl) rfl)
    (parts_stops _ (by omega) (WB.heap.size) w.heap.size b o c xs y 61 (by omega) hb V2 (by omega) (by omega) HR2.out.2.2.1.1.cell HR2.out.2.2.1.2.1.cell HR2.out.2.2.1.2.2.cell
      (fun j hj => ⟨(hb2.cell (p := ⟨b, o + j * 2, none⟩) hb).trans (HC.out j hj).1, (hb2.cell (p := ⟨b, o + j * 2 + 1, none⟩) hb).trans (HC.out j hj).2⟩))
    (fun h k => h.trans k) (kpS_b (by omega) (by omega)) (Below.refl _ _) (fun _ => rfl)
    (fun pre W => RI w w3.heap.size (WB.heap.size) n (Value.slice (some ⟨b, o, none⟩) xs.length c) y 61 [DB, DA] ((((partsP xs 0 x).map (·.1)) ++ (partsP xs x y).map (fun q => (q.1.1, wrap64 (q.1.2 - n)))) ++ pre.map (·.1)) W)
    (fun _ _ _ => False)
    (RI.own (fun pre => (((partsP xs 0 x).map (·.1)) ++ (partsP xs x y).map (fun q => (q.1.1, wrap64 (q.1.2 - n)))) ++ pre.map (·.1)) (by omega) (fun d hd => by have := hdl2 d hd; omega))
    (fun _ _ _ _ _ hs _ _ => hs)
    (by simpa using HR2.out)
    (fun q a' W => ∃ Bx, WB.heap.size + 3 ≤ Bx ∧ Boxed2 W Bx 52 (.int .i64 q.1.1) (.int .i64 q.1.2) ∧ a' =
    { tmps :=
        #[Value.slice (some ⟨b, o, none⟩) xs.length c, Value.int IntKind.i64 x, Value.int IntKind.i64 y, Value.int IntKind.i64 n, undef, undef, undef, Value.pointer (some { block := w.heap.size, off := 0 }), Value.slice none 0 0, Value.bool false, Value.pointer (some { block := w3.heap.size, off := 0 }), undef, undef, Value.pointer (some { block := Bx, off := 0 }), undef, Value.slice (some ⟨b, o, none⟩) xs.length c, Value.bool true, Value.bool false, Value.bool false, Value.int IntKind.i64 x, Value.bool true, Value.bool false, Value.bool false, Value.bool false, Value.int IntKind.i64 y, Value.bool true, Value.bool false, Value.bool false, Value.bool false, Value.int IntKind.i64 y, Value.int IntKind.i64 x, Value.bool (decide (y ≤ x)), Value.bool (decide (y ≤ x)), Value.int IntKind.i64 n, Value.bool false, Value.bool false, Value.int IntKind.i64 n, Value.slice (some ⟨b, o, none⟩) xs.length c, Value.int IntKind.i64 x, Value.int IntKind.i64 y, Value.int IntKind.i64 (leastB xs x y), Value.bool (decide (leastB xs x y < n)), Value.bool (decide (leastB xs x y < n)), Value.slice (some ⟨b, o, none⟩) xs.length c, Value.int IntKind.i64 x, Value.func (Fn.func 43) #[] #[Value.pointer (some { block := w3.heap.size + 1, off := 0 }), Value.pointer (some { block := w3.heap.size + 1 + 1, off := 0 }), Value.pointer (some { block := w3.heap.size + 1 + 1 + 1, off := 0 })], undef, undef, undef, undef, undef, undef, Value.slice (some ⟨b, o, none⟩) xs.length c, Value.int IntKind.i64 x, Value.int IntKind.i64 y, Value.func (Fn.func 43) #[] #[Value.pointer (some { block := WA.heap.size, off := 0 }), Value.pointer (some { block := WA.heap.size + 1, off := 0 }), Value.pointer (some { block := WA.heap.size + 1 + 1, off := 0 })], undef, undef, undef, undef, undef, undef, undef, undef, undef, undef, undef, undef, Value.slice (some ⟨b, o, none⟩) xs.length c, Value.int IntKind.i64 y, Value.func (Fn.func 43) #[] #[Value.pointer (some { block := WB.heap.size, off := 0 }), Value.pointer (some { block := WB.heap.size + 1, off := 0 }), Value.pointer (some { block := WB.heap.size + 1 + 1, off := 0 })], .agg #[.int .i64 q.1.1, .int .i64 q.1.2], .int .i64 q.2, undef, undef, undef, undef, undef, undef, undef, undef, undef, undef],
      defers := [] })
    (fun q a' _ X Y row hs hg hr => by obtain ⟨Bx, h1, h2, h3⟩ := hs; exact ⟨Bx, h1, h2.kept hg (fun r e => (hr r e).2), h3⟩)
    ?assign2 ?body2 ?done2 ?stop2
  case assign2 =>
    rintro l pre q W K hRI hK
    have hgt : WB.heap.size + 1 + 1 < W.heap.size := hRI.2.2.1.2.2.lt
    have hbs := hRI.2.2.2.1.size
    have HRI := Lib.hid hRI
    clear hRI
    gi_wp2
    exact hK _ _ ((KeepsOthers.alloc _ _).from _) ((KpS.refl _ _ W).alloc hbs (by omega) _) (HRI.out.alloc _) ⟨W.heap.size, by omega, Boxed2.new W _ _ _, rfl⟩
  case body2 =>
    rintro l pre q a' W hl hrec hRI ⟨Bx, hBx, b2, rfl⟩ hlt
    have c0 := b2.cell0
    have c1 := b2.cell1
    have cN' := hRI.2.1.cell
    have hNlt := hRI.2.1.lt
    have hgt : WB.heap.size + 1 + 1 < W.heap.size := hRI.2.2.1.2.2.lt
    have hbs := hRI.2.2.2.1.size
    obtain ⟨⟨v, hv, hrow⟩, _⟩ := id hRI
    have cS := hv.cell
    have fS := hv.frozen
    have hSl := hv.lt
    have HRI := Lib.hid hRI
    have hlz : ((((partsP xs 0 x).map (·.1)) ++ (partsP xs x y).map (fun q => (q.1.1, wrap64 (q.1.2 - n)))) ++ pre.map (·.1)).length ≤ 100 := by have := hlt; have := partsP_len xs 0 x; have := partsP_len xs x y; simp; omega
    have HZ := Lib.hid (show ((((partsP xs 0 x).map (·.1)) ++ (partsP xs x y).map (fun q => (q.1.1, wrap64 (q.1.2 - n)))) ++ pre.map (·.1)) ++ [(q.1.1, q.1.2)] = (((partsP xs 0 x).map (·.1)) ++ (partsP xs x y).map (fun q => (q.1.1, wrap64 (q.1.2 - n)))) ++ (pre ++ [q]).map (·.1) from by simp)
    clear hRI
    generalize ((((partsP xs 0 x).map (·.1)) ++ (partsP xs x y).map (fun q => (q.1.1, wrap64 (q.1.2 - n)))) ++ pre.map (·.1)) = zs at hrow HRI hlz HZ
    have HV := Lib.hid hv
    have HW := Lib.hid hrow
    have hlt2 := b2.lt
    clear hv hrow
    gi_wp2_with (gi_at_builtin; refine appP1In rfl (.tmp 73) (.tmp 75) 23 rfl rfl w.heap.size _ _ zs (q.1.1, q.1.2) rfl rfl (by exact HW.out.alloc _) (by exact newP0 _ _ _ _ rfl) (by exact newP1 _ _ _ _ rfl) (by omega) (by simp; omega) ?_; intro v' w1' hown' hgrow; obtain ⟨g', cap', rfl⟩ := ownsRow_succ (k := zs.length) (by simpa using hown'); obtain ⟨hA1, hA2, hA3, hA4⟩ := HRI.out.step HV.out HW.out hSlt (by omega) hown' hgrow; have hc1 := hA4.cell; have hf1 := hA4.frozen; have HA4 := Lib.hid (And.intro hA1 (And.intro hA2 hA3)); clear hA1 hA2 hA3 hown' hgrow)
    refine ⟨HA4.out.2.2.from _, HA4.out.2.1, ?_⟩
    have h1 := HA4.out.1
    rw [HZ.out] at h1
    first | exact h1 | (rw [List.append_assoc] at h1; exact h1)
  case stop2 =>
    rintro D c pre W _ _ h _
    exact h.elim
  rintro DC ys WC hD2 rfl hQ hK
  have hQ2 := Lib.hid hQ
  have hK2 := Lib.hid hK
  clear hQ hK
  have hzeq : (((partsP xs 0 x).map (·.1)) ++ (partsP xs x y).map (fun q => (q.1.1, wrap64 (q.1.2 - n)))) ++ (partsP xs y 61).map (·.1) = joinP xs x y n := by
    unfold joinP
    congr 2
    refine List.map_congr_left fun q hq => ?_
    have h5 := partsP_in HOK.out q hq
    have h6 := leastB_le20 xs x y
    have e1 : wrap64 (q.1.2 - n) = q.1.2 - n := by unfold wrap64; omega
    rw [e1]
  rw [hzeq] at hQ2
  have HRED := Lib.hid (red_ok HOK.out x y n hx0 (by omega) hy1)
  have HOKR := Lib.hid (red_okS HOK.out x y n (by omega) (by rw [← leastB_min HLB.out]; omega))
  have hjl : (joinP xs x y n).length ≤ 24 := by
    have h1 := partsP_len xs 0 x
    have h2 := partsP_len xs x y
    have h3 := partsP_len xs y 61
    simp [joinP]; omega
  obtain ⟨⟨vz, hvz, hrz⟩, _, _, hbz', hdz⟩ := hQ2.out
  have hkA := hdz DA (by simp)
  have hkB := hdz DB (by simp)
  have hlDB := hdl2 DB (by simp)
  have hlDA := hdl2 DA (by simp)
  have hlDA1 := hdl1 DA (by simp)
  have cS := hvz.cell
  have HKZ := Lib.hid (And.intro hkA hkB)
  have HBZ := Lib.hid hbz'
  have HRZ := Lib.hid hrz
  clear hvz hkA hkB hdz hbz' hrz hzeq
  generalize joinP xs x y n = zs at HRED HRZ hjl
  go_wp2_with fail
  refine (implMerged_any zs vz _ (own_rdP HRZ.out (by unfold maxLen; omega)) (by omega)).mono ?_
  rintro e w6 ⟨v6, rfl, ho6, hb6⟩
  rw [HRED.out] at ho6
  have HB6 := Lib.hid (HBZ.out.trans (hb6.mono HBZ.out.size))
  have hlr : (redP xs x y n).length ≤ 24 := by have := lowP_len zs; rw [HRED.out] at this; omega
  obtain ⟨A6, c6, rfl, _⟩ := rdPk (own_rdP ho6 (by unfold maxLen; omega))
  have HO6 := Lib.hid (own_base1 ho6 HBZ.out.size)
  have kC : w6.heap[DC]? = some (.deferred (some [])) := (hb6.block DC (Array.getElem?_eq_some_iff.1 hK2.out).1).trans hK2.out
  have kB0 : w6.heap[DB]? = some (.deferred (some [])) := (hb6.block DB (Array.getElem?_eq_some_iff.1 HKZ.out.2).1).trans HKZ.out.2
  have kA0 : w6.heap[DA]? = some (.deferred (some [])) := (hb6.block DA (Array.getElem?_eq_some_iff.1 HKZ.out.1).1).trans HKZ.out.1
  have nBC : DC ≠ DB := by omega
  have nAC : DC ≠ DA := by omega
  have nAB : DB ≠ DA := by omega
  have kB1 : (w6.putObj DC (.deferred none)).heap[DB]? = some (.deferred (some [])) := (World.putObj_heap_other nBC.symm).trans kB0
  have kA2 : ((w6.putObj DC (.deferred none)).putObj DB (.deferred none)).heap[DA]? = some (.deferred (some [])) := (World.putObj_heap_other nAB.symm).trans ((World.putObj_heap_other nAC.symm).trans kA0)
  have hDg : w.heap.size ≤ DA ∧ w.heap.size ≤ DB ∧ w.heap.size ≤ DC := ⟨by omega, by omega, by omega⟩
  have HF3 := Lib.hid (show Below w.heap.size w (((w6.putObj DC (.deferred none)).putObj DB (.deferred none)).putObj DA (.deferred none)) from
    ((HB6.out.trans (belowK_b (w := w) (Nat.le_refl _) _ DC _ _ hDg.2.2 kC rfl rfl)).trans (belowK_b (w := w) (Nat.le_refl _) _ DB _ _ hDg.2.1 kB1 rfl rfl)).trans (belowK_b (w := w) (Nat.le_refl _) _ DA _ _ hDg.1 kA2 rfl rfl))
  have HO3 := Lib.hid (ownsRow_putObj (ownsRow_putObj (ownsRow_putObj HO6.out (.deferred none) kC rfl) (.deferred none) kB1 rfl) (.deferred none) kA2 rfl)
  have HKC := Lib.hid (And.intro kC (And.intro kB1 kA2))
  clear kC kB0 kA0 kB1 kA2 hb6 ho6
  by_cases h8 : 8 < (redP xs x y n).length
  · have h8' : (8 : Int) < ((redP xs x y n).length : Int) := by omega
    have HF := Lib.hid (show reduceB xs x y n = false from by rw [HQ.out, okP_no (xs := redP xs x y n) (fun h => by have := HOKR.out.1 h; omega)]; simp)
    go_wp2
    refine ⟨by simp, .inl ⟨_, _, rfl, run_takeDeferred HKC.out.1, ?_⟩⟩
    refine ⟨by simp, .inl ⟨_, _, rfl, run_takeDeferred HKC.out.2.1, ?_⟩⟩
    refine ⟨by simp, .inl ⟨_, _, rfl, run_takeDeferred HKC.out.2.2, ?_⟩⟩
    exact ⟨_, results_tmp2 rfl _ _ _, _, by rw [HF.out]; rfl, HNO.out _ HF.out, HF3.out⟩
  · have h8' : ¬ (8 : Int) < ((redP xs x y n).length : Int) := by omega
    have HF := Lib.hid (show reduceB xs x y n = true from by rw [HQ.out, HO.out, HI.out, HI2.out, HYX.out, HNI.out, okP_iff.2 (HOKR.out.2 (by omega))]; rfl)
    go_wp2
    refine ⟨by simp, .inl ⟨_, _, rfl, run_takeDeferred HKC.out.1, ?_⟩⟩
    refine ⟨by simp, .inl ⟨_, _, rfl, run_takeDeferred HKC.out.2.1, ?_⟩⟩
    refine ⟨by simp, .inl ⟨_, _, rfl, run_takeDeferred HKC.out.2.2, ?_⟩⟩
    exact ⟨_, results_tmp2 rfl _ _ _, _, by rw [HF.out]; rfl, by rw [HQ2.out, HF.out]; exact HO3.out, HF3.out⟩
end Go.Proofs.YthcbndbfgpeokaaDoor
