/- DERIVED. CONTRACTS: impl.MinCapacity, impl.TotalCapacity: loops over the iterator. Written by tools/gen_loopf.py. -/
import Derived.Test.YtaglfdkeomjpdabStpX
namespace Go.Proofs.Ytaglfdkeomjpdab
open Go.RowKit Go.Shelf
attribute [local go_sem] Oper.semAt_some

/-- The least capacity, in the walk's spelling. -/
def leastW (l : List (Pr × Int)) : Int := l.foldl (fun n q => if q.1.2 < n then q.1.2 else n) 20
theorem leastW_snoc (l : List (Pr × Int)) (q : Pr × Int) : leastW (l ++ [q]) = if q.1.2 < leastW l then q.1.2 else leastW l := by unfold leastW; rw [List.foldl_append]; rfl
theorem leastW_eq (l : List (Pr × Int)) : leastW l = leastP l := by
  unfold leastW leastP
  congr 1
  funext n q
  split <;> omega
/-- The sum, in the walk's spelling. -/
def sumW (l : List (Pr × Int)) : Int := l.foldl (fun n q => wrap64 (n + wrap64 (wrap64 (q.2 - q.1.1) * q.1.2))) 0
theorem sumW_snoc (l : List (Pr × Int)) (q : Pr × Int) : sumW (l ++ [q]) = wrap64 (sumW l + wrap64 (wrap64 (q.2 - q.1.1) * q.1.2)) := by unfold sumW; rw [List.foldl_append]; rfl

theorem partsP_in {xs : List Pr} {x y : Int} (h : okS xs) : ∀ q ∈ partsP xs x y, x ≤ q.1.1 ∧ q.1.1 < q.2 ∧ q.2 ≤ y ∧ 0 ≤ q.1.2 ∧ q.1.2 ≤ 20 := by
  intro q hq
  have hlt := partsP_lt q hq
  rw [partsP_eq, List.mem_flatMap] at hq
  obtain ⟨i, hi, hq⟩ := hq
  have hi' : i < xs.length := by simpa using hi
  have hg := h.2.2.2 i hi'
  unfold goodP at hg
  unfold partP at hq
  split at hq
  · simp at hq
    subst hq
    refine ⟨by show x ≤ max _ x; omega, hlt, ?_, hg.2.2.1, hg.2.2.2.1⟩
    show endP xs y i ≤ y
    unfold endP
    split <;> omega
  · simp at hq
theorem partsP_len (xs : List Pr) (x y : Int) : (partsP xs x y).length ≤ xs.length := by rw [← uptoP_full]; exact uptoP_len xs x y _
theorem mul_range {a c : Int} (h1 : 0 ≤ a) (h2 : a ≤ 61) (h3 : 0 ≤ c) (h4 : c ≤ 20) : 0 ≤ a * c ∧ a * c ≤ 1220 := by
  refine ⟨Int.mul_nonneg h1 h3, ?_⟩
  have := Int.mul_le_mul h2 h4 h3 (by omega : (0 : Int) ≤ 61)
  omega
theorem sumW_gen : ∀ (l : List (Pr × Int)) (n : Int), (∀ q ∈ l, 0 ≤ q.2 - q.1.1 ∧ q.2 - q.1.1 ≤ 61 ∧ 0 ≤ q.1.2 ∧ q.1.2 ≤ 20) → 0 ≤ n → n + 1220 * (l.length : Int) ≤ 1000000 →
    l.foldl (fun n q => wrap64 (n + wrap64 (wrap64 (q.2 - q.1.1) * q.1.2))) n = l.foldl (fun n q => n + (q.2 - q.1.1) * q.1.2) n
  | [], _, _, _, _ => rfl
  | q :: l, n, h, h0, hn => by
    obtain ⟨h1, h2, h3, h4⟩ := h q (by simp)
    obtain ⟨m1, m2⟩ := mul_range h1 h2 h3 h4
    simp only [List.length_cons] at hn
    rw [List.foldl_cons, List.foldl_cons]
    have e1 : wrap64 (q.2 - q.1.1) = q.2 - q.1.1 := by unfold wrap64; omega
    rw [e1]
    generalize (q.2 - q.1.1) * q.1.2 = m at *
    have e2 : wrap64 m = m := by unfold wrap64; omega
    have e3 : wrap64 (n + m) = n + m := by unfold wrap64; omega
    rw [e2, e3]
    exact sumW_gen l (n + m) (fun r hr => h r (by simp [hr])) (by omega) (by omega)
theorem sumW_eq {xs : List Pr} {x y : Int} (h : okS xs) (hx : 0 ≤ x) (hy : y ≤ 61) : sumW (partsP xs x y) = sumP (partsP xs x y) := by
  refine sumW_gen _ 0 (fun q hq => ?_) (by omega) ?_
  · have := partsP_in h q hq; omega
  · have := partsP_len xs x y; have := h.2.1; omega

set_option maxRecDepth 100000 in
set_option maxHeartbeats 2000000 in
theorem implTotal_any (xs : List Pr) (x y : Int) (v : Value) (w : World) (hr : RdP w v xs) :
    Calls Try.prog 158 #[v, .int .i64 x, .int .i64 y] w fun e w' => e = .returned (.int .i64 (totalB xs x y)) ∧ Below w.heap.size w w' := by
  obtain ⟨A, c, rfl, HR0⟩ := rdPk hr
  have HR := Lib.hid hr
  have HA := Lib.hid HR0
  have HQ := Lib.hid (show totalB xs x y = if okP xs && inB x 0 60 && inB y 0 60 then sumT xs x y else 0 from rfl)
  clear hr HR0
  refine (callsIn_wide (n := 6)).1 ?_
  refine callsIn_of_wp_marks Try.func158 rfl trivial ?_ rfl
  simp only [Try.ntmps158, List.size_toArray, List.length_cons, List.length_nil, Nat.reduceAdd, Nat.reduceSub, Array.replicate_succ, Array.replicate_zero, List.push_toArray, List.append_toArray, List.nil_append, List.cons_append]
  gi_wp2_with fail
  refine ⟨trivial, (callsIn_wide.2 (implStepsOk_any xs _ _ HR.out)).mono ?_⟩
  rintro e w1 ⟨rfl, hb1⟩
  have HB := Lib.hid hb1
  clear hb1
  rcases hok : okP xs with _ | _
  · have HO := Lib.hid hok
    clear hok
    gi_wp2
    refine ⟨trivial, ?_⟩
    gi_wp2
    refine ⟨trivial, ?_⟩
    gi_wp2
    exact ⟨_, results_tmp rfl _ _ _, by rw [HQ.out, HO.out]; rfl, HB.out⟩
  have HO := Lib.hid hok
  clear hok
  gi_wp2_with fail
  refine ⟨trivial, (callsIn_wide.2 (isTime_any _ _)).mono ?_⟩
  rintro e w2 ⟨rfl, rfl⟩
  rcases hin : inB x 0 60 with _ | _
  · have HI := Lib.hid hin
    clear hin
    gi_wp2
    refine ⟨trivial, ?_⟩
    gi_wp2
    exact ⟨_, results_tmp rfl _ _ _, by rw [HQ.out, HO.out, HI.out]; rfl, HB.out⟩
  have HI := Lib.hid hin
  obtain ⟨hx0, hx1⟩ := inB_iff.1 hin
  clear hin
  gi_wp2_with fail
  refine ⟨trivial, (callsIn_wide.2 (isTime_any _ _)).mono ?_⟩
  rintro e w2 ⟨rfl, rfl⟩
  rcases hin : inB y 0 60 with _ | _
  · have HI2 := Lib.hid hin
    clear hin
    gi_wp2
    exact ⟨_, results_tmp rfl _ _ _, by rw [HQ.out, HO.out, HI.out, HI2.out]; rfl, HB.out⟩
  have HI2 := Lib.hid hin
  obtain ⟨hy0, hy1⟩ := inB_iff.1 hin
  clear hin
  gi_wp2_with fail
  refine ⟨trivial, (stepsWithin_any _ _ _ _ _ _ _).mono ?_⟩
  rintro e w2 ⟨rfl, rfl⟩
  gi_wp2
  have hok := okP_iff.1 HO.out
  have hl1 := hok.1
  have hl8 := hok.2.1
  have HOK := Lib.hid hok
  clear hok
  obtain ⟨b, o, rfl, hb, hc⟩ := HA.out 0 (by omega)
  have hcw := fun j hj => (show w1.cell? ⟨b, o + j * 2, none⟩ = some (.int .i64 (xs[j]'hj).1) ∧ w1.cell? ⟨b, o + j * 2 + 1, none⟩ = some (.int .i64 (xs[j]'hj).2) from
    ⟨(HB.out.cell (p := ⟨b, o + j * 2, none⟩) hb).trans (hc j hj).1, (HB.out.cell (p := ⟨b, o + j * 2 + 1, none⟩) hb).trans (hc j hj).2⟩)
  have hs1 := HB.out.size
  have bC := (((Boxed.new w1 3 (.int .i64 0)).alloc (.cells #[.slice (some ⟨b, o, none⟩) xs.length c] 54)).alloc (.cells #[.int .i64 x] 3)).alloc (.cells #[.int .i64 y] 3)
  have bL := ((Boxed.new (w1.alloc (.cells #[.int .i64 0] 3)) 54 (.slice (some ⟨b, o, none⟩) xs.length c)).alloc (.cells #[.int .i64 x] 3)).alloc (.cells #[.int .i64 y] 3)
  have bX := (Boxed.new ((w1.alloc (.cells #[.int .i64 0] 3)).alloc (.cells #[.slice (some ⟨b, o, none⟩) xs.length c] 54)) 3 (.int .i64 x)).alloc (.cells #[.int .i64 y] 3)
  have bY := Boxed.new (((w1.alloc (.cells #[.int .i64 0] 3)).alloc (.cells #[.slice (some ⟨b, o, none⟩) xs.length c] 54)).alloc (.cells #[.int .i64 x] 3)) 3 (.int .i64 y)
  simp only [World.size_alloc] at bL bX bY
  have hW0 : Below w1.heap.size w1 ((((w1.alloc (.cells #[.int .i64 0] 3)).alloc (.cells #[.slice (some ⟨b, o, none⟩) xs.length c] 54)).alloc (.cells #[.int .i64 x] 3)).alloc (.cells #[.int .i64 y] 3)) :=
    ((((Below.refl _ _).alloc (Nat.le_refl _) _).alloc (by simp) _).alloc (by simp; omega) _).alloc (by simp; omega) _
  have hsz : ((((w1.alloc (.cells #[.int .i64 0] 3)).alloc (.cells #[.slice (some ⟨b, o, none⟩) xs.length c] 54)).alloc (.cells #[.int .i64 x] 3)).alloc (.cells #[.int .i64 y] 3)).heap.size = w1.heap.size + 4 := by simp
  generalize ((((w1.alloc (.cells #[.int .i64 0] 3)).alloc (.cells #[.slice (some ⟨b, o, none⟩) xs.length c] 54)).alloc (.cells #[.int .i64 x] 3)).alloc (.cells #[.int .i64 y] 3)) = W0 at bC bL bX bY hW0 hsz ⊢
  have hwW : Below w.heap.size w W0 := HB.out.trans (hW0.mono hs1)
  refine wpIn_rangeFunc_ownH rfl (by omega) (gf := 88) (lb := #[.pointer (some ⟨w1.heap.size + 1, 0, none⟩), .pointer (some ⟨w1.heap.size + 1 + 1, 0, none⟩), .pointer (some ⟨w1.heap.size + 1 + 1 + 1, 0, none⟩)]) rfl trivial (enters_of Try.func88 (by kernel_rfl) rfl)
    (parts_stops _ (by omega) (w1.heap.size + 1) w.heap.size b o c xs x y (by omega) hb W0 (by omega) (by omega) bL.cell bX.cell bY.cell
      (fun j hj => ⟨(hW0.cell (p := ⟨b, o + j * 2, none⟩) (by show b < _; omega)).trans (hcw j hj).1, (hW0.cell (p := ⟨b, o + j * 2 + 1, none⟩) (by show b < _; omega)).trans (hcw j hj).2⟩))
    (fun h k => h.trans k) (kpS_b (by omega) (by omega)) (Below.refl _ _) (fun _ => rfl)
    (fun pre W => Boxed W w1.heap.size 3 (.int .i64 (sumW pre)) ∧ Below w.heap.size w W ∧ w1.heap.size + 4 ≤ W.heap.size)
    (fun _ _ _ => False)
    (OwnFrom.and (Own.from (boxed_own _ _ _) _) (OwnFrom.and (ownFrom_below (Nat.le_refl _) (by omega)) (fun _ _ _ _ hs hg _ => Nat.le_trans hs hg.size)))
    (fun _ _ _ _ _ hs _ _ => hs)
    ⟨bC, hwW, by omega⟩
    (fun q a' W => ∃ Bx, w1.heap.size + 4 ≤ Bx ∧ Boxed2 W Bx 110 (.int .i64 q.1.1) (.int .i64 q.1.2) ∧ a' =
    { tmps :=
        #[Value.slice (some ⟨b, o, none⟩) xs.length c, Value.int IntKind.i64 x, Value.int IntKind.i64 y, undef, undef, undef,
          Value.int IntKind.i64 0, Value.pointer (some { block := w1.heap.size, off := 0 }), Value.pointer (some { block := Bx, off := 0 }), Value.int IntKind.i64 q.2, 
          Value.slice (some ⟨b, o, none⟩) xs.length c, Value.bool true, Value.bool false, Value.bool false, Value.int IntKind.i64 x,
          Value.bool true, Value.bool false, Value.bool false, Value.bool false, Value.int IntKind.i64 y,
          Value.bool true, Value.bool false, Value.bool false, Value.slice (some ⟨b, o, none⟩) xs.length c, Value.int IntKind.i64 x,
          Value.int IntKind.i64 y,
          Value.func (Fn.func 88) #[]
            #[Value.pointer (some { block := w1.heap.size + 1, off := 0 }),
              Value.pointer (some { block := w1.heap.size + 1 + 1, off := 0 }),
              Value.pointer (some { block := w1.heap.size + 1 + 1 + 1, off := 0 })],
          .agg #[.int .i64 q.1.1, .int .i64 q.1.2], .int .i64 q.2, undef, undef, undef, undef, undef, undef, undef, undef, undef, undef],
      defers := [] })
    (fun q a' _ X Y row hs hg hr => by obtain ⟨Bx, h1, h2, h3⟩ := hs; exact ⟨Bx, h1, h2.kept hg (fun r e => (hr r e).2), h3⟩)
    ?assign ?body ?done ?stop
  case assign =>
    rintro l pre q W K ⟨bC1, hB1, hS1⟩ hK
    have hgt := bC1.lt
    gi_wp2
    exact hK _ _ ((KeepsOthers.alloc _ _).from _) ((KpS.refl _ _ W).alloc hB1.size hS1 _) ⟨bC1.alloc _, hB1.alloc hB1.size _, by simp; omega⟩ ⟨W.heap.size, hS1, Boxed2.new W _ _ _, rfl⟩
  case body =>
    rintro l pre q a' W hl hrec ⟨bC1, hB1, hS1⟩ ⟨Bx, hBx, b2, rfl⟩ hlt
    have c0 := b2.cell0
    have c1 := b2.cell1
    have cC := bC1.cell
    have fC := bC1.frozen
    have hltC := bC1.lt
    have hlt2 := b2.lt
    gi_wp2
    exact ⟨(KeepsOthers.setCell _ _ _).from _, (KpS.refl _ _ W).setCell (p := ⟨w1.heap.size, 0, none⟩) hs1 (.inl (by simp)) _, by rw [sumW_snoc]; exact bC1.set _, hB1.setCell (p := ⟨w1.heap.size, 0, none⟩) hs1 _, by simpa [World.setCell] using hS1⟩
  case done =>
    rintro D ys W hD rfl ⟨bC1, hB1, hS1⟩ hK
    have cC := bC1.cell
    have hq : sumW (partsP xs x y) = totalB xs x y := by rw [HQ.out, HO.out, HI.out, HI2.out]; exact (sumW_eq HOK.out hx0 (by omega)).trans (sum_ok HOK.out x y hx0)
    rw [hq] at cC
    gi_wp2
    refine ⟨by simp, .inl ⟨_, _, rfl, run_takeDeferred hK, ?_⟩⟩
    exact ⟨_, results_tmp rfl _ _ _, rfl, hB1.trans (belowK_b (w := W0) (by omega) W D _ _ hD hK rfl rfl)⟩
  case stop =>
    rintro D c pre W _ _ h _
    exact h.elim

end Go.Proofs.Ytaglfdkeomjpdab
