/- DERIVED. CONTRACTS: impl.CapacityAt, MinCapacity, TotalCapacity: loops over the iterator. -/
import Derived.Test.YtaglfdkeomjpdabStpW
import Derived.Test.YtaglfdkeomjpdabStpA
namespace Go.Proofs.Ytaglfdkeomjpdab
open Go.RowKit Go.Shelf
attribute [local go_sem] Oper.semAt_some

theorem ret_num0 {a b : Int} (h : a = b) : Ending.returned (.int .i64 a) = .returned (.int .i64 b) := by rw [h]

/-- A box of two cells: a step's. -/
def Boxed2 (W : World) (B : Nat) (t : TypeId) (x y : Value) : Prop := W.heap[B]? = some (.cells #[x, y] t (0, 0))
theorem Boxed2.new (W : World) (t : TypeId) (x y : Value) : Boxed2 (W.alloc (.cells #[x, y] t)) W.heap.size t x y := World.alloc_heap_new W _
theorem Boxed2.lt {W : World} {B : Nat} {t : TypeId} {x y : Value} (h : Boxed2 W B t x y) : B < W.heap.size := (Array.getElem?_eq_some_iff.1 h).1
theorem Boxed2.cell0 {W : World} {B : Nat} {t : TypeId} {x y : Value} (h : Boxed2 W B t x y) : W.cell? ⟨B, 0, none⟩ = some x := by simp [World.cell?, show W.heap[B]? = _ from h]
theorem Boxed2.cell1 {W : World} {B : Nat} {t : TypeId} {x y : Value} (h : Boxed2 W B t x y) : W.cell? ⟨B, 1, none⟩ = some y := by simp [World.cell?, show W.heap[B]? = _ from h]
theorem Boxed2.kept {W W' : World} {row : Option Nat} {B : Nat} {t : TypeId} {x y : Value} (h : Boxed2 W B t x y) (hg : W.grownBy W' row) (hr : ∀ r, row = some r → ∃ o : Obj, W.heap[r]? = some o ∧ o.isCells = false) : Boxed2 W' B t x y :=
  (hg.block B h.lt (fun e => by obtain ⟨o, ho, hc⟩ := hr B e.symm; rw [show W.heap[B]? = _ from h] at ho; cases ho; cases hc)).trans h

set_option maxRecDepth 100000 in
set_option maxHeartbeats 2000000 in
theorem implCap_any (xs : List Pr) (t : Int) (v : Value) (w : World) (hr : RdP w v xs) :
    Calls Try.prog 20 #[v, .int .i64 t] w fun e w' => e = .returned (.int .i64 (capB xs t)) ∧ Below w.heap.size w w' := by
  obtain ⟨A, c, rfl, HR0⟩ := rdPk hr
  have HR := Lib.hid hr
  have HA := Lib.hid HR0
  have HQ := Lib.hid (show capB xs t = if okP xs && inB t 0 60 then atP xs t else 0 from rfl)
  clear hr HR0
  refine (callsIn_wide (n := 6)).1 ?_
  refine callsIn_of_wp_marks Try.func20 rfl trivial ?_ rfl
  simp only [Try.ntmps20, List.size_toArray, List.length_cons, List.length_nil, Nat.reduceAdd, Nat.reduceSub, Array.replicate_succ, Array.replicate_zero, List.push_toArray, List.append_toArray, List.nil_append, List.cons_append]
  gi_wp2_with fail
  refine ⟨trivial, (callsIn_wide.2 (implStepsOk_any xs _ _ HR.out)).mono ?_⟩
  rintro e w1 ⟨rfl, hb1⟩
  have HB := Lib.hid hb1
  clear hb1
  rcases hok : okP xs with _ | _
  · have HO := Lib.hid hok
    clear hok
    gi_wp2
    refine ⟨trivial, ?_⟩
    gi_wp2
    exact ⟨_, results_tmp rfl _ _ _, by rw [HQ.out, HO.out]; rfl, HB.out⟩
  have HO := Lib.hid hok
  clear hok
  gi_wp2_with fail
  refine ⟨trivial, (callsIn_wide.2 (isTime_any _ _)).mono ?_⟩
  rintro e w2 ⟨rfl, rfl⟩
  rcases hin : inB t 0 60 with _ | _
  · have HI := Lib.hid hin
    clear hin
    gi_wp2
    exact ⟨_, results_tmp rfl _ _ _, by rw [HQ.out, HO.out, HI.out]; rfl, HB.out⟩
  have HI := Lib.hid hin
  obtain ⟨ht0, ht1⟩ := inB_iff.1 hin
  clear hin
  gi_wp2_with fail
  refine ⟨trivial, (stepsWithin_any _ _ _ _ _ _ _).mono ?_⟩
  rintro e w2 ⟨rfl, rfl⟩
  gi_wp2
  have hok := okP_iff.1 HO.out
  have hl1 := hok.1
  have hl8 := hok.2.1
  have HOK := Lib.hid hok
  clear hok
  obtain ⟨b, o, rfl, hb, hc⟩ := HA.out 0 (by omega)
  have hcw := fun j hj => (show w1.cell? ⟨b, o + j * 2, none⟩ = some (.int .i64 (xs[j]'hj).1) ∧ w1.cell? ⟨b, o + j * 2 + 1, none⟩ = some (.int .i64 (xs[j]'hj).2) from
    ⟨(HB.out.cell (p := ⟨b, o + j * 2, none⟩) hb).trans (hc j hj).1, (HB.out.cell (p := ⟨b, o + j * 2 + 1, none⟩) hb).trans (hc j hj).2⟩)
  have hs1 := HB.out.size
  have bC := (((Boxed.new w1 3 (.int .i64 0)).alloc (.cells #[.slice (some ⟨b, o, none⟩) xs.length c] 54)).alloc (.cells #[.int .i64 t] 3)).alloc (.cells #[.int .i64 (t + 1)] 3)
  have bL := ((Boxed.new (w1.alloc (.cells #[.int .i64 0] 3)) 54 (.slice (some ⟨b, o, none⟩) xs.length c)).alloc (.cells #[.int .i64 t] 3)).alloc (.cells #[.int .i64 (t + 1)] 3)
  have bX := (Boxed.new ((w1.alloc (.cells #[.int .i64 0] 3)).alloc (.cells #[.slice (some ⟨b, o, none⟩) xs.length c] 54)) 3 (.int .i64 t)).alloc (.cells #[.int .i64 (t + 1)] 3)
  have bY := Boxed.new (((w1.alloc (.cells #[.int .i64 0] 3)).alloc (.cells #[.slice (some ⟨b, o, none⟩) xs.length c] 54)).alloc (.cells #[.int .i64 t] 3)) 3 (.int .i64 (t + 1))
  simp only [World.size_alloc] at bL bX bY
  have hW0 : Below w1.heap.size w1 ((((w1.alloc (.cells #[.int .i64 0] 3)).alloc (.cells #[.slice (some ⟨b, o, none⟩) xs.length c] 54)).alloc (.cells #[.int .i64 t] 3)).alloc (.cells #[.int .i64 (t + 1)] 3)) :=
    ((((Below.refl _ _).alloc (Nat.le_refl _) _).alloc (by simp) _).alloc (by simp; omega) _).alloc (by simp; omega) _
  have hsz : ((((w1.alloc (.cells #[.int .i64 0] 3)).alloc (.cells #[.slice (some ⟨b, o, none⟩) xs.length c] 54)).alloc (.cells #[.int .i64 t] 3)).alloc (.cells #[.int .i64 (t + 1)] 3)).heap.size = w1.heap.size + 4 := by simp
  generalize ((((w1.alloc (.cells #[.int .i64 0] 3)).alloc (.cells #[.slice (some ⟨b, o, none⟩) xs.length c] 54)).alloc (.cells #[.int .i64 t] 3)).alloc (.cells #[.int .i64 (t + 1)] 3)) = W0 at bC bL bX bY hW0 hsz ⊢
  have hwW : Below w.heap.size w W0 := HB.out.trans (hW0.mono hs1)
  refine wpIn_rangeFunc_ownH rfl (by omega) (gf := 88) (lb := #[.pointer (some ⟨w1.heap.size + 1, 0, none⟩), .pointer (some ⟨w1.heap.size + 1 + 1, 0, none⟩), .pointer (some ⟨w1.heap.size + 1 + 1 + 1, 0, none⟩)]) rfl trivial (enters_of Try.func88 (by kernel_rfl) rfl)
    (parts_stops _ (by omega) (w1.heap.size + 1) w.heap.size b o c xs t (t + 1) (by omega) hb W0 (by omega) (by omega) bL.cell bX.cell bY.cell
      (fun j hj => ⟨(hW0.cell (p := ⟨b, o + j * 2, none⟩) (by show b < _; omega)).trans (hcw j hj).1, (hW0.cell (p := ⟨b, o + j * 2 + 1, none⟩) (by show b < _; omega)).trans (hcw j hj).2⟩))
    (fun h k => h.trans k) (kpS_b (by omega) (by omega)) (Below.refl _ _) (fun _ => rfl)
    (fun pre W => Boxed W w1.heap.size 3 (.int .i64 (lastP pre)) ∧ Below w.heap.size w W ∧ w1.heap.size + 4 ≤ W.heap.size)
    (fun _ _ _ => False)
    (OwnFrom.and (Own.from (boxed_own _ _ _) _) (OwnFrom.and (ownFrom_below (Nat.le_refl _) (by omega)) (fun _ _ _ _ hs hg _ => Nat.le_trans hs hg.size)))
    (fun _ _ _ _ _ hs _ _ => hs)
    ⟨bC, hwW, by omega⟩
    (fun q a' W => ∃ Bx, w1.heap.size + 4 ≤ Bx ∧ Boxed2 W Bx 110 (.int .i64 q.1.1) (.int .i64 q.1.2) ∧ a' =
    { tmps :=
        #[Value.slice (some ⟨b, o, none⟩) xs.length c, Value.int IntKind.i64 t, undef, undef, Value.int IntKind.i64 0,
          Value.pointer (some { block := w1.heap.size, off := 0 }), Value.pointer (some { block := Bx, off := 0 }), Value.slice (some ⟨b, o, none⟩) xs.length c, Value.bool true,
          Value.bool false, Value.bool false, Value.int IntKind.i64 t, Value.bool true, Value.bool false,
          Value.bool false, Value.slice (some ⟨b, o, none⟩) xs.length c, Value.int IntKind.i64 t, Value.int IntKind.i64 t,
          Value.int IntKind.i64 (t + 1),
          Value.func (Fn.func 88) #[]
            #[Value.pointer (some { block := w1.heap.size + 1, off := 0 }),
              Value.pointer (some { block := w1.heap.size + 1 + 1, off := 0 }),
              Value.pointer (some { block := w1.heap.size + 1 + 1 + 1, off := 0 })],
          .agg #[.int .i64 q.1.1, .int .i64 q.1.2], .int .i64 q.2, undef, undef, undef],
      defers := [] })
    (fun q a' _ X Y row hs hg hr => by obtain ⟨Bx, h1, h2, h3⟩ := hs; exact ⟨Bx, h1, h2.kept hg (fun r e => (hr r e).2), h3⟩)
    ?assign ?body ?done ?stop
  case assign =>
    rintro l pre q W K ⟨bC1, hB1, hS1⟩ hK
    have hgt := bC1.lt
    gi_wp2
    exact hK _ _ ((KeepsOthers.alloc _ _).from _) ((KpS.refl _ _ W).alloc hB1.size hS1 _) ⟨bC1.alloc _, hB1.alloc hB1.size _, by simp; omega⟩ ⟨W.heap.size, hS1, Boxed2.new W _ _ _, rfl⟩
  case body =>
    rintro l pre q a' W hl hrec ⟨bC1, hB1, hS1⟩ ⟨Bx, hBx, b2, rfl⟩ hlt
    have c1 := b2.cell1
    have cC := bC1.cell
    have fC := bC1.frozen
    have hltC := bC1.lt
    have hlt2 := b2.lt
    gi_wp2
    exact ⟨(KeepsOthers.setCell _ _ _).from _, (KpS.refl _ _ W).setCell (p := ⟨w1.heap.size, 0, none⟩) hs1 (.inl (by simp)) _, by rw [lastP_snoc]; exact bC1.set _, hB1.setCell (p := ⟨w1.heap.size, 0, none⟩) hs1 _, by simpa [World.setCell] using hS1⟩
  case done =>
    rintro D ys W hD rfl ⟨bC1, hB1, hS1⟩ hK
    have cC := bC1.cell
    have hq : lastP (partsP xs t (t + 1)) = capB xs t := by rw [HQ.out, HO.out, HI.out, last_ok HOK.out t ht0]; rfl
    rw [hq] at cC
    gi_wp2
    refine ⟨by simp, .inl ⟨_, _, rfl, run_takeDeferred hK, ?_⟩⟩
    exact ⟨_, results_tmp rfl _ _ _, rfl, hB1.trans (belowK_b (w := W0) (by omega) W D _ _ hD hK rfl rfl)⟩
  case stop =>
    rintro D c pre W _ _ h _
    exact h.elim
end Go.Proofs.Ytaglfdkeomjpdab
