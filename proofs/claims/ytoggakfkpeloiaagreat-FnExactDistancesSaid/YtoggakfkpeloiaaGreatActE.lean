/- DERIVED. CONTRACTS: the program's MinDuration, MaxDuration, MinUsage, MinConsumption, MinWork. -/
import Derived.Test.YtoggakfkpeloiaaGreatActD
import Derived.Shelf.Abstract
namespace Go.Proofs.YtoggakfkpeloiaaGreat
open Go.RowKit Go.Shelf

theorem field_task (x y z : Value) (w : World) : (Instr.field 129 (.agg #[x, y, z]) 2).run Tryz.prog w = .ok z w := by
  kernel_rfl

theorem enters_less : ∀ args w, (callFunc 133 args).run Tryz.prog w = .ok (.enter 133 args) w := enters_of Tryz.func133 (by kernel_rfl) rfl
theorem enters_dur : ∀ args w, (callFunc 114 args).run Tryz.prog w = .ok (.enter 114 args) w := enters_of Tryz.func114 (by kernel_rfl) rfl

set_option maxRecDepth 100000 in
theorem smallest_any (fv : FuncId) (bd : Array Value) (val : Md → Option Int) (ms : List Md) (S : List Int) (v u : Value) (w : World) (hv : (trMs ms).rd w v) (hu : Rd w u (S.map (.int .i64)))
    (ev : ∀ args w, (callFunc fv args).run Tryz.prog w = .ok (.enter fv args) w) (hg : Gives fv bd w.heap.size w val) :
    Calls Tryz.prog 113 #[v, u, .func (.func fv) #[] bd] w fun e w' => e = .returned (.int .i64 (selB ltB val ms S)) ∧ Below w.heap.size w w' := by
  have HV := Lib.hid hv
  have HU := Lib.hid hu
  have HG := Lib.hid hg
  have EV := Lib.hid ev
  clear hv hu hg ev
  generalize hres : selB ltB val ms S = res
  have RES := Lib.hid hres
  clear hres
  go_enter Tryz.func113, Tryz.ntmps113
  go_wp2_with fail
  refine (best_any fv 133 bd val ltB ms S _ _ _ HV.out HU.out EV.out enters_less HG.out less_any prefers_lt).mono ?_
  rintro e w1 ⟨rfl, hb⟩
  rw [RES.out]
  have HB := Lib.hid hb
  clear hb
  go_wp2
  go_ret
  exact ⟨rfl, HB.out⟩

theorem durOf_any (m : Md) (v : Value) (w : World) (hv : (trM m).rd w v) :
    Calls Tryz.prog 114 #[v] w fun e w' => e = .returned (optI (durV m)) ∧ Below w.heap.size w w' := by
  obtain ⟨U, cu, C, cc, rfl, _, _⟩ := rdM hv
  clear hv
  go_enter Tryz.func114, Tryz.ntmps114
  go_wp2
  go_ret2
  exact ⟨rfl, (Below.refl _ _).alloc (Nat.le_refl _) _⟩
theorem gives_dur (B : Nat) (W : World) : Gives 114 #[] B W durV := fun m v w _ hm => durOf_any m v w hm

theorem least_us (t : Int) (m : Md) : leastV t false false m = amtB m.us t := by
  unfold leastV
  simp
theorem least_co (t : Int) (m : Md) : leastV t true false m = amtB m.co t := by
  unfold leastV
  simp
theorem least_wk (t : Int) (m : Md) : leastV t false true m = (amtB m.us t).map fun x => wrap64 (x * m.du) := by
  unfold leastV
  simp

set_option maxRecDepth 100000 in
set_option maxHeartbeats 1000000 in
theorem implMinDuration_any (a : Ac) (S : List Int) (v u : Value) (w : World) (hv : (trA a).rd w v) (hu : Rd w u (S.map (.int .i64))) :
    Calls Tryz.prog 77 #[v, u] w fun e w' => e = .returned (.int .i64 (selB ltB durV a.ms S)) ∧ Below w.heap.size w w' := by
  have HV := Lib.hid hv
  obtain ⟨A, c, rfl, hms⟩ := rdA hv
  have HMS := Lib.hid hms
  have HU := Lib.hid hu
  clear hms hv hu
  generalize hres : selB ltB durV a.ms S = res
  have RES := Lib.hid hres
  clear hres
  have S0 := Lib.hid ((Sn.start w).box 84 [.string a.nm, .int .i64 a.fa, .slice A a.ms.length c])
  have FT := field_task
  go_enter Tryz.func77, Tryz.ntmps77
  go_wp2_with fail
  refine (taskOf_any a _ _ (by exact S0.out.old HV.out)).mono ?_
  rintro e w1 ⟨rfl, b⟩
  have S1 := Lib.hid (S0.out.go b)
  clear S0 b
  go_wp2_with fail
  refine (smallest_any 114 #[] durV a.ms S _ _ _ (by exact S1.out.old HMS.out) (by exact HU.out.below S1.out.1 (Nat.le_refl _)) enters_dur (gives_dur _ _)).mono ?_
  rintro e w2 ⟨rfl, b⟩
  rw [RES.out]
  have S2 := Lib.hid (S1.out.go b)
  clear S1 b
  go_wp2
  go_ret
  exact ⟨rfl, S2.out.1⟩

end Go.Proofs.YtoggakfkpeloiaaGreat
