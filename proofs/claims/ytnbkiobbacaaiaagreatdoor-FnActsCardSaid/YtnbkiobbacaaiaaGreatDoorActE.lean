/- DERIVED. CONTRACTS: the program's MinDuration, MaxDuration, MinUsage, MinConsumption, MinWork. -/
import Derived.Test.YtnbkiobbacaaiaaGreatDoorActD
import Derived.Shelf.Abstract
namespace Go.Proofs.YtnbkiobbacaaiaaGreatDoor
open Go.RowKit Go.Shelf

theorem field_task (x y z : Value) (w : World) : (Instr.field 59 (.agg #[x, y, z]) 2).run Tryz.prog w = .ok z w := by
  kernel_rfl

theorem enters_less : ∀ args w, (callFunc 64 args).run Tryz.prog w = .ok (.enter 64 args) w := enters_of Tryz.func64 (by kernel_rfl) rfl
theorem enters_greater : ∀ args w, (callFunc 39 args).run Tryz.prog w = .ok (.enter 39 args) w := enters_of Tryz.func39 (by kernel_rfl) rfl
theorem enters_dur : ∀ args w, (callFunc 37 args).run Tryz.prog w = .ok (.enter 37 args) w := enters_of Tryz.func37 (by kernel_rfl) rfl

set_option maxRecDepth 100000 in
theorem smallest_any (fv : FuncId) (bd : Array Value) (val : Md → Option Int) (ms : List Md) (S : List Int) (v u : Value) (w : World) (hv : (trMs ms).rd w v) (hu : Rd w u (S.map (.int .i64)))
    (ev : ∀ args w, (callFunc fv args).run Tryz.prog w = .ok (.enter fv args) w) (hg : Gives fv bd w.heap.size w val) :
    Calls Tryz.prog 36 #[v, u, .func (.func fv) #[] bd] w fun e w' => e = .returned (.int .i64 (selB ltB val ms S)) ∧ Below w.heap.size w w' := by
  have HV := Lib.hid hv
  have HU := Lib.hid hu
  have HG := Lib.hid hg
  have EV := Lib.hid ev
  clear hv hu hg ev
  generalize hres : selB ltB val ms S = res
  have RES := Lib.hid hres
  clear hres
  go_enter Tryz.func36, Tryz.ntmps36
  go_wp2_with fail
  refine (best_any fv 64 bd val ltB ms S _ _ _ HV.out HU.out EV.out enters_less HG.out less_any prefers_lt).mono ?_
  rintro e w1 ⟨rfl, hb⟩
  rw [RES.out]
  have HB := Lib.hid hb
  clear hb
  go_wp2
  go_ret
  exact ⟨rfl, HB.out⟩

theorem durOf_any (m : Md) (v : Value) (w : World) (hv : (trM m).rd w v) :
    Calls Tryz.prog 37 #[v] w fun e w' => e = .returned (optI (durV m)) ∧ Below w.heap.size w w' := by
  obtain ⟨U, cu, C, cc, rfl, _, _⟩ := rdM hv
  clear hv
  go_enter Tryz.func37, Tryz.ntmps37
  go_wp2
  go_ret2
  exact ⟨rfl, (Below.refl _ _).alloc (Nat.le_refl _) _⟩
theorem gives_dur (B : Nat) (W : World) : Gives 37 #[] B W durV := fun m v w _ hm => durOf_any m v w hm

theorem least_us (t : Int) (m : Md) : leastV t false false m = amtB m.us t := by
  unfold leastV
  simp
theorem least_co (t : Int) (m : Md) : leastV t true false m = amtB m.co t := by
  unfold leastV
  simp
theorem least_wk (t : Int) (m : Md) : leastV t false true m = (amtB m.us t).map fun x => wrap64 (x * m.du) := by
  unfold leastV
  simp

set_option maxRecDepth 100000 in
theorem cloMinUsage_any (m : Md) (t : Int) (g : Nat) (v : Value) (w : World) (hv : (trM m).rd w v) (hg : w.cell? ⟨g, 0, none⟩ = some (.int .i64 t)) (hlt : g < w.heap.size) :
    Calls Tryz.prog 40 #[v, .pointer (some ⟨g, 0, none⟩)] w fun e w' => e = .returned (optI (amtB m.us t)) ∧ Below w.heap.size w w' := by
  obtain ⟨U, cu, C, cc, rfl, r1, r2⟩ := rdM hv
  have R := Lib.hid (r1.below ((Below.refl _ _).alloc (Nat.le_refl _) (.cells #[.int .i64 m.du, .slice U m.us.length cu, .slice C m.co.length cc] 39)) (Nat.le_refl _))
  clear hv r1 r2
  generalize hres : optI (amtB m.us t) = res
  have RES := Lib.hid hres
  clear hres
  go_enter Tryz.func40, Tryz.ntmps40
  go_wp2_with fail
  refine (elemI_any m.us t _ _ R.out).mono ?_
  rintro e w1 ⟨rfl, hw⟩
  subst hw
  rcases ho : amtB m.us t with _ | x
  all_goals
    have HO := Lib.hid ho
    clear ho
    rw [optI]
    go_wp2
    go_ret2
    exact ⟨by rw [← RES.out, HO.out]; rfl, (Below.refl _ _).alloc (Nat.le_refl _) _⟩
theorem enters_MinUsage : ∀ args w, (callFunc 40 args).run Tryz.prog w = .ok (.enter 40 args) w := enters_of Tryz.func40 (by kernel_rfl) rfl
theorem gives_MinUsage (t : Int) (g : Nat) (T : TypeId) (B : Nat) (W : World) (hk : Bk W g T #[.int .i64 t]) (hB : W.heap.size ≤ B) : Gives 40 #[.pointer (some ⟨g, 0, none⟩)] B W (leastV t false false) := fun m v w hb hm => by
  rw [least_us]
  exact cloMinUsage_any m t g v w hm (hk.below hb hB).c1.1 (hk.below hb hB).lt

set_option maxRecDepth 100000 in
theorem cloMinConsumption_any (m : Md) (t : Int) (g : Nat) (v : Value) (w : World) (hv : (trM m).rd w v) (hg : w.cell? ⟨g, 0, none⟩ = some (.int .i64 t)) (hlt : g < w.heap.size) :
    Calls Tryz.prog 43 #[v, .pointer (some ⟨g, 0, none⟩)] w fun e w' => e = .returned (optI (amtB m.co t)) ∧ Below w.heap.size w w' := by
  obtain ⟨U, cu, C, cc, rfl, r1, r2⟩ := rdM hv
  have R := Lib.hid (r2.below ((Below.refl _ _).alloc (Nat.le_refl _) (.cells #[.int .i64 m.du, .slice U m.us.length cu, .slice C m.co.length cc] 39)) (Nat.le_refl _))
  clear hv r1 r2
  generalize hres : optI (amtB m.co t) = res
  have RES := Lib.hid hres
  clear hres
  go_enter Tryz.func43, Tryz.ntmps43
  go_wp2_with fail
  refine (elemI_any m.co t _ _ R.out).mono ?_
  rintro e w1 ⟨rfl, hw⟩
  subst hw
  rcases ho : amtB m.co t with _ | x
  all_goals
    have HO := Lib.hid ho
    clear ho
    rw [optI]
    go_wp2
    go_ret2
    exact ⟨by rw [← RES.out, HO.out]; rfl, (Below.refl _ _).alloc (Nat.le_refl _) _⟩
theorem enters_MinConsumption : ∀ args w, (callFunc 43 args).run Tryz.prog w = .ok (.enter 43 args) w := enters_of Tryz.func43 (by kernel_rfl) rfl
theorem gives_MinConsumption (t : Int) (g : Nat) (T : TypeId) (B : Nat) (W : World) (hk : Bk W g T #[.int .i64 t]) (hB : W.heap.size ≤ B) : Gives 43 #[.pointer (some ⟨g, 0, none⟩)] B W (leastV t true false) := fun m v w hb hm => by
  rw [least_co]
  exact cloMinConsumption_any m t g v w hm (hk.below hb hB).c1.1 (hk.below hb hB).lt

set_option maxRecDepth 100000 in
theorem cloMinWork_any (m : Md) (t : Int) (g : Nat) (v : Value) (w : World) (hv : (trM m).rd w v) (hg : w.cell? ⟨g, 0, none⟩ = some (.int .i64 t)) (hlt : g < w.heap.size) :
    Calls Tryz.prog 42 #[v, .pointer (some ⟨g, 0, none⟩)] w fun e w' => e = .returned (optI ((amtB m.us t).map fun x => wrap64 (x * m.du))) ∧ Below w.heap.size w w' := by
  obtain ⟨U, cu, C, cc, rfl, r1, r2⟩ := rdM hv
  have R := Lib.hid (r1.below ((Below.refl _ _).alloc (Nat.le_refl _) (.cells #[.int .i64 m.du, .slice U m.us.length cu, .slice C m.co.length cc] 39)) (Nat.le_refl _))
  clear hv r1 r2
  generalize hres : optI ((amtB m.us t).map fun x => wrap64 (x * m.du)) = res
  have RES := Lib.hid hres
  clear hres
  go_enter Tryz.func42, Tryz.ntmps42
  go_wp2_with fail
  refine (elemI_any m.us t _ _ R.out).mono ?_
  rintro e w1 ⟨rfl, hw⟩
  subst hw
  rcases ho : amtB m.us t with _ | x
  · have HO := Lib.hid ho
    clear ho
    rw [optI]
    go_wp2
    go_ret2
    exact ⟨by rw [← RES.out, HO.out]; rfl, (Below.refl _ _).alloc (Nat.le_refl _) _⟩
  · have HO := Lib.hid ho
    clear ho
    rw [optI]
    go_wp2
    go_ret2
    exact ⟨by rw [← RES.out, HO.out, Int.mul_comm]; rfl, (Below.refl _ _).alloc (Nat.le_refl _) _⟩
theorem enters_MinWork : ∀ args w, (callFunc 42 args).run Tryz.prog w = .ok (.enter 42 args) w := enters_of Tryz.func42 (by kernel_rfl) rfl
theorem gives_MinWork (t : Int) (g : Nat) (T : TypeId) (B : Nat) (W : World) (hk : Bk W g T #[.int .i64 t]) (hB : W.heap.size ≤ B) : Gives 42 #[.pointer (some ⟨g, 0, none⟩)] B W (leastV t false true) := fun m v w hb hm => by
  rw [least_wk]
  exact cloMinWork_any m t g v w hm (hk.below hb hB).c1.1 (hk.below hb hB).lt

set_option maxRecDepth 100000 in
set_option maxHeartbeats 1000000 in
theorem implMinDuration_any (a : Ac) (S : List Int) (v u : Value) (w : World) (hv : (trA a).rd w v) (hu : Rd w u (S.map (.int .i64))) :
    Calls Tryz.prog 13 #[v, u] w fun e w' => e = .returned (.int .i64 (selB ltB durV a.ms S)) ∧ Below w.heap.size w w' := by
  have HV := Lib.hid hv
  obtain ⟨A, c, rfl, hms⟩ := rdA hv
  have HMS := Lib.hid hms
  have HU := Lib.hid hu
  clear hms hv hu
  generalize hres : selB ltB durV a.ms S = res
  have RES := Lib.hid hres
  clear hres
  have S0 := Lib.hid ((Sn.start w).box 32 [.string a.nm, .int .i64 a.fa, .slice A a.ms.length c])
  have FT := field_task
  go_enter Tryz.func13, Tryz.ntmps13
  go_wp2_with fail
  refine (taskOf_any a _ _ (by exact S0.out.old HV.out)).mono ?_
  rintro e w1 ⟨rfl, b⟩
  have S1 := Lib.hid (S0.out.go b)
  clear S0 b
  go_wp2_with fail
  refine (smallest_any 37 #[] durV a.ms S _ _ _ (by exact S1.out.old HMS.out) (by exact HU.out.below S1.out.1 (Nat.le_refl _)) enters_dur (gives_dur _ _)).mono ?_
  rintro e w2 ⟨rfl, b⟩
  rw [RES.out]
  have S2 := Lib.hid (S1.out.go b)
  clear S1 b
  go_wp2
  go_ret
  exact ⟨rfl, S2.out.1⟩

set_option maxRecDepth 100000 in
set_option maxHeartbeats 1000000 in
theorem implMaxDuration_any (a : Ac) (S : List Int) (v u : Value) (w : World) (hv : (trA a).rd w v) (hu : Rd w u (S.map (.int .i64))) :
    Calls Tryz.prog 14 #[v, u] w fun e w' => e = .returned (.int .i64 (selB gtB durV a.ms S)) ∧ Below w.heap.size w w' := by
  have HV := Lib.hid hv
  obtain ⟨A, c, rfl, hms⟩ := rdA hv
  have HMS := Lib.hid hms
  have HU := Lib.hid hu
  clear hms hv hu
  generalize hres : selB gtB durV a.ms S = res
  have RES := Lib.hid hres
  clear hres
  have S0 := Lib.hid ((Sn.start w).box 32 [.string a.nm, .int .i64 a.fa, .slice A a.ms.length c])
  have FT := field_task
  go_enter Tryz.func14, Tryz.ntmps14
  go_wp2_with fail
  refine (taskOf_any a _ _ (by exact S0.out.old HV.out)).mono ?_
  rintro e w1 ⟨rfl, b⟩
  have S1 := Lib.hid (S0.out.go b)
  clear S0 b
  go_wp2_with fail
  refine (best_any 37 39 #[] durV gtB a.ms S _ _ _ (by exact S1.out.old HMS.out) (by exact HU.out.below S1.out.1 (Nat.le_refl _)) enters_dur enters_greater (gives_dur _ _) greater_any prefers_gt).mono ?_
  rintro e w2 ⟨rfl, b⟩
  rw [RES.out]
  have S2 := Lib.hid (S1.out.go b)
  clear S1 b
  go_wp2
  go_ret
  exact ⟨rfl, S2.out.1⟩

set_option maxRecDepth 100000 in
set_option maxHeartbeats 1000000 in
theorem implMinUsage_any (a : Ac) (S : List Int) (t : Int) (v u : Value) (w : World) (hv : (trA a).rd w v) (hu : Rd w u (S.map (.int .i64))) :
    Calls Tryz.prog 15 #[v, u, .int .i64 t] w fun e w' => e = .returned (.int .i64 (selB ltB (leastV t false false) a.ms S)) ∧ Below w.heap.size w w' := by
  have HV := Lib.hid hv
  obtain ⟨A, c, rfl, hms⟩ := rdA hv
  have HMS := Lib.hid hms
  have HU := Lib.hid hu
  clear hms hv hu
  generalize hres : selB ltB (leastV t false false) a.ms S = res
  have RES := Lib.hid hres
  clear hres
  have S0 := Lib.hid (((Sn.start w).box 32 [.string a.nm, .int .i64 a.fa, .slice A a.ms.length c]).box 3 [.int .i64 t])
  simp only [World.size_alloc] at S0
  have FT := field_task
  go_enter Tryz.func15, Tryz.ntmps15
  go_wp2_with fail
  refine (taskOf_any a _ _ (by exact S0.out.old HV.out)).mono ?_
  rintro e w1 ⟨rfl, b⟩
  have S1 := Lib.hid (S0.out.go b)
  clear S0 b
  go_wp2_with fail
  refine (smallest_any 40 #[.pointer (some ⟨w.heap.size + 1, 0, none⟩)] (leastV t false false) a.ms S _ _ _ (by exact S1.out.old HMS.out) (by exact HU.out.below S1.out.1 (Nat.le_refl _)) enters_MinUsage (gives_MinUsage t _ _ _ _ (by exact S1.out.bk 0 rfl) (Nat.le_refl _))).mono ?_
  rintro e w2 ⟨rfl, b⟩
  rw [RES.out]
  have S2 := Lib.hid (S1.out.go b)
  clear S1 b
  go_wp2
  go_ret
  exact ⟨rfl, S2.out.1⟩

set_option maxRecDepth 100000 in
set_option maxHeartbeats 1000000 in
theorem implMinConsumption_any (a : Ac) (S : List Int) (t : Int) (v u : Value) (w : World) (hv : (trA a).rd w v) (hu : Rd w u (S.map (.int .i64))) :
    Calls Tryz.prog 17 #[v, u, .int .i64 t] w fun e w' => e = .returned (.int .i64 (selB ltB (leastV t true false) a.ms S)) ∧ Below w.heap.size w w' := by
  have HV := Lib.hid hv
  obtain ⟨A, c, rfl, hms⟩ := rdA hv
  have HMS := Lib.hid hms
  have HU := Lib.hid hu
  clear hms hv hu
  generalize hres : selB ltB (leastV t true false) a.ms S = res
  have RES := Lib.hid hres
  clear hres
  have S0 := Lib.hid (((Sn.start w).box 32 [.string a.nm, .int .i64 a.fa, .slice A a.ms.length c]).box 3 [.int .i64 t])
  simp only [World.size_alloc] at S0
  have FT := field_task
  go_enter Tryz.func17, Tryz.ntmps17
  go_wp2_with fail
  refine (taskOf_any a _ _ (by exact S0.out.old HV.out)).mono ?_
  rintro e w1 ⟨rfl, b⟩
  have S1 := Lib.hid (S0.out.go b)
  clear S0 b
  go_wp2_with fail
  refine (smallest_any 43 #[.pointer (some ⟨w.heap.size + 1, 0, none⟩)] (leastV t true false) a.ms S _ _ _ (by exact S1.out.old HMS.out) (by exact HU.out.below S1.out.1 (Nat.le_refl _)) enters_MinConsumption (gives_MinConsumption t _ _ _ _ (by exact S1.out.bk 0 rfl) (Nat.le_refl _))).mono ?_
  rintro e w2 ⟨rfl, b⟩
  rw [RES.out]
  have S2 := Lib.hid (S1.out.go b)
  clear S1 b
  go_wp2
  go_ret
  exact ⟨rfl, S2.out.1⟩

set_option maxRecDepth 100000 in
set_option maxHeartbeats 1000000 in
theorem implMinWork_any (a : Ac) (S : List Int) (t : Int) (v u : Value) (w : World) (hv : (trA a).rd w v) (hu : Rd w u (S.map (.int .i64))) :
    Calls Tryz.prog 16 #[v, u, .int .i64 t] w fun e w' => e = .returned (.int .i64 (selB ltB (leastV t false true) a.ms S)) ∧ Below w.heap.size w w' := by
  have HV := Lib.hid hv
  obtain ⟨A, c, rfl, hms⟩ := rdA hv
  have HMS := Lib.hid hms
  have HU := Lib.hid hu
  clear hms hv hu
  generalize hres : selB ltB (leastV t false true) a.ms S = res
  have RES := Lib.hid hres
  clear hres
  have S0 := Lib.hid (((Sn.start w).box 32 [.string a.nm, .int .i64 a.fa, .slice A a.ms.length c]).box 3 [.int .i64 t])
  simp only [World.size_alloc] at S0
  have FT := field_task
  go_enter Tryz.func16, Tryz.ntmps16
  go_wp2_with fail
  refine (taskOf_any a _ _ (by exact S0.out.old HV.out)).mono ?_
  rintro e w1 ⟨rfl, b⟩
  have S1 := Lib.hid (S0.out.go b)
  clear S0 b
  go_wp2_with fail
  refine (smallest_any 42 #[.pointer (some ⟨w.heap.size + 1, 0, none⟩)] (leastV t false true) a.ms S _ _ _ (by exact S1.out.old HMS.out) (by exact HU.out.below S1.out.1 (Nat.le_refl _)) enters_MinWork (gives_MinWork t _ _ _ _ (by exact S1.out.bk 0 rfl) (Nat.le_refl _))).mono ?_
  rintro e w2 ⟨rfl, b⟩
  rw [RES.out]
  have S2 := Lib.hid (S1.out.go b)
  clear S1 b
  go_wp2
  go_ret
  exact ⟨rfl, S2.out.1⟩
end Go.Proofs.YtnbkiobbacaaiaaGreatDoor
