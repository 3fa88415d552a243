/- DERIVED. CONTRACTS over function values: upto:Activity, upto:Resource, upto:Link, index:Activity. -/
import Derived.Test.YtgbpomakomddjabGreatDoorHof
import Derived.Test.YtgbpomakomddjabGreatDoorTPj
namespace Go.Proofs.YtgbpomakomddjabGreatDoor
open Go.RowKit
set_option linter.unusedVariables false

set_option maxRecDepth 100000 in
set_option maxHeartbeats 1000000 in
theorem areUpToActivity_any (most : Int) (fv : FuncId) (bd : Array Value) (p : Ac → Bool) (xs : List Ac) (v : Value) (w : World) (hv : (trAs xs).rd w v) (hk : (trAs xs).ok)
    (ev : ∀ args w, (callFunc fv args).run Tryz.prog w = .ok (.enter fv args) w) (hp : Tests trA fv bd w p) :
    Calls Tryz.prog 118 #[.int .i64 most, v, .func (.func fv) #[] bd] w fun e w' => e = .returned (.bool (decide ((xs.length : Int) ≤ most) && xs.all p)) ∧ Below w.heap.size w w' := by
  obtain ⟨hlGA, A, c, rfl, gaGA⟩ := rdActivityS_t hv
  have GA := Lib.hid gaGA
  clear gaGA hv
  have HK := Lib.hid (okL_flat (f := cellsA) hk)
  have HP := Lib.hid hp
  clear hk hp
  generalize hres : (decide ((xs.length : Int) ≤ most) && xs.all p) = res
  have RES := Lib.hid hres
  clear hres
  by_cases hmost : most < (xs.length : Int)
  · go_enter Tryz.func118, Tryz.ntmps118
    go_wp2
    go_ret
    exact ⟨ret_boo (by rw [← RES.out]; simp; omega), Below.refl _ _⟩
  have HMOST := Lib.hid (decide_eq_true (show (xs.length : Int) ≤ most by omega))
  go_enter Tryz.func118, Tryz.ntmps118
  go_wp2
  go_loopw [15] (fun i wr => ∃ k : Nat, k ≤ xs.length ∧ i = .int .i64 k ∧ Below w.heap.size w wr ∧ ∀ j, (hj : j < xs.length) → j < k → p xs[j] = true) (fun i _ => xs.length - (intOf i).toNat)
  case atStart => exact ⟨0, Nat.zero_le _, rfl, Below.refl _ _, fun j _ h => absurd h (by omega)⟩
  case round =>
    obtain ⟨k, hkl, rfl, hbel, hall⟩ := hrel
    by_cases hlt : k < xs.length
    · have hlt' : (k : Int) < (xs.length : Int) := by omega
      obtain ⟨b, o, rfl, hb, hc_x⟩ := GA.out k hlt
      obtain ⟨A2, ac2, gx0, gx1, gx2, rx2⟩ := hc_x k hlt
      have hx0 := (hbel.cell (p := ⟨b, o + k * 3, none⟩) hb).trans gx0
      have hx1 := (hbel.cell (p := ⟨b, o + k * 3 + 1, none⟩) hb).trans gx1
      have hx2 := (hbel.cell (p := ⟨b, o + k * 3 + 2, none⟩) hb).trans gx2
      have HM := Lib.hid (mk_rdActivity_t (w := wr) (d := xs[k]) (Tr.rd_below hbel (Nat.le_refl _) _ _ rx2))
      clear hc_x gx0 gx1 gx2 rx2
      have HKK := Lib.hid (HK.out _ (List.getElem_mem hlt))
      have HO := Lib.hid (show (trA xs[k]).ok from HKK.out)
      clear HKK
      have HB := Lib.hid hbel
      clear hbel
      rcases hok : p xs[k] with _ | _
      · have HN := Lib.hid (all_noG (f := p) hlt hok)
        have HOK := Lib.hid hok
        clear hok hall
        generalize xs[k] = m at hx0 hx1 hx2 HM HOK HO
        go_wp2_with fail
        refine (HP.out m _ _ (HB.out.trans (((Below.refl _ _).alloc (Nat.le_refl _) _).mono HB.out.size)) HO.out (Tr.rd_below ((Below.refl _ _).alloc (Nat.le_refl _) _) (Nat.le_refl _) _ _ HM.out)).mono ?_
        rintro e w1 ⟨rfl, hb1⟩
        rw [HOK.out]
        have HE := Lib.hid (HB.out.trans ((((Below.refl _ _).alloc (Nat.le_refl _) _).trans (hb1.mono (by simp))).mono HB.out.size))
        clear hb1
        go_wp2
        go_ret
        exact ⟨ret_boo (by rw [← RES.out, HN.out]; simp), HE.out⟩
      · have STEP := Lib.hid (step_all (p := fun x => p x = true) hlt hall hok)
        have HOK := Lib.hid hok
        clear hok hall
        generalize xs[k] = m at hx0 hx1 hx2 HM HOK HO
        go_wp2_with fail
        refine (HP.out m _ _ (HB.out.trans (((Below.refl _ _).alloc (Nat.le_refl _) _).mono HB.out.size)) HO.out (Tr.rd_below ((Below.refl _ _).alloc (Nat.le_refl _) _) (Nat.le_refl _) _ _ HM.out)).mono ?_
        rintro e w1 ⟨rfl, hb1⟩
        rw [HOK.out]
        have HE := Lib.hid (HB.out.trans ((((Below.refl _ _).alloc (Nat.le_refl _) _).trans (hb1.mono (by simp))).mono HB.out.size))
        clear hb1
        go_wp2
        go_roundw
        case rel => exact ⟨k + 1, by omega, by go_num, HE.out, STEP.out⟩
        case measure => simp [intOf]; omega
    · have hge : ¬ (k : Int) < (xs.length : Int) := by omega
      have HY := Lib.hid (all_yesG (f := p) (fun j hj => hall j hj (by omega)))
      have HB := Lib.hid hbel
      clear hall hbel
      go_wp2
      go_ret
      exact ⟨ret_boo (by rw [← RES.out, HY.out, HMOST.out]; rfl), HB.out⟩

set_option maxRecDepth 100000 in
set_option maxHeartbeats 1000000 in
theorem areUpToResource_any (most : Int) (fv : FuncId) (bd : Array Value) (p : Rs → Bool) (xs : List Rs) (v : Value) (w : World) (hv : (trRs xs).rd w v) (hk : (trRs xs).ok)
    (ev : ∀ args w, (callFunc fv args).run Tryz.prog w = .ok (.enter fv args) w) (hp : Tests trR fv bd w p) :
    Calls Tryz.prog 120 #[.int .i64 most, v, .func (.func fv) #[] bd] w fun e w' => e = .returned (.bool (decide ((xs.length : Int) ≤ most) && xs.all p)) ∧ Below w.heap.size w w' := by
  obtain ⟨hlGA, A, c, rfl, gaGA⟩ := rdResourceS_t hv
  have GA := Lib.hid gaGA
  clear gaGA hv
  have HK := Lib.hid (okL_flat (f := cellsR) hk)
  have HP := Lib.hid hp
  clear hk hp
  generalize hres : (decide ((xs.length : Int) ≤ most) && xs.all p) = res
  have RES := Lib.hid hres
  clear hres
  by_cases hmost : most < (xs.length : Int)
  · go_enter Tryz.func120, Tryz.ntmps120
    go_wp2
    go_ret
    exact ⟨ret_boo (by rw [← RES.out]; simp; omega), Below.refl _ _⟩
  have HMOST := Lib.hid (decide_eq_true (show (xs.length : Int) ≤ most by omega))
  go_enter Tryz.func120, Tryz.ntmps120
  go_wp2
  go_loopw [15] (fun i wr => ∃ k : Nat, k ≤ xs.length ∧ i = .int .i64 k ∧ Below w.heap.size w wr ∧ ∀ j, (hj : j < xs.length) → j < k → p xs[j] = true) (fun i _ => xs.length - (intOf i).toNat)
  case atStart => exact ⟨0, Nat.zero_le _, rfl, Below.refl _ _, fun j _ h => absurd h (by omega)⟩
  case round =>
    obtain ⟨k, hkl, rfl, hbel, hall⟩ := hrel
    by_cases hlt : k < xs.length
    · have hlt' : (k : Int) < (xs.length : Int) := by omega
      obtain ⟨b, o, rfl, hb, hc_x⟩ := GA.out k hlt
      obtain ⟨A0, ac0, A1, ac1, gx0, gx1, rx0, rx1⟩ := hc_x k hlt
      have hx0 := (hbel.cell (p := ⟨b, o + k * 2, none⟩) hb).trans gx0
      have hx1 := (hbel.cell (p := ⟨b, o + k * 2 + 1, none⟩) hb).trans gx1
      have HM := Lib.hid (mk_rdResource_t (w := wr) (d := xs[k]) (Tr.rd_below hbel (Nat.le_refl _) _ _ rx0) (Tr.rd_below hbel (Nat.le_refl _) _ _ rx1))
      clear hc_x gx0 gx1 rx0 rx1
      have HKK := Lib.hid (HK.out _ (List.getElem_mem hlt))
      have HO := Lib.hid (show (trR xs[k]).ok from HKK.out)
      clear HKK
      have HB := Lib.hid hbel
      clear hbel
      rcases hok : p xs[k] with _ | _
      · have HN := Lib.hid (all_noG (f := p) hlt hok)
        have HOK := Lib.hid hok
        clear hok hall
        generalize xs[k] = m at hx0 hx1 HM HOK HO
        go_wp2_with fail
        refine (HP.out m _ _ (HB.out.trans (((Below.refl _ _).alloc (Nat.le_refl _) _).mono HB.out.size)) HO.out (Tr.rd_below ((Below.refl _ _).alloc (Nat.le_refl _) _) (Nat.le_refl _) _ _ HM.out)).mono ?_
        rintro e w1 ⟨rfl, hb1⟩
        rw [HOK.out]
        have HE := Lib.hid (HB.out.trans ((((Below.refl _ _).alloc (Nat.le_refl _) _).trans (hb1.mono (by simp))).mono HB.out.size))
        clear hb1
        go_wp2
        go_ret
        exact ⟨ret_boo (by rw [← RES.out, HN.out]; simp), HE.out⟩
      · have STEP := Lib.hid (step_all (p := fun x => p x = true) hlt hall hok)
        have HOK := Lib.hid hok
        clear hok hall
        generalize xs[k] = m at hx0 hx1 HM HOK HO
        go_wp2_with fail
        refine (HP.out m _ _ (HB.out.trans (((Below.refl _ _).alloc (Nat.le_refl _) _).mono HB.out.size)) HO.out (Tr.rd_below ((Below.refl _ _).alloc (Nat.le_refl _) _) (Nat.le_refl _) _ _ HM.out)).mono ?_
        rintro e w1 ⟨rfl, hb1⟩
        rw [HOK.out]
        have HE := Lib.hid (HB.out.trans ((((Below.refl _ _).alloc (Nat.le_refl _) _).trans (hb1.mono (by simp))).mono HB.out.size))
        clear hb1
        go_wp2
        go_roundw
        case rel => exact ⟨k + 1, by omega, by go_num, HE.out, STEP.out⟩
        case measure => simp [intOf]; omega
    · have hge : ¬ (k : Int) < (xs.length : Int) := by omega
      have HY := Lib.hid (all_yesG (f := p) (fun j hj => hall j hj (by omega)))
      have HB := Lib.hid hbel
      clear hall hbel
      go_wp2
      go_ret
      exact ⟨ret_boo (by rw [← RES.out, HY.out, HMOST.out]; rfl), HB.out⟩

set_option maxRecDepth 100000 in
set_option maxHeartbeats 1000000 in
theorem areUpToLink_any (most : Int) (fv : FuncId) (bd : Array Value) (p : Lk → Bool) (xs : List Lk) (v : Value) (w : World) (hv : (trLs xs).rd w v) (hk : (trLs xs).ok)
    (ev : ∀ args w, (callFunc fv args).run Tryz.prog w = .ok (.enter fv args) w) (hp : Tests trLk fv bd w p) :
    Calls Tryz.prog 124 #[.int .i64 most, v, .func (.func fv) #[] bd] w fun e w' => e = .returned (.bool (decide ((xs.length : Int) ≤ most) && xs.all p)) ∧ Below w.heap.size w w' := by
  obtain ⟨hlGA, A, c, rfl, gaGA⟩ := rdLinkS_t hv
  have GA := Lib.hid gaGA
  clear gaGA hv
  have HK := Lib.hid (okL_flat (f := cellsL) hk)
  have HP := Lib.hid hp
  clear hk hp
  generalize hres : (decide ((xs.length : Int) ≤ most) && xs.all p) = res
  have RES := Lib.hid hres
  clear hres
  by_cases hmost : most < (xs.length : Int)
  · go_enter Tryz.func124, Tryz.ntmps124
    go_wp2
    go_ret
    exact ⟨ret_boo (by rw [← RES.out]; simp; omega), Below.refl _ _⟩
  have HMOST := Lib.hid (decide_eq_true (show (xs.length : Int) ≤ most by omega))
  go_enter Tryz.func124, Tryz.ntmps124
  go_wp2
  go_loopw [15] (fun i wr => ∃ k : Nat, k ≤ xs.length ∧ i = .int .i64 k ∧ Below w.heap.size w wr ∧ ∀ j, (hj : j < xs.length) → j < k → p xs[j] = true) (fun i _ => xs.length - (intOf i).toNat)
  case atStart => exact ⟨0, Nat.zero_le _, rfl, Below.refl _ _, fun j _ h => absurd h (by omega)⟩
  case round =>
    obtain ⟨k, hkl, rfl, hbel, hall⟩ := hrel
    by_cases hlt : k < xs.length
    · have hlt' : (k : Int) < (xs.length : Int) := by omega
      obtain ⟨b, o, rfl, hb, hc_x⟩ := GA.out k hlt
      obtain ⟨gx0, gx1, gx2, gx3⟩ := hc_x k hlt
      have hx0 := (hbel.cell (p := ⟨b, o + k * 4, none⟩) hb).trans gx0
      have hx1 := (hbel.cell (p := ⟨b, o + k * 4 + 1, none⟩) hb).trans gx1
      have hx2 := (hbel.cell (p := ⟨b, o + k * 4 + 2, none⟩) hb).trans gx2
      have hx3 := (hbel.cell (p := ⟨b, o + k * 4 + 3, none⟩) hb).trans gx3
      have HM := Lib.hid (mk_rdLink_t (w := wr) (d := xs[k]) )
      clear hc_x gx0 gx1 gx2 gx3 
      have HKK := Lib.hid (HK.out _ (List.getElem_mem hlt))
      have HO := Lib.hid (show (trLk xs[k]).ok from HKK.out)
      clear HKK
      have HB := Lib.hid hbel
      clear hbel
      rcases hok : p xs[k] with _ | _
      · have HN := Lib.hid (all_noG (f := p) hlt hok)
        have HOK := Lib.hid hok
        clear hok hall
        generalize xs[k] = m at hx0 hx1 hx2 hx3 HM HOK HO
        go_wp2_with fail
        refine (HP.out m _ _ (HB.out.trans (((Below.refl _ _).alloc (Nat.le_refl _) _).mono HB.out.size)) HO.out (Tr.rd_below ((Below.refl _ _).alloc (Nat.le_refl _) _) (Nat.le_refl _) _ _ HM.out)).mono ?_
        rintro e w1 ⟨rfl, hb1⟩
        rw [HOK.out]
        have HE := Lib.hid (HB.out.trans ((((Below.refl _ _).alloc (Nat.le_refl _) _).trans (hb1.mono (by simp))).mono HB.out.size))
        clear hb1
        go_wp2
        go_ret
        exact ⟨ret_boo (by rw [← RES.out, HN.out]; simp), HE.out⟩
      · have STEP := Lib.hid (step_all (p := fun x => p x = true) hlt hall hok)
        have HOK := Lib.hid hok
        clear hok hall
        generalize xs[k] = m at hx0 hx1 hx2 hx3 HM HOK HO
        go_wp2_with fail
        refine (HP.out m _ _ (HB.out.trans (((Below.refl _ _).alloc (Nat.le_refl _) _).mono HB.out.size)) HO.out (Tr.rd_below ((Below.refl _ _).alloc (Nat.le_refl _) _) (Nat.le_refl _) _ _ HM.out)).mono ?_
        rintro e w1 ⟨rfl, hb1⟩
        rw [HOK.out]
        have HE := Lib.hid (HB.out.trans ((((Below.refl _ _).alloc (Nat.le_refl _) _).trans (hb1.mono (by simp))).mono HB.out.size))
        clear hb1
        go_wp2
        go_roundw
        case rel => exact ⟨k + 1, by omega, by go_num, HE.out, STEP.out⟩
        case measure => simp [intOf]; omega
    · have hge : ¬ (k : Int) < (xs.length : Int) := by omega
      have HY := Lib.hid (all_yesG (f := p) (fun j hj => hall j hj (by omega)))
      have HB := Lib.hid hbel
      clear hall hbel
      go_wp2
      go_ret
      exact ⟨ret_boo (by rw [← RES.out, HY.out, HMOST.out]; rfl), HB.out⟩

set_option maxRecDepth 100000 in
set_option maxHeartbeats 1000000 in
theorem indexFuncActivity_any (fv : FuncId) (bd : Array Value) (p : Ac → Bool) (xs : List Ac) (v : Value) (w : World) (hv : (trAs xs).rd w v) (hk : (trAs xs).ok)
    (ev : ∀ args w, (callFunc fv args).run Tryz.prog w = .ok (.enter fv args) w) (hp : Tests trA fv bd w p) :
    Calls Tryz.prog 107 #[v, .func (.func fv) #[] bd] w fun e w' => e = .returned (.int .i64 (ixB p xs)) ∧ Below w.heap.size w w' := by
  obtain ⟨hlGA, A, c, rfl, gaGA⟩ := rdActivityS_t hv
  have GA := Lib.hid gaGA
  clear gaGA hv
  have HK := Lib.hid (okL_flat (f := cellsA) hk)
  have HP := Lib.hid hp
  clear hk hp
  generalize hres : ixB p xs = res
  have RES := Lib.hid hres
  clear hres
  go_enter Tryz.func107, Tryz.ntmps107
  go_wp2
  go_loopw [8] (fun i wr => ∃ k : Nat, k ≤ xs.length ∧ i = .int .i64 k ∧ Below w.heap.size w wr ∧ ∀ j, (hj : j < xs.length) → j < k → p xs[j] = false) (fun i _ => xs.length - (intOf i).toNat)
  case atStart => exact ⟨0, Nat.zero_le _, rfl, Below.refl _ _, fun j _ h => absurd h (by omega)⟩
  case round =>
    obtain ⟨k, hkl, rfl, hbel, hall⟩ := hrel
    by_cases hlt : k < xs.length
    · have hlt' : (k : Int) < (xs.length : Int) := by omega
      obtain ⟨b, o, rfl, hb, hc_x⟩ := GA.out k hlt
      obtain ⟨A2, ac2, gx0, gx1, gx2, rx2⟩ := hc_x k hlt
      have hx0 := (hbel.cell (p := ⟨b, o + k * 3, none⟩) hb).trans gx0
      have hx1 := (hbel.cell (p := ⟨b, o + k * 3 + 1, none⟩) hb).trans gx1
      have hx2 := (hbel.cell (p := ⟨b, o + k * 3 + 2, none⟩) hb).trans gx2
      have HM := Lib.hid (mk_rdActivity_t (w := wr) (d := xs[k]) (Tr.rd_below hbel (Nat.le_refl _) _ _ rx2))
      clear hc_x gx0 gx1 gx2 rx2
      have HKK := Lib.hid (HK.out _ (List.getElem_mem hlt))
      have HO := Lib.hid (show (trA xs[k]).ok from HKK.out)
      clear HKK
      have HB := Lib.hid hbel
      clear hbel
      rcases hok : p xs[k] with _ | _
      · have STEP := Lib.hid (step_all (p := fun x => p x = false) hlt hall hok)
        have HOK := Lib.hid hok
        clear hok hall
        generalize xs[k] = m at hx0 hx1 hx2 HM HOK HO
        go_wp2_with fail
        refine (HP.out m _ _ (by exact HB.out) HO.out HM.out).mono ?_
        rintro e w1 ⟨rfl, hb1⟩
        rw [HOK.out]
        have HE := Lib.hid (HB.out.trans (hb1.mono HB.out.size))
        clear hb1
        go_wp2
        go_roundw
        case rel => exact ⟨k + 1, by omega, by go_num, HE.out, STEP.out⟩
        case measure => simp [intOf]; omega
      · have HN := Lib.hid (ixB_at hlt hall hok)
        have HOK := Lib.hid hok
        clear hok hall
        generalize xs[k] = m at hx0 hx1 hx2 HM HOK HO
        go_wp2_with fail
        refine (HP.out m _ _ (by exact HB.out) HO.out HM.out).mono ?_
        rintro e w1 ⟨rfl, hb1⟩
        rw [HOK.out]
        have HE := Lib.hid (HB.out.trans (hb1.mono HB.out.size))
        clear hb1
        go_wp2
        go_ret
        exact ⟨ret_numZ (by rw [← RES.out, HN.out]), HE.out⟩
    · have hge : ¬ (k : Int) < (xs.length : Int) := by omega
      have HY := Lib.hid (ixB_none (p := p) (fun j hj => hall j hj (by omega)))
      have HB := Lib.hid hbel
      clear hall hbel
      go_wp2
      go_ret
      exact ⟨ret_numZ (by rw [← RES.out, HY.out]), HB.out⟩
end Go.Proofs.YtgbpomakomddjabGreatDoor
