/- DERIVED. CONTRACTS over function values: upto:Literal, index:Literal, contains:Literal. -/
import Derived.Test.YtgbpomakomddjabGreatDoorHof
import Derived.Test.YtgbpomakomddjabGreatDoorTFl
namespace Go.Proofs.YtgbpomakomddjabGreatDoor
open Go.RowKit
set_option linter.unusedVariables false

set_option maxRecDepth 100000 in
set_option maxHeartbeats 1000000 in
theorem areUpToLiteral_any (most : Int) (fv : FuncId) (bd : Array Value) (p : Lt → Bool) (xs : List Lt) (v : Value) (w : World) (hv : (trLts xs).rd w v) (hk : (trLts xs).ok)
    (ev : ∀ args w, (callFunc fv args).run Tryz.prog w = .ok (.enter fv args) w) (hp : Tests trLt fv bd w p) :
    Calls Tryz.prog 57 #[.int .i64 most, v, .func (.func fv) #[] bd] w fun e w' => e = .returned (.bool (decide ((xs.length : Int) ≤ most) && xs.all p)) ∧ Below w.heap.size w w' := by
  obtain ⟨hlGA, A, c, rfl, gaGA⟩ := rdLiteralS_t hv
  have GA := Lib.hid gaGA
  clear gaGA hv
  have HK := Lib.hid (okL_flat (f := cellsLt) hk)
  have HP := Lib.hid hp
  clear hk hp
  generalize hres : (decide ((xs.length : Int) ≤ most) && xs.all p) = res
  have RES := Lib.hid hres
  clear hres
  by_cases hmost : most < (xs.length : Int)
  · go_enter Tryz.func57, Tryz.ntmps57
    go_wp2
    go_ret
    exact ⟨ret_boo (by rw [← RES.out]; simp; omega), Below.refl _ _⟩
  have HMOST := Lib.hid (decide_eq_true (show (xs.length : Int) ≤ most by omega))
  go_enter Tryz.func57, Tryz.ntmps57
  go_wp2
  go_loopw [15] (fun i wr => ∃ k : Nat, k ≤ xs.length ∧ i = .int .i64 k ∧ Below w.heap.size w wr ∧ ∀ j, (hj : j < xs.length) → j < k → p xs[j] = true) (fun i _ => xs.length - (intOf i).toNat)
  case atStart => exact ⟨0, Nat.zero_le _, rfl, Below.refl _ _, fun j _ h => absurd h (by omega)⟩
  case round =>
    obtain ⟨k, hkl, rfl, hbel, hall⟩ := hrel
    by_cases hlt : k < xs.length
    · have hlt' : (k : Int) < (xs.length : Int) := by omega
      obtain ⟨b, o, rfl, hb, hc_x⟩ := GA.out k hlt
      obtain ⟨gx0, gx1, gx2⟩ := hc_x k hlt
      have hx0 := (hbel.cell (p := ⟨b, o + k * 3, none⟩) hb).trans gx0
      have hx1 := (hbel.cell (p := ⟨b, o + k * 3 + 1, none⟩) hb).trans gx1
      have hx2 := (hbel.cell (p := ⟨b, o + k * 3 + 2, none⟩) hb).trans gx2
      have HM := Lib.hid (mk_rdLiteral_t (w := wr) (d := xs[k]) )
      clear hc_x gx0 gx1 gx2 
      have HKK := Lib.hid (HK.out _ (List.getElem_mem hlt))
      have HO := Lib.hid (show (trLt xs[k]).ok from HKK.out)
      clear HKK
      have HB := Lib.hid hbel
      clear hbel
      rcases hok : p xs[k] with _ | _
      · have HN := Lib.hid (all_noG (f := p) hlt hok)
        have HOK := Lib.hid hok
        clear hok hall
        generalize xs[k] = m at hx0 hx1 hx2 HM HOK HO
        go_wp2_with fail
        refine (HP.out m _ _ (HB.out.trans (((Below.refl _ _).alloc (Nat.le_refl _) _).mono HB.out.size)) HO.out (Tr.rd_below ((Below.refl _ _).alloc (Nat.le_refl _) _) (Nat.le_refl _) _ _ HM.out)).mono ?_
        rintro e w1 ⟨rfl, hb1⟩
        rw [HOK.out]
        have HE := Lib.hid (HB.out.trans ((((Below.refl _ _).alloc (Nat.le_refl _) _).trans (hb1.mono (by simp))).mono HB.out.size))
        clear hb1
        go_wp2
        go_ret
        exact ⟨ret_boo (by rw [← RES.out, HN.out]; simp), HE.out⟩
      · have STEP := Lib.hid (step_all (p := fun x => p x = true) hlt hall hok)
        have HOK := Lib.hid hok
        clear hok hall
        generalize xs[k] = m at hx0 hx1 hx2 HM HOK HO
        go_wp2_with fail
        refine (HP.out m _ _ (HB.out.trans (((Below.refl _ _).alloc (Nat.le_refl _) _).mono HB.out.size)) HO.out (Tr.rd_below ((Below.refl _ _).alloc (Nat.le_refl _) _) (Nat.le_refl _) _ _ HM.out)).mono ?_
        rintro e w1 ⟨rfl, hb1⟩
        rw [HOK.out]
        have HE := Lib.hid (HB.out.trans ((((Below.refl _ _).alloc (Nat.le_refl _) _).trans (hb1.mono (by simp))).mono HB.out.size))
        clear hb1
        go_wp2
        go_roundw
        case rel => exact ⟨k + 1, by omega, by go_num, HE.out, STEP.out⟩
        case measure => simp [intOf]; omega
    · have hge : ¬ (k : Int) < (xs.length : Int) := by omega
      have HY := Lib.hid (all_yesG (f := p) (fun j hj => hall j hj (by omega)))
      have HB := Lib.hid hbel
      clear hall hbel
      go_wp2
      go_ret
      exact ⟨ret_boo (by rw [← RES.out, HY.out, HMOST.out]; rfl), HB.out⟩

end Go.Proofs.YtgbpomakomddjabGreatDoor
