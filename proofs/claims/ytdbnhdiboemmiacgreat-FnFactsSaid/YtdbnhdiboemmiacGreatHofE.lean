/- DERIVED. CONTRACTS over function values: equal:Int, equal:Activity, equal:Resource. -/
import Derived.Test.YtdbnhdiboemmiacGreatHof
import Derived.Test.YtdbnhdiboemmiacGreatTPj
namespace Go.Proofs.YtdbnhdiboemmiacGreat
open Go.RowKit
set_option linter.unusedVariables false

set_option maxRecDepth 100000 in
set_option maxHeartbeats 1000000 in
theorem equalFuncInt_any (fv : FuncId) (bd : Array Value) (p : (List Int) → (List Int) → Bool) (xs ys : List (List Int)) (v u : Value) (w : World) (hv : (trSu xs).rd w v) (hu : (trSu ys).rd w u) (hk : (trSu xs).ok) (hk2 : (trSu ys).ok)
    (ev : ∀ args w, (callFunc fv args).run Tryz.prog w = .ok (.enter fv args) w) (hp : Tests2 trI fv bd w p) :
    Calls Tryz.prog 31 #[v, u, .func (.func fv) #[] bd] w fun e w' => e = .returned (.bool (eqL p xs ys)) ∧ Below w.heap.size w w' := by
  obtain ⟨hlGA, A, c, rfl, gaGA⟩ := rdIntSS_t hv
  have GA := Lib.hid gaGA
  clear gaGA hv
  obtain ⟨hlGB, B, c2, rfl, gaGB⟩ := rdIntSS_t hu
  have GB := Lib.hid gaGB
  clear gaGB hu
  have HK := Lib.hid (okL_flat (f := cellsI1) hk)
  have HK2 := Lib.hid (okL_flat (f := cellsI1) hk2)
  have HP := Lib.hid hp
  clear hk hk2 hp
  generalize hres : eqL p xs ys = res
  have RES := Lib.hid hres
  clear hres
  by_cases hne : xs.length = ys.length
  case neg =>
    have HF := Lib.hid (eqL_len (p := p) hne)
    have hne' : ((xs.length : Int) != (ys.length : Int)) = true := by simp; omega
    clear hne
    go_enter Tryz.func31, Tryz.ntmps31
    go_wp2
    go_ret
    exact ⟨ret_boo (by rw [← RES.out, HF.out]), Below.refl _ _⟩
  have hne' : ((xs.length : Int) != (ys.length : Int)) = false := by simp; omega
  have HL := Lib.hid hne
  clear hne
  go_enter Tryz.func31, Tryz.ntmps31
  go_wp2
  go_loopw [17] (fun i wr => ∃ k : Nat, k ≤ xs.length ∧ i = .int .i64 k ∧ Below w.heap.size w wr ∧ ∀ j, (h1 : j < xs.length) → (h2 : j < ys.length) → j < k → p xs[j] ys[j] = true) (fun i _ => xs.length - (intOf i).toNat)
  case atStart => exact ⟨0, Nat.zero_le _, rfl, Below.refl _ _, fun j _ _ h => absurd h (by omega)⟩
  case round =>
    obtain ⟨k, hkl, rfl, hbel, hall⟩ := hrel
    by_cases hlt : k < xs.length
    · have hlt' : (k : Int) < (xs.length : Int) := by omega
      have hlt2 : k < ys.length := by have := HL.out; omega
      have hlt2' : (k : Int) < (ys.length : Int) := by omega
      have hz := hbel.size
      obtain ⟨b1, o1, rfl, hb1, hc_x⟩ := GA.out k hlt
      obtain ⟨A0, ac0, gx0, rx0⟩ := hc_x k hlt
      have hx0 := (hbel.cell (p := ⟨b1, o1 + k, none⟩) hb1).trans gx0
      have HM := Lib.hid (Tr.rd_below hbel (Nat.le_refl _) _ _ rx0)
      clear hc_x gx0 rx0
      obtain ⟨b2, o2, rfl, hb2, hc_y⟩ := GB.out k hlt2
      obtain ⟨B0, bc0, gy0, ry0⟩ := hc_y k hlt2
      have hy0 := (hbel.cell (p := ⟨b2, o2 + k, none⟩) hb2).trans gy0
      have HN := Lib.hid (Tr.rd_below hbel (Nat.le_refl _) _ _ ry0)
      clear hc_y gy0 ry0
      have hb2w : b2 < wr.heap.size := by omega
      have HKK := Lib.hid (HK.out _ (List.getElem_mem hlt))
      have HO := Lib.hid (show (trI xs[k]).ok from HKK.out.1)
      clear HKK
      have HKK := Lib.hid (HK2.out _ (List.getElem_mem hlt2))
      have HO2 := Lib.hid (show (trI ys[k]).ok from HKK.out.1)
      clear HKK
      have HB := Lib.hid hbel
      clear hbel
      rcases hok : p xs[k] ys[k] with _ | _
      · have HN_ := Lib.hid (eqL_no hlt hlt2 hok)
        have HOK := Lib.hid hok
        clear hok hall
        generalize xs[k] = m at hx0 HM HOK HO
        generalize ys[k] = n at hy0 HN HOK HO2
        go_wp2_with fail
        refine (HP.out m n _ _ _ (HB.out.trans ((Below.refl _ _).mono HB.out.size)) HO.out HO2.out HM.out HN.out).mono ?_
        rintro e w1 ⟨rfl, hb1⟩
        rw [HOK.out]
        have HE := Lib.hid (HB.out.trans ((hb1).mono HB.out.size))
        clear hb1
        go_wp2
        go_ret
        exact ⟨ret_boo (by rw [← RES.out, HN_.out]), HE.out⟩
      · have STEP := Lib.hid (step_eqL hlt hlt2 hall hok)
        have HOK := Lib.hid hok
        clear hok hall
        generalize xs[k] = m at hx0 HM HOK HO
        generalize ys[k] = n at hy0 HN HOK HO2
        go_wp2_with fail
        refine (HP.out m n _ _ _ (HB.out.trans ((Below.refl _ _).mono HB.out.size)) HO.out HO2.out HM.out HN.out).mono ?_
        rintro e w1 ⟨rfl, hb1⟩
        rw [HOK.out]
        have HE := Lib.hid (HB.out.trans ((hb1).mono HB.out.size))
        clear hb1
        go_wp2
        go_roundw
        case rel => exact ⟨k + 1, by omega, by go_num, HE.out, STEP.out⟩
        case measure => simp [intOf]; omega
    · have hge : ¬ (k : Int) < (xs.length : Int) := by omega
      have HY := Lib.hid (eqL_yes HL.out hlt hall)
      have HB := Lib.hid hbel
      clear hall hbel
      go_wp2
      go_ret
      exact ⟨ret_boo (by rw [← RES.out, HY.out]), HB.out⟩

end Go.Proofs.YtdbnhdiboemmiacGreat
