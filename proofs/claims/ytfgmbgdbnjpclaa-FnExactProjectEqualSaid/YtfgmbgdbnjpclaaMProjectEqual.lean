/- FnExactProjectEqual at the commit in COMMIT: the law returns true for every input, and each argument reads behind the call as it read before. No condition. -/
import Derived.Test.YtfgmbgdbnjpclaaStpA
import Derived.Test.YtfgmbgdbnjpclaaStpS
import Derived.Test.YtfgmbgdbnjpclaaHof
import Derived.Test.YtfgmbgdbnjpclaaTIntS
import Derived.Test.YtfgmbgdbnjpclaaTActivity
import Derived.Test.YtfgmbgdbnjpclaaTResource
import Derived.Test.YtfgmbgdbnjpclaaTProject
import Derived.Test.YtfgmbgdbnjpclaaPrA
import Derived.Test.YtfgmbgdbnjpclaaActH
import Derived.Deep.RegionWith
import Derived.Deep.CutRange
import Derived.Test.YtfgmbgdbnjpclaaRows
import Derived.Test.YtfgmbgdbnjpclaaBase
import Derived.Test.YtfgmbgdbnjpclaaOpenProject
import Derived.WalkKit
import Derived.ProofKit
import Derived.OpenShut
import Derived.ShutString
import Derived.ChangeOld
import Derived.SliceStrings

section
namespace Go.Proofs.Ytfgmbgdbnjpclaa
open Go.RowKit

set_option maxRecDepth 100000 in
set_option maxHeartbeats 1000000 in
theorem specEqualP_any (xs ys : List Pr) (va vb : Value) (w : World) (ha : RdP w va xs) (hb : RdP w vb ys) :
    Calls Try.prog 86 #[va, vb] w fun e w' => e = .returned (.bool (decide (xs = ys))) ∧ Below w.heap.size w w' := by
  have hla := ha.le
  have hlb := hb.le
  obtain ⟨A, ca, rfl, ga⟩ := rdPk ha
  obtain ⟨B, cb, rfl, gb⟩ := rdPk hb
  clear ha hb
  have GA := Lib.hid ga
  have GB := Lib.hid gb
  clear ga gb
  by_cases hne : xs.length = ys.length
  · have hne' : ((xs.length : Int) != (ys.length : Int)) = false := by simp; omega
    have HL := Lib.hid hne
    clear hne
    go_enter Try.func86, Try.ntmps86
    go_wp2
    go_loopw [13] (fun i wr => ∃ k n : Nat, k ≤ xs.length ∧ i = .int .i64 k ∧ wr = w.drewN n ∧ ∀ j, (h1 : j < xs.length) → (h2 : j < ys.length) → j < k → xs[j] = ys[j]) (fun i _ => xs.length - (intOf i).toNat)
    case atStart => exact ⟨0, 0, Nat.zero_le _, rfl, rfl, fun j _ _ h => absurd h (by omega)⟩
    case round =>
      obtain ⟨k, n, hk, rfl, rfl, hall⟩ := hrel
      by_cases hlt : k < xs.length
      · have hlt' : (k : Int) < (xs.length : Int) := by omega
        have hlt2 : k < ys.length := by have := HL.out; omega
        have hlt2' : (k : Int) < (ys.length : Int) := by omega
        obtain ⟨b1, o1, rfl, hb1, hc1⟩ := GA.out k hlt
        obtain ⟨b2, o2, rfl, hb2, hc2⟩ := GB.out k hlt2
        obtain ⟨cx0, cx1⟩ := hc1 k hlt
        obtain ⟨cy0, cy1⟩ := hc2 k hlt2
        clear hc1 hc2
        by_cases he : xs[k] = ys[k]
        · have STEP := Lib.hid (show ∀ j, (h1 : j < xs.length) → (h2 : j < ys.length) → j < k + 1 → xs[j] = ys[j] from fun j h1 h2 h => by
            by_cases e : j = k
            · subst e; exact he
            · exact hall j h1 h2 (by omega))
          clear hall
          rw [he] at cx0 cx1
          clear he
          generalize ys[k] = y at cx0 cx1 cy0 cy1
          obtain ⟨y0, y1⟩ := y
          go_wp2
          go_quiet (fail)
          go_wp2
          go_roundw
          case rel => exact ⟨k + 1, n + nq, by omega, by go_num, rfl, STEP.out⟩
          case measure => simp [intOf]; omega
        · have HF := Lib.hid (show decide (xs = ys) = false from by rw [decide_eq_false_iff_not]; intro e; subst e; exact he rfl)
          clear hall
          generalize xs[k] = x at cx0 cx1 he
          generalize ys[k] = y at cy0 cy1 he
          obtain ⟨x0, x1⟩ := x
          obtain ⟨y0, y1⟩ := y
          by_cases h0 : x0 = y0
          · subst h0
            have h1 : x1 ≠ y1 := fun e => he (by rw [e])
            have h1' : (x1 == y1) = false := by simpa using h1
            have h1'' : (x1 != y1) = true := by simpa using h1
            clear he h1
            go_wp2
            go_quiet (fail)
            go_wp2
            go_ret
            exact ⟨by rw [HF.out]; rfl, by first | exact below_drewN' w _ | (rw [World.drewN_drewN]; exact below_drewN' w _)⟩
          · have h1' : (x0 == y0) = false := by simpa using h0
            have h1'' : (x0 != y0) = true := by simpa using h0
            clear he h0
            go_wp2
            go_quiet (fail)
            go_wp2
            go_ret
            exact ⟨by rw [HF.out]; rfl, by first | exact below_drewN' w _ | (rw [World.drewN_drewN]; exact below_drewN' w _)⟩
      · have hge : ¬ (k : Int) < (xs.length : Int) := by omega
        have HF := Lib.hid (decide_eq_true (eqP_pre HL.out hlt hall))
        clear hall
        go_wp2
        go_ret
        exact ⟨by rw [HF.out]; rfl, by first | exact below_drewN' w _ | (rw [World.drewN_drewN]; exact below_drewN' w _)⟩
  · have HF : Hid (decide (xs = ys) = false) := Lib.hid (by rw [decide_eq_false_iff_not]; intro e; exact hne (by rw [e]))
    have hne' : ((xs.length : Int) != (ys.length : Int)) = true := by simp; omega
    clear hne
    go_enter Try.func86, Try.ntmps86
    go_wp2
    go_ret
    exact ⟨by rw [HF.out]; rfl, Below.refl _ _⟩

set_option maxRecDepth 100000 in
set_option maxHeartbeats 1000000 in
theorem equalP_any (xs ys : List Pr) (va vb : Value) (w : World) (ha : RdP w va xs) (hb : RdP w vb ys) :
    Calls Try.prog 145 #[va, vb] w fun e w' => e = .returned (.bool (decide (xs = ys))) ∧ Below w.heap.size w w' := by
  have hla := ha.le
  have hlb := hb.le
  obtain ⟨A, ca, rfl, ga⟩ := rdPk ha
  obtain ⟨B, cb, rfl, gb⟩ := rdPk hb
  clear ha hb
  have GA := Lib.hid ga
  have GB := Lib.hid gb
  clear ga gb
  by_cases hne : xs.length = ys.length
  · have hne' : ((xs.length : Int) != (ys.length : Int)) = false := by simp; omega
    have HL := Lib.hid hne
    clear hne
    go_enter Try.func145, Try.ntmps145
    go_wp2
    go_loopw [13] (fun i wr => ∃ k n : Nat, k ≤ xs.length ∧ i = .int .i64 k ∧ wr = w.drewN n ∧ ∀ j, (h1 : j < xs.length) → (h2 : j < ys.length) → j < k → xs[j] = ys[j]) (fun i _ => xs.length - (intOf i).toNat)
    case atStart => exact ⟨0, 0, Nat.zero_le _, rfl, rfl, fun j _ _ h => absurd h (by omega)⟩
    case round =>
      obtain ⟨k, n, hk, rfl, rfl, hall⟩ := hrel
      by_cases hlt : k < xs.length
      · have hlt' : (k : Int) < (xs.length : Int) := by omega
        have hlt2 : k < ys.length := by have := HL.out; omega
        have hlt2' : (k : Int) < (ys.length : Int) := by omega
        obtain ⟨b1, o1, rfl, hb1, hc1⟩ := GA.out k hlt
        obtain ⟨b2, o2, rfl, hb2, hc2⟩ := GB.out k hlt2
        obtain ⟨cx0, cx1⟩ := hc1 k hlt
        obtain ⟨cy0, cy1⟩ := hc2 k hlt2
        clear hc1 hc2
        by_cases he : xs[k] = ys[k]
        · have STEP := Lib.hid (show ∀ j, (h1 : j < xs.length) → (h2 : j < ys.length) → j < k + 1 → xs[j] = ys[j] from fun j h1 h2 h => by
            by_cases e : j = k
            · subst e; exact he
            · exact hall j h1 h2 (by omega))
          clear hall
          rw [he] at cx0 cx1
          clear he
          generalize ys[k] = y at cx0 cx1 cy0 cy1
          obtain ⟨y0, y1⟩ := y
          go_wp2
          go_quiet (fail)
          go_wp2
          go_roundw
          case rel => exact ⟨k + 1, n + nq, by omega, by go_num, rfl, STEP.out⟩
          case measure => simp [intOf]; omega
        · have HF := Lib.hid (show decide (xs = ys) = false from by rw [decide_eq_false_iff_not]; intro e; subst e; exact he rfl)
          clear hall
          generalize xs[k] = x at cx0 cx1 he
          generalize ys[k] = y at cy0 cy1 he
          obtain ⟨x0, x1⟩ := x
          obtain ⟨y0, y1⟩ := y
          by_cases h0 : x0 = y0
          · subst h0
            have h1 : x1 ≠ y1 := fun e => he (by rw [e])
            have h1' : (x1 == y1) = false := by simpa using h1
            have h1'' : (x1 != y1) = true := by simpa using h1
            clear he h1
            go_wp2
            go_quiet (fail)
            go_wp2
            go_ret
            exact ⟨by rw [HF.out]; rfl, by first | exact below_drewN' w _ | (rw [World.drewN_drewN]; exact below_drewN' w _)⟩
          · have h1' : (x0 == y0) = false := by simpa using h0
            have h1'' : (x0 != y0) = true := by simpa using h0
            clear he h0
            go_wp2
            go_quiet (fail)
            go_wp2
            go_ret
            exact ⟨by rw [HF.out]; rfl, by first | exact below_drewN' w _ | (rw [World.drewN_drewN]; exact below_drewN' w _)⟩
      · have hge : ¬ (k : Int) < (xs.length : Int) := by omega
        have HF := Lib.hid (decide_eq_true (eqP_pre HL.out hlt hall))
        clear hall
        go_wp2
        go_ret
        exact ⟨by rw [HF.out]; rfl, by first | exact below_drewN' w _ | (rw [World.drewN_drewN]; exact below_drewN' w _)⟩
  · have HF : Hid (decide (xs = ys) = false) := Lib.hid (by rw [decide_eq_false_iff_not]; intro e; exact hne (by rw [e]))
    have hne' : ((xs.length : Int) != (ys.length : Int)) = true := by simp; omega
    clear hne
    go_enter Try.func145, Try.ntmps145
    go_wp2
    go_ret
    exact ⟨by rw [HF.out]; rfl, Below.refl _ _⟩

theorem implEqualP_any (xs ys : List Pr) (va vb : Value) (w : World) (ha : RdP w va xs) (hb : RdP w vb ys) :
    Calls Try.prog 121 #[va, vb] w fun e w' => e = .returned (.bool (decide (xs = ys))) ∧ Below w.heap.size w w' := by
  have HA := Lib.hid ha
  have HB := Lib.hid hb
  clear ha hb
  go_enter Try.func121, Try.ntmps121
  go_wp2_with fail
  refine (equalP_any xs ys _ _ _ HA.out HB.out).mono ?_
  rintro e w1 ⟨rfl, hb1⟩
  have H1 := Lib.hid hb1
  clear hb1
  go_wp2
  go_ret
  exact ⟨rfl, H1.out⟩
end Go.Proofs.Ytfgmbgdbnjpclaa
end

section
namespace Go.Proofs.Ytfgmbgdbnjpclaa
open Go.RowKit
set_option linter.unusedVariables false

set_option maxRecDepth 100000 in
set_option maxHeartbeats 1000000 in
theorem equalFuncInt_any (fv : FuncId) (bd : Array Value) (p : (List Int) → (List Int) → Bool) (xs ys : List (List Int)) (v u : Value) (w : World) (hv : (trSu xs).rd w v) (hu : (trSu ys).rd w u) (hk : (trSu xs).ok) (hk2 : (trSu ys).ok)
    (ev : ∀ args w, (callFunc fv args).run Try.prog w = .ok (.enter fv args) w) (hp : Tests2 trI fv bd w p) :
    Calls Try.prog 122 #[v, u, .func (.func fv) #[] bd] w fun e w' => e = .returned (.bool (eqL p xs ys)) ∧ Below w.heap.size w w' := by
  obtain ⟨hlGA, A, c, rfl, gaGA⟩ := rdIntSS_t hv
  have GA := Lib.hid gaGA
  clear gaGA hv
  obtain ⟨hlGB, B, c2, rfl, gaGB⟩ := rdIntSS_t hu
  have GB := Lib.hid gaGB
  clear gaGB hu
  have HK := Lib.hid (okL_flat (f := cellsI1) hk)
  have HK2 := Lib.hid (okL_flat (f := cellsI1) hk2)
  have HP := Lib.hid hp
  clear hk hk2 hp
  generalize hres : eqL p xs ys = res
  have RES := Lib.hid hres
  clear hres
  by_cases hne : xs.length = ys.length
  case neg =>
    have HF := Lib.hid (eqL_len (p := p) hne)
    have hne' : ((xs.length : Int) != (ys.length : Int)) = true := by simp; omega
    clear hne
    go_enter Try.func122, Try.ntmps122
    go_wp2
    go_ret
    exact ⟨ret_boo (by rw [← RES.out, HF.out]), Below.refl _ _⟩
  have hne' : ((xs.length : Int) != (ys.length : Int)) = false := by simp; omega
  have HL := Lib.hid hne
  clear hne
  go_enter Try.func122, Try.ntmps122
  go_wp2
  go_loopw [17] (fun i wr => ∃ k : Nat, k ≤ xs.length ∧ i = .int .i64 k ∧ Below w.heap.size w wr ∧ ∀ j, (h1 : j < xs.length) → (h2 : j < ys.length) → j < k → p xs[j] ys[j] = true) (fun i _ => xs.length - (intOf i).toNat)
  case atStart => exact ⟨0, Nat.zero_le _, rfl, Below.refl _ _, fun j _ _ h => absurd h (by omega)⟩
  case round =>
    obtain ⟨k, hkl, rfl, hbel, hall⟩ := hrel
    by_cases hlt : k < xs.length
    · have hlt' : (k : Int) < (xs.length : Int) := by omega
      have hlt2 : k < ys.length := by have := HL.out; omega
      have hlt2' : (k : Int) < (ys.length : Int) := by omega
      have hz := hbel.size
      obtain ⟨b1, o1, rfl, hb1, hc_x⟩ := GA.out k hlt
      obtain ⟨A0, ac0, gx0, rx0⟩ := hc_x k hlt
      have hx0 := (hbel.cell (p := ⟨b1, o1 + k, none⟩) hb1).trans gx0
      have HM := Lib.hid (Tr.rd_below hbel (Nat.le_refl _) _ _ rx0)
      clear hc_x gx0 rx0
      obtain ⟨b2, o2, rfl, hb2, hc_y⟩ := GB.out k hlt2
      obtain ⟨B0, bc0, gy0, ry0⟩ := hc_y k hlt2
      have hy0 := (hbel.cell (p := ⟨b2, o2 + k, none⟩) hb2).trans gy0
      have HN := Lib.hid (Tr.rd_below hbel (Nat.le_refl _) _ _ ry0)
      clear hc_y gy0 ry0
      have hb2w : b2 < wr.heap.size := by omega
      have HKK := Lib.hid (HK.out _ (List.getElem_mem hlt))
      have HO := Lib.hid (show (trI xs[k]).ok from HKK.out.1)
      clear HKK
      have HKK := Lib.hid (HK2.out _ (List.getElem_mem hlt2))
      have HO2 := Lib.hid (show (trI ys[k]).ok from HKK.out.1)
      clear HKK
      have HB := Lib.hid hbel
      clear hbel
      rcases hok : p xs[k] ys[k] with _ | _
      · have HN_ := Lib.hid (eqL_no hlt hlt2 hok)
        have HOK := Lib.hid hok
        clear hok hall
        generalize xs[k] = m at hx0 HM HOK HO
        generalize ys[k] = n at hy0 HN HOK HO2
        go_wp2_with fail
        refine (HP.out m n _ _ _ (HB.out.trans ((Below.refl _ _).mono HB.out.size)) HO.out HO2.out HM.out HN.out).mono ?_
        rintro e w1 ⟨rfl, hb1⟩
        rw [HOK.out]
        have HE := Lib.hid (HB.out.trans ((hb1).mono HB.out.size))
        clear hb1
        go_wp2
        go_ret
        exact ⟨ret_boo (by rw [← RES.out, HN_.out]), HE.out⟩
      · have STEP := Lib.hid (step_eqL hlt hlt2 hall hok)
        have HOK := Lib.hid hok
        clear hok hall
        generalize xs[k] = m at hx0 HM HOK HO
        generalize ys[k] = n at hy0 HN HOK HO2
        go_wp2_with fail
        refine (HP.out m n _ _ _ (HB.out.trans ((Below.refl _ _).mono HB.out.size)) HO.out HO2.out HM.out HN.out).mono ?_
        rintro e w1 ⟨rfl, hb1⟩
        rw [HOK.out]
        have HE := Lib.hid (HB.out.trans ((hb1).mono HB.out.size))
        clear hb1
        go_wp2
        go_roundw
        case rel => exact ⟨k + 1, by omega, by go_num, HE.out, STEP.out⟩
        case measure => simp [intOf]; omega
    · have hge : ¬ (k : Int) < (xs.length : Int) := by omega
      have HY := Lib.hid (eqL_yes HL.out hlt hall)
      have HB := Lib.hid hbel
      clear hall hbel
      go_wp2
      go_ret
      exact ⟨ret_boo (by rw [← RES.out, HY.out]), HB.out⟩

set_option maxRecDepth 100000 in
set_option maxHeartbeats 1000000 in
theorem equalFuncActivity_any (fv : FuncId) (bd : Array Value) (p : Ac → Ac → Bool) (xs ys : List Ac) (v u : Value) (w : World) (hv : (trAs xs).rd w v) (hu : (trAs ys).rd w u) (hk : (trAs xs).ok) (hk2 : (trAs ys).ok)
    (ev : ∀ args w, (callFunc fv args).run Try.prog w = .ok (.enter fv args) w) (hp : Tests2 trA fv bd w p) :
    Calls Try.prog 87 #[v, u, .func (.func fv) #[] bd] w fun e w' => e = .returned (.bool (eqL p xs ys)) ∧ Below w.heap.size w w' := by
  obtain ⟨hlGA, A, c, rfl, gaGA⟩ := rdActivityS_t hv
  have GA := Lib.hid gaGA
  clear gaGA hv
  obtain ⟨hlGB, B, c2, rfl, gaGB⟩ := rdActivityS_t hu
  have GB := Lib.hid gaGB
  clear gaGB hu
  have HK := Lib.hid (okL_flat (f := cellsA) hk)
  have HK2 := Lib.hid (okL_flat (f := cellsA) hk2)
  have HP := Lib.hid hp
  clear hk hk2 hp
  generalize hres : eqL p xs ys = res
  have RES := Lib.hid hres
  clear hres
  by_cases hne : xs.length = ys.length
  case neg =>
    have HF := Lib.hid (eqL_len (p := p) hne)
    have hne' : ((xs.length : Int) != (ys.length : Int)) = true := by simp; omega
    clear hne
    go_enter Try.func87, Try.ntmps87
    go_wp2
    go_ret
    exact ⟨ret_boo (by rw [← RES.out, HF.out]), Below.refl _ _⟩
  have hne' : ((xs.length : Int) != (ys.length : Int)) = false := by simp; omega
  have HL := Lib.hid hne
  clear hne
  go_enter Try.func87, Try.ntmps87
  go_wp2
  go_loopw [17] (fun i wr => ∃ k : Nat, k ≤ xs.length ∧ i = .int .i64 k ∧ Below w.heap.size w wr ∧ ∀ j, (h1 : j < xs.length) → (h2 : j < ys.length) → j < k → p xs[j] ys[j] = true) (fun i _ => xs.length - (intOf i).toNat)
  case atStart => exact ⟨0, Nat.zero_le _, rfl, Below.refl _ _, fun j _ _ h => absurd h (by omega)⟩
  case round =>
    obtain ⟨k, hkl, rfl, hbel, hall⟩ := hrel
    by_cases hlt : k < xs.length
    · have hlt' : (k : Int) < (xs.length : Int) := by omega
      have hlt2 : k < ys.length := by have := HL.out; omega
      have hlt2' : (k : Int) < (ys.length : Int) := by omega
      have hz := hbel.size
      obtain ⟨b1, o1, rfl, hb1, hc_x⟩ := GA.out k hlt
      obtain ⟨A2, ac2, gx0, gx1, gx2, rx2⟩ := hc_x k hlt
      have hx0 := (hbel.cell (p := ⟨b1, o1 + k * 3, none⟩) hb1).trans gx0
      have hx1 := (hbel.cell (p := ⟨b1, o1 + k * 3 + 1, none⟩) hb1).trans gx1
      have hx2 := (hbel.cell (p := ⟨b1, o1 + k * 3 + 2, none⟩) hb1).trans gx2
      have HM := Lib.hid (mk_rdActivity_t (w := wr) (d := xs[k]) (Tr.rd_below hbel (Nat.le_refl _) _ _ rx2))
      clear hc_x gx0 gx1 gx2 rx2
      obtain ⟨b2, o2, rfl, hb2, hc_y⟩ := GB.out k hlt2
      obtain ⟨B2, bc2, gy0, gy1, gy2, ry2⟩ := hc_y k hlt2
      have hy0 := (hbel.cell (p := ⟨b2, o2 + k * 3, none⟩) hb2).trans gy0
      have hy1 := (hbel.cell (p := ⟨b2, o2 + k * 3 + 1, none⟩) hb2).trans gy1
      have hy2 := (hbel.cell (p := ⟨b2, o2 + k * 3 + 2, none⟩) hb2).trans gy2
      have HN := Lib.hid (mk_rdActivity_t (w := wr) (d := ys[k]) (Tr.rd_below hbel (Nat.le_refl _) _ _ ry2))
      clear hc_y gy0 gy1 gy2 ry2
      have hb2w : b2 < wr.heap.size := by omega
      have HKK := Lib.hid (HK.out _ (List.getElem_mem hlt))
      have HO := Lib.hid (show (trA xs[k]).ok from HKK.out)
      clear HKK
      have HKK := Lib.hid (HK2.out _ (List.getElem_mem hlt2))
      have HO2 := Lib.hid (show (trA ys[k]).ok from HKK.out)
      clear HKK
      have HB := Lib.hid hbel
      clear hbel
      rcases hok : p xs[k] ys[k] with _ | _
      · have HN_ := Lib.hid (eqL_no hlt hlt2 hok)
        have HOK := Lib.hid hok
        clear hok hall
        generalize xs[k] = m at hx0 hx1 hx2 HM HOK HO
        generalize ys[k] = n at hy0 hy1 hy2 HN HOK HO2
        go_wp2_with fail
        refine (HP.out m n _ _ _ (HB.out.trans ((((Below.refl _ _).alloc (Nat.le_refl _) _).alloc (by simp) _).mono HB.out.size)) HO.out HO2.out (Tr.rd_below (((Below.refl _ _).alloc (Nat.le_refl _) _).alloc (by simp) _) (Nat.le_refl _) _ _ HM.out) (Tr.rd_below (((Below.refl _ _).alloc (Nat.le_refl _) _).alloc (by simp) _) (Nat.le_refl _) _ _ HN.out)).mono ?_
        rintro e w1 ⟨rfl, hb1⟩
        rw [HOK.out]
        have HE := Lib.hid (HB.out.trans (((((Below.refl _ _).alloc (Nat.le_refl _) _).alloc (by simp) _).trans (hb1.mono (by simp; omega))).mono HB.out.size))
        clear hb1
        go_wp2
        go_ret
        exact ⟨ret_boo (by rw [← RES.out, HN_.out]), HE.out⟩
      · have STEP := Lib.hid (step_eqL hlt hlt2 hall hok)
        have HOK := Lib.hid hok
        clear hok hall
        generalize xs[k] = m at hx0 hx1 hx2 HM HOK HO
        generalize ys[k] = n at hy0 hy1 hy2 HN HOK HO2
        go_wp2_with fail
        refine (HP.out m n _ _ _ (HB.out.trans ((((Below.refl _ _).alloc (Nat.le_refl _) _).alloc (by simp) _).mono HB.out.size)) HO.out HO2.out (Tr.rd_below (((Below.refl _ _).alloc (Nat.le_refl _) _).alloc (by simp) _) (Nat.le_refl _) _ _ HM.out) (Tr.rd_below (((Below.refl _ _).alloc (Nat.le_refl _) _).alloc (by simp) _) (Nat.le_refl _) _ _ HN.out)).mono ?_
        rintro e w1 ⟨rfl, hb1⟩
        rw [HOK.out]
        have HE := Lib.hid (HB.out.trans (((((Below.refl _ _).alloc (Nat.le_refl _) _).alloc (by simp) _).trans (hb1.mono (by simp; omega))).mono HB.out.size))
        clear hb1
        go_wp2
        go_roundw
        case rel => exact ⟨k + 1, by omega, by go_num, HE.out, STEP.out⟩
        case measure => simp [intOf]; omega
    · have hge : ¬ (k : Int) < (xs.length : Int) := by omega
      have HY := Lib.hid (eqL_yes HL.out hlt hall)
      have HB := Lib.hid hbel
      clear hall hbel
      go_wp2
      go_ret
      exact ⟨ret_boo (by rw [← RES.out, HY.out]), HB.out⟩

set_option maxRecDepth 100000 in
set_option maxHeartbeats 1000000 in
theorem equalFuncResource_any (fv : FuncId) (bd : Array Value) (p : Rs → Rs → Bool) (xs ys : List Rs) (v u : Value) (w : World) (hv : (trRs xs).rd w v) (hu : (trRs ys).rd w u) (hk : (trRs xs).ok) (hk2 : (trRs ys).ok)
    (ev : ∀ args w, (callFunc fv args).run Try.prog w = .ok (.enter fv args) w) (hp : Tests2 trR fv bd w p) :
    Calls Try.prog 89 #[v, u, .func (.func fv) #[] bd] w fun e w' => e = .returned (.bool (eqL p xs ys)) ∧ Below w.heap.size w w' := by
  obtain ⟨hlGA, A, c, rfl, gaGA⟩ := rdResourceS_t hv
  have GA := Lib.hid gaGA
  clear gaGA hv
  obtain ⟨hlGB, B, c2, rfl, gaGB⟩ := rdResourceS_t hu
  have GB := Lib.hid gaGB
  clear gaGB hu
  have HK := Lib.hid (okL_flat (f := cellsR) hk)
  have HK2 := Lib.hid (okL_flat (f := cellsR) hk2)
  have HP := Lib.hid hp
  clear hk hk2 hp
  generalize hres : eqL p xs ys = res
  have RES := Lib.hid hres
  clear hres
  by_cases hne : xs.length = ys.length
  case neg =>
    have HF := Lib.hid (eqL_len (p := p) hne)
    have hne' : ((xs.length : Int) != (ys.length : Int)) = true := by simp; omega
    clear hne
    go_enter Try.func89, Try.ntmps89
    go_wp2
    go_ret
    exact ⟨ret_boo (by rw [← RES.out, HF.out]), Below.refl _ _⟩
  have hne' : ((xs.length : Int) != (ys.length : Int)) = false := by simp; omega
  have HL := Lib.hid hne
  clear hne
  go_enter Try.func89, Try.ntmps89
  go_wp2
  go_loopw [17] (fun i wr => ∃ k : Nat, k ≤ xs.length ∧ i = .int .i64 k ∧ Below w.heap.size w wr ∧ ∀ j, (h1 : j < xs.length) → (h2 : j < ys.length) → j < k → p xs[j] ys[j] = true) (fun i _ => xs.length - (intOf i).toNat)
  case atStart => exact ⟨0, Nat.zero_le _, rfl, Below.refl _ _, fun j _ _ h => absurd h (by omega)⟩
  case round =>
    obtain ⟨k, hkl, rfl, hbel, hall⟩ := hrel
    by_cases hlt : k < xs.length
    · have hlt' : (k : Int) < (xs.length : Int) := by omega
      have hlt2 : k < ys.length := by have := HL.out; omega
      have hlt2' : (k : Int) < (ys.length : Int) := by omega
      have hz := hbel.size
      obtain ⟨b1, o1, rfl, hb1, hc_x⟩ := GA.out k hlt
      obtain ⟨A0, ac0, A1, ac1, gx0, gx1, rx0, rx1⟩ := hc_x k hlt
      have hx0 := (hbel.cell (p := ⟨b1, o1 + k * 2, none⟩) hb1).trans gx0
      have hx1 := (hbel.cell (p := ⟨b1, o1 + k * 2 + 1, none⟩) hb1).trans gx1
      have HM := Lib.hid (mk_rdResource_t (w := wr) (d := xs[k]) (Tr.rd_below hbel (Nat.le_refl _) _ _ rx0) (Tr.rd_below hbel (Nat.le_refl _) _ _ rx1))
      clear hc_x gx0 gx1 rx0 rx1
      obtain ⟨b2, o2, rfl, hb2, hc_y⟩ := GB.out k hlt2
      obtain ⟨B0, bc0, B1, bc1, gy0, gy1, ry0, ry1⟩ := hc_y k hlt2
      have hy0 := (hbel.cell (p := ⟨b2, o2 + k * 2, none⟩) hb2).trans gy0
      have hy1 := (hbel.cell (p := ⟨b2, o2 + k * 2 + 1, none⟩) hb2).trans gy1
      have HN := Lib.hid (mk_rdResource_t (w := wr) (d := ys[k]) (Tr.rd_below hbel (Nat.le_refl _) _ _ ry0) (Tr.rd_below hbel (Nat.le_refl _) _ _ ry1))
      clear hc_y gy0 gy1 ry0 ry1
      have hb2w : b2 < wr.heap.size := by omega
      have HKK := Lib.hid (HK.out _ (List.getElem_mem hlt))
      have HO := Lib.hid (show (trR xs[k]).ok from HKK.out)
      clear HKK
      have HKK := Lib.hid (HK2.out _ (List.getElem_mem hlt2))
      have HO2 := Lib.hid (show (trR ys[k]).ok from HKK.out)
      clear HKK
      have HB := Lib.hid hbel
      clear hbel
      rcases hok : p xs[k] ys[k] with _ | _
      · have HN_ := Lib.hid (eqL_no hlt hlt2 hok)
        have HOK := Lib.hid hok
        clear hok hall
        generalize xs[k] = m at hx0 hx1 HM HOK HO
        generalize ys[k] = n at hy0 hy1 HN HOK HO2
        go_wp2_with fail
        refine (HP.out m n _ _ _ (HB.out.trans ((((Below.refl _ _).alloc (Nat.le_refl _) _).alloc (by simp) _).mono HB.out.size)) HO.out HO2.out (Tr.rd_below (((Below.refl _ _).alloc (Nat.le_refl _) _).alloc (by simp) _) (Nat.le_refl _) _ _ HM.out) (Tr.rd_below (((Below.refl _ _).alloc (Nat.le_refl _) _).alloc (by simp) _) (Nat.le_refl _) _ _ HN.out)).mono ?_
        rintro e w1 ⟨rfl, hb1⟩
        rw [HOK.out]
        have HE := Lib.hid (HB.out.trans (((((Below.refl _ _).alloc (Nat.le_refl _) _).alloc (by simp) _).trans (hb1.mono (by simp; omega))).mono HB.out.size))
        clear hb1
        go_wp2
        go_ret
        exact ⟨ret_boo (by rw [← RES.out, HN_.out]), HE.out⟩
      · have STEP := Lib.hid (step_eqL hlt hlt2 hall hok)
        have HOK := Lib.hid hok
        clear hok hall
        generalize xs[k] = m at hx0 hx1 HM HOK HO
        generalize ys[k] = n at hy0 hy1 HN HOK HO2
        go_wp2_with fail
        refine (HP.out m n _ _ _ (HB.out.trans ((((Below.refl _ _).alloc (Nat.le_refl _) _).alloc (by simp) _).mono HB.out.size)) HO.out HO2.out (Tr.rd_below (((Below.refl _ _).alloc (Nat.le_refl _) _).alloc (by simp) _) (Nat.le_refl _) _ _ HM.out) (Tr.rd_below (((Below.refl _ _).alloc (Nat.le_refl _) _).alloc (by simp) _) (Nat.le_refl _) _ _ HN.out)).mono ?_
        rintro e w1 ⟨rfl, hb1⟩
        rw [HOK.out]
        have HE := Lib.hid (HB.out.trans (((((Below.refl _ _).alloc (Nat.le_refl _) _).alloc (by simp) _).trans (hb1.mono (by simp; omega))).mono HB.out.size))
        clear hb1
        go_wp2
        go_roundw
        case rel => exact ⟨k + 1, by omega, by go_num, HE.out, STEP.out⟩
        case measure => simp [intOf]; omega
    · have hge : ¬ (k : Int) < (xs.length : Int) := by omega
      have HY := Lib.hid (eqL_yes HL.out hlt hall)
      have HB := Lib.hid hbel
      clear hall hbel
      go_wp2
      go_ret
      exact ⟨ret_boo (by rw [← RES.out, HY.out]), HB.out⟩
end Go.Proofs.Ytfgmbgdbnjpclaa
end

section
namespace Go.Proofs.Ytfgmbgdbnjpclaa
open Go.RowKit Go.Shelf
set_option linter.unusedVariables false

theorem lk_ext {a b : Lk} : a = b ↔ a.fr = b.fr ∧ a.to = b.to ∧ a.fe = b.fe ∧ a.lag = b.lag := by cases a; cases b; simp
theorem rs_ext {a b : Rs} : a = b ↔ a.st = b.st ∧ a.su = b.su := by cases a; cases b; simp
instance instDecLk : DecidableEq Lk := fun m n => decidable_of_iff _ (lk_ext (a := m) (b := n)).symm
instance instDecRs : DecidableEq Rs := fun m n => decidable_of_iff _ (rs_ext (a := m) (b := n)).symm
def pjEq (p q : Pj) : Bool := decide (p.dl = q.dl) && (decide (p.acts = q.acts) && (decide (p.lks = q.lks) && (decide (p.ress = q.ress) && decide (p.stk = q.stk))))
theorem eq_preG {α : Type} {xs ys : List α} {k : Nat} (hl : xs.length = ys.length) (hk : ¬ k < xs.length) (h : ∀ j, (h1 : j < xs.length) → (h2 : j < ys.length) → j < k → xs[j] = ys[j]) : xs = ys :=
  List.ext_getElem hl fun j h1 h2 => h j h1 h2 (by omega)
theorem eq_stepG {α : Type} {xs ys : List α} {k : Nat} (h1 : k < xs.length) (h2 : k < ys.length) (hall : ∀ j, (h1 : j < xs.length) → (h2 : j < ys.length) → j < k → xs[j] = ys[j]) (he : xs[k] = ys[k]) : ∀ j, (h1 : j < xs.length) → (h2 : j < ys.length) → j < k + 1 → xs[j] = ys[j] := fun j h1 h2 h => by
  by_cases e : j = k
  · subst e; exact he
  · exact hall j h1 h2 (by omega)
theorem eq_noG {α : Type} [DecidableEq α] {xs ys : List α} {k : Nat} (h1 : k < xs.length) (h2 : k < ys.length) (he : ¬ xs[k] = ys[k]) : decide (xs = ys) = false := by
  rw [decide_eq_false_iff_not]; intro e; subst e; exact he rfl
theorem eq_lenG {α : Type} [DecidableEq α] {xs ys : List α} (h : ¬ xs.length = ys.length) : decide (xs = ys) = false := by
  rw [decide_eq_false_iff_not]; intro e; exact h (by rw [e])

set_option maxRecDepth 100000 in
set_option maxHeartbeats 2000000 in
theorem equalLinks_any (xs ys : List Lk) (va vb : Value) (w : World) (ha : (trLs xs).rd w va) (hb : (trLs ys).rd w vb) :
    Calls Try.prog 88 #[va, vb] w fun e w' => e = .returned (.bool (decide (xs = ys))) ∧ Below w.heap.size w w' := by
  obtain ⟨hla, A, ca, rfl, ga⟩ := rdLinkS_t ha
  obtain ⟨hlb, B, cb, rfl, gb⟩ := rdLinkS_t hb
  clear ha hb
  have GA := Lib.hid ga
  have GB := Lib.hid gb
  clear ga gb
  by_cases hne : xs.length = ys.length
  case neg =>
    have HF := Lib.hid (eq_lenG hne)
    have hne' : ((xs.length : Int) != (ys.length : Int)) = true := by simp; omega
    clear hne
    go_enter Try.func88, Try.ntmps88
    go_wp2
    go_ret
    exact ⟨by rw [HF.out]; rfl, Below.refl _ _⟩
  have hne' : ((xs.length : Int) != (ys.length : Int)) = false := by simp; omega
  have HL := Lib.hid hne
  clear hne
  go_enter Try.func88, Try.ntmps88
  go_wp2
  go_loopw [13] (fun i wr => ∃ k n : Nat, k ≤ xs.length ∧ i = .int .i64 k ∧ wr = w.drewN n ∧ ∀ j, (h1 : j < xs.length) → (h2 : j < ys.length) → j < k → xs[j] = ys[j]) (fun i _ => xs.length - (intOf i).toNat)
  case atStart => exact ⟨0, 0, Nat.zero_le _, rfl, rfl, fun j _ _ h => absurd h (by omega)⟩
  case round =>
    obtain ⟨k, n, hk, rfl, rfl, hall⟩ := hrel
    by_cases hlt : k < xs.length
    · have hlt' : (k : Int) < (xs.length : Int) := by omega
      have hlt2 : k < ys.length := by have := HL.out; omega
      have hlt2' : (k : Int) < (ys.length : Int) := by omega
      obtain ⟨b1, o1, rfl, hb1, hc1⟩ := GA.out k hlt
      obtain ⟨b2, o2, rfl, hb2, hc2⟩ := GB.out k hlt2
      obtain ⟨cx0, cx1, cx2, cx3⟩ := hc1 k hlt
      obtain ⟨cy0, cy1, cy2, cy3⟩ := hc2 k hlt2
      clear hc1 hc2
      by_cases he : xs[k] = ys[k]
      · have STEP := Lib.hid (eq_stepG hlt hlt2 hall he)
        clear hall
        rw [he] at cx0 cx1 cx2 cx3
        clear he
        generalize ys[k] = y at cx0 cx1 cx2 cx3 cy0 cy1 cy2 cy3
        obtain ⟨y0, y1, y2, y3⟩ := y
        go_wp2
        go_quiet (fail)
        go_wp2
        go_roundw
        case rel => exact ⟨k + 1, n + nq, by omega, by go_num, rfl, STEP.out⟩
        case measure => simp [intOf]; omega
      · have HF := Lib.hid (eq_noG hlt hlt2 he)
        clear hall
        generalize xs[k] = x at cx0 cx1 cx2 cx3 he
        generalize ys[k] = y at cy0 cy1 cy2 cy3 he
        obtain ⟨x0, x1, x2, x3⟩ := x
        obtain ⟨y0, y1, y2, y3⟩ := y
        by_cases h0 : x0 = y0
        case neg =>
          have h1' : (x0 == y0) = false := by simpa using h0
          have h1'' : (x0 != y0) = true := by simpa using h0
          clear he h0
          go_wp2
          go_quiet (fail)
          go_wp2
          go_ret
          exact ⟨by rw [HF.out]; rfl, by first | exact below_drewN' w _ | (rw [World.drewN_drewN]; exact below_drewN' w _)⟩
        subst h0
        by_cases h1 : x1 = y1
        case neg =>
          have h1' : (x1 == y1) = false := by simpa using h1
          have h1'' : (x1 != y1) = true := by simpa using h1
          clear he h1
          go_wp2
          go_quiet (fail)
          go_wp2
          go_ret
          exact ⟨by rw [HF.out]; rfl, by first | exact below_drewN' w _ | (rw [World.drewN_drewN]; exact below_drewN' w _)⟩
        subst h1
        by_cases h2 : x2 = y2
        case neg =>
          have h1' : (x2 == y2) = false := by simpa using h2
          have h1'' : (x2 != y2) = true := by simpa using h2
          clear he h2
          go_wp2
          go_quiet (fail)
          go_wp2
          go_ret
          exact ⟨by rw [HF.out]; rfl, by first | exact below_drewN' w _ | (rw [World.drewN_drewN]; exact below_drewN' w _)⟩
        subst h2
        have h3 : x3 ≠ y3 := fun e => he (by rw [e])
        have h1' : (x3 == y3) = false := by simpa using h3
        have h1'' : (x3 != y3) = true := by simpa using h3
        clear he h3
        go_wp2
        go_quiet (fail)
        go_wp2
        go_ret
        exact ⟨by rw [HF.out]; rfl, by first | exact below_drewN' w _ | (rw [World.drewN_drewN]; exact below_drewN' w _)⟩
    · have hge : ¬ (k : Int) < (xs.length : Int) := by omega
      have HF := Lib.hid (decide_eq_true (eq_preG HL.out hlt hall))
      clear hall
      go_wp2
      go_ret
      exact ⟨by rw [HF.out]; rfl, by first | exact below_drewN' w _ | (rw [World.drewN_drewN]; exact below_drewN' w _)⟩

theorem enters_sliceEq : ∀ args w, (callFunc 91 args).run Try.prog w = .ok (.enter 91 args) w := enters_of Try.func91 (by kernel_rfl) rfl
theorem enters_ActEq : ∀ args w, (callFunc 41 args).run Try.prog w = .ok (.enter 41 args) w := enters_of Try.func41 (by kernel_rfl) rfl
theorem enters_ResEq : ∀ args w, (callFunc 90 args).run Try.prog w = .ok (.enter 90 args) w := enters_of Try.func90 (by kernel_rfl) rfl

set_option maxRecDepth 100000 in
set_option maxHeartbeats 1000000 in
theorem resourcesEqual_any (r s : Rs) (v u : Value) (w : World) (hv : (trR r).rd w v) (hu : (trR s).rd w u) (hk : (trR r).ok) (hk2 : (trR s).ok) :
    Calls Try.prog 90 #[v, u] w fun e w' => e = .returned (.bool (decide (r = s))) ∧ Below w.heap.size w w' := by
  obtain ⟨A0, a0, A1, a1, rfl, r0, r1⟩ := rdResource_t hv
  obtain ⟨B0, b0, B1, b1, rfl, s0, s1⟩ := rdResource_t hu
  have R0 := Lib.hid r0
  have R1 := Lib.hid r1
  have Q0 := Lib.hid s0
  have Q1 := Lib.hid s1
  have K1 := Lib.hid hk.2.1
  have K2 := Lib.hid hk2.2.1
  clear hv hu r0 r1 s0 s1 hk hk2
  generalize hres : decide (r = s) = res
  have RES := Lib.hid (show res = (decide (r.st = s.st) && decide (r.su = s.su)) by rw [← hres, Bool.eq_iff_iff]; simp [rs_ext])
  clear hres
  have S0 := Lib.hid (((Sn.start w).box 30 [.slice A0 r.st.length a0, .slice A1 r.su.length a1]).box 30 [.slice B0 s.st.length b0, .slice B1 s.su.length b1])
  simp only [World.size_alloc] at S0
  go_enter Try.func90, Try.ntmps90
  go_wp2_with fail
  refine (implEqualP_any r.st s.st _ _ _ (rdP_st (by exact S0.out.old R0.out)) (rdP_st (by exact S0.out.old Q0.out))).mono ?_
  rintro e w1 ⟨rfl, b⟩
  have S1 := Lib.hid (S0.out.go b)
  clear S0 b
  rcases h1 : decide (r.st = s.st) with _ | _
  · have H1 := Lib.hid h1
    clear h1
    go_wp2
    go_ret
    exact ⟨ret_boo (by rw [RES.out, H1.out]; rfl), S1.out.1⟩
  have H1 := Lib.hid h1
  clear h1
  obtain ⟨e0, e1, ef⟩ := (S1.out.bk 1 rfl).c2
  obtain ⟨g0, g1, gf⟩ := (S1.out.bk 0 rfl).c2
  go_wp2_with fail
  clear e0 e1 ef g0 g1 gf
  refine (equalFuncInt_any 91 #[] (fun x y => eqB x y) r.su s.su _ _ _ (by exact S1.out.old R1.out) (by exact S1.out.old Q1.out) K1.out K2.out enters_sliceEq (fun x y v u w _ _ _ hx hy => slicesEqual_any x y v u w (rd_flat hx) (rd_flat hy))).mono ?_
  rintro e w2 ⟨rfl, b⟩
  have S2 := Lib.hid (S1.out.go b)
  clear S1 b
  rw [eqL_dec (p := fun x y => eqB x y) (fun x y => rfl)]
  go_wp2
  go_ret
  exact ⟨ret_boo (by rw [RES.out, H1.out]; rfl), S2.out.1⟩

set_option maxRecDepth 100000 in
set_option maxHeartbeats 2000000 in
theorem implProjectEqual_any (p q : Pj) (v u : Value) (w : World) (hv : (trPj p).rd w v) (hu : (trPj q).rd w u) (hk : (trPj p).ok) (hk2 : (trPj q).ok) :
    Calls Try.prog 35 #[v, u] w fun e w' => e = .returned (.bool (pjEq p q)) ∧ Below w.heap.size w w' := by
  obtain ⟨A1, c1, A2, c2, A3, c3, A4, c4, rfl, r1, r2, r3, r4⟩ := rdProject_t hv
  obtain ⟨B1, d1, B2, d2, B3, d3, B4, d4, rfl, s1, s2, s3, s4⟩ := rdProject_t hu
  have R1 := Lib.hid r1
  have Q1 := Lib.hid s1
  have R2 := Lib.hid r2
  have Q2 := Lib.hid s2
  have R3 := Lib.hid r3
  have Q3 := Lib.hid s3
  have R4 := Lib.hid r4
  have Q4 := Lib.hid s4
  have K1 := Lib.hid hk.2.1
  have L1 := Lib.hid hk2.2.1
  have K3 := Lib.hid hk.2.2.2.1
  have L3 := Lib.hid hk2.2.2.2.1
  clear hv hu r1 r2 r3 r4 s1 s2 s3 s4 hk hk2
  generalize hres : pjEq p q = res
  have RES := Lib.hid hres
  clear hres
  have S0 := Lib.hid (((Sn.start w).box 46 [.int .i64 p.dl, .slice A1 p.acts.length c1, .slice A2 p.lks.length c2, .slice A3 p.ress.length c3, .slice A4 p.stk.length c4]).box 46 [.int .i64 q.dl, .slice B1 q.acts.length d1, .slice B2 q.lks.length d2, .slice B3 q.ress.length d3, .slice B4 q.stk.length d4])
  simp only [World.size_alloc] at S0
  by_cases h0 : p.dl = q.dl
  case neg =>
    have H0 := Lib.hid (decide_eq_false h0)
    have h0' : (p.dl == q.dl) = false := by simpa using h0
    clear h0
    go_enter Try.func35, Try.ntmps35
    go_wp2
    go_ret
    exact ⟨ret_boo (by rw [← RES.out, pjEq, H0.out]; rfl), S0.out.1⟩
  have H0 := Lib.hid (decide_eq_true h0)
  have h0' : (p.dl == q.dl) = true := by simpa using h0
  clear h0
  go_enter Try.func35, Try.ntmps35
  go_wp2_with fail
  refine (equalFuncActivity_any 41 #[] (fun x y => decide (x = y)) p.acts q.acts _ _ _ (by exact S0.out.old R1.out) (by exact S0.out.old Q1.out) K1.out L1.out enters_ActEq (fun x y v u w _ _ _ hx hy => implActivityEqual_any x y v u w hx hy)).mono ?_
  rintro e w1 ⟨rfl, b⟩
  have S1 := Lib.hid (S0.out.go b)
  clear S0 b
  rw [eqL_dec (fun x y => rfl)]
  rcases h1 : decide (p.acts = q.acts) with _ | _
  · have H1 := Lib.hid h1
    clear h1
    go_wp2
    go_ret
    exact ⟨ret_boo (by rw [← RES.out, pjEq, H0.out, H1.out]; rfl), S1.out.1⟩
  have H1 := Lib.hid h1
  clear h1
  obtain ⟨e0, e1, e2, e3, e4, ef⟩ := (S1.out.bk 1 rfl).c5
  obtain ⟨g0, g1, g2, g3, g4, gf⟩ := (S1.out.bk 0 rfl).c5
  go_wp2_with fail
  clear e0 e1 e2 e3 e4 ef g0 g1 g2 g3 g4 gf
  refine (equalLinks_any p.lks q.lks _ _ _ (by exact S1.out.old R2.out) (by exact S1.out.old Q2.out)).mono ?_
  rintro e w2 ⟨rfl, b⟩
  have S2 := Lib.hid (S1.out.go b)
  clear S1 b
  rcases h2 : decide (p.lks = q.lks) with _ | _
  · have H2 := Lib.hid h2
    clear h2
    go_wp2
    go_ret
    exact ⟨ret_boo (by rw [← RES.out, pjEq, H0.out, H1.out, H2.out]; rfl), S2.out.1⟩
  have H2 := Lib.hid h2
  clear h2
  obtain ⟨e0, e1, e2, e3, e4, ef⟩ := (S2.out.bk 1 rfl).c5
  obtain ⟨g0, g1, g2, g3, g4, gf⟩ := (S2.out.bk 0 rfl).c5
  go_wp2_with fail
  clear e0 e1 e2 e3 e4 ef g0 g1 g2 g3 g4 gf
  refine (equalFuncResource_any 90 #[] (fun x y => decide (x = y)) p.ress q.ress _ _ _ (by exact S2.out.old R3.out) (by exact S2.out.old Q3.out) K3.out L3.out enters_ResEq (fun x y v u w _ kx ky hx hy => resourcesEqual_any x y v u w hx hy kx ky)).mono ?_
  rintro e w3 ⟨rfl, b⟩
  have S3 := Lib.hid (S2.out.go b)
  clear S2 b
  rw [eqL_dec (fun x y => rfl)]
  rcases h3 : decide (p.ress = q.ress) with _ | _
  · have H3 := Lib.hid h3
    clear h3
    go_wp2
    go_ret
    exact ⟨ret_boo (by rw [← RES.out, pjEq, H0.out, H1.out, H2.out, H3.out]; rfl), S3.out.1⟩
  have H3 := Lib.hid h3
  clear h3
  obtain ⟨e0, e1, e2, e3, e4, ef⟩ := (S3.out.bk 1 rfl).c5
  obtain ⟨g0, g1, g2, g3, g4, gf⟩ := (S3.out.bk 0 rfl).c5
  go_wp2_with fail
  clear e0 e1 e2 e3 e4 ef g0 g1 g2 g3 g4 gf
  refine (slicesEqual_any p.stk q.stk _ _ _ (rd_flat (S3.out.old R4.out)) (rd_flat (S3.out.old Q4.out))).mono ?_
  rintro e w4 ⟨rfl, b⟩
  have S4 := Lib.hid (S3.out.go b)
  clear S3 b
  go_wp2
  go_ret
  exact ⟨ret_boo (by rw [← RES.out, pjEq, H0.out, H1.out, H2.out, H3.out]; rfl), S4.out.1⟩
end Go.Proofs.Ytfgmbgdbnjpclaa
end

section
namespace Go.Proofs.Ytfgmbgdbnjpclaa
open Go.RowKit Go.Shelf
set_option linter.unusedVariables false

set_option maxRecDepth 100000 in
set_option maxHeartbeats 8000000 in
theorem specProjectEqual_any (p q : Pj) (v u : Value) (w : World) (hv : (trPj p).rd w v) (hu : (trPj q).rd w u) :
    Calls Try.prog 34 #[v, u] w fun e w' => e = .returned (.bool (pjEq p q)) ∧ Below w.heap.size w w' := by
  obtain ⟨A1, c1, A2, c2, A3, c3, A4, c4, rfl, r1, r2, r3, r4⟩ := rdProject_t hv
  obtain ⟨B1, d1, B2, d2, B3, d3, B4, d4, rfl, s1, s2, s3, s4⟩ := rdProject_t hu
  have R1 := Lib.hid r1
  have Q1 := Lib.hid s1
  have R2 := Lib.hid r2
  have Q2 := Lib.hid s2
  have R3 := Lib.hid r3
  have Q3 := Lib.hid s3
  have R4 := Lib.hid r4
  have Q4 := Lib.hid s4

  obtain ⟨hG1, A1', c1', he, g⟩ := rdActivityS_t r1
  injection he with he hln he2
  subst he he2
  have G1 := Lib.hid g
  clear g hln
  obtain ⟨hK1, B1', d1', he, g⟩ := rdActivityS_t s1
  injection he with he hln he2
  subst he he2
  have K1 := Lib.hid g
  clear g hln
  obtain ⟨hG2, A2', c2', he, g⟩ := rdLinkS_t r2
  injection he with he hln he2
  subst he he2
  have G2 := Lib.hid g
  clear g hln
  obtain ⟨hK2, B2', d2', he, g⟩ := rdLinkS_t s2
  injection he with he hln he2
  subst he he2
  have K2 := Lib.hid g
  clear g hln
  obtain ⟨hG3, A3', c3', he, g⟩ := rdResourceS_t r3
  injection he with he hln he2
  subst he he2
  have G3 := Lib.hid g
  clear g hln
  obtain ⟨hK3, B3', d3', he, g⟩ := rdResourceS_t s3
  injection he with he hln he2
  subst he he2
  have K3 := Lib.hid g
  clear g hln
  clear hv hu r1 r2 r3 r4 s1 s2 s3 s4
  generalize hres : pjEq p q = res
  have RES := Lib.hid hres
  clear hres
  have S0 := Lib.hid (((Sn.start w).box 46 [.int .i64 p.dl, .slice A1 p.acts.length c1, .slice A2 p.lks.length c2, .slice A3 p.ress.length c3, .slice A4 p.stk.length c4]).box 46 [.int .i64 q.dl, .slice B1 q.acts.length d1, .slice B2 q.lks.length d2, .slice B3 q.ress.length d3, .slice B4 q.stk.length d4])
  simp only [World.size_alloc] at S0
  by_cases h0 : p.dl = q.dl
  case neg =>
    have H0 := Lib.hid (decide_eq_false h0)
    have h0' : (p.dl != q.dl) = true := by simpa using h0
    clear h0
    go_enter Try.func34, Try.ntmps34
    go_wp2
    go_ret
    exact ⟨ret_boo (by rw [← RES.out, pjEq, H0.out]; rfl), S0.out.1⟩
  have H0 := Lib.hid (decide_eq_true h0)
  have h0' : (p.dl != q.dl) = false := by simp [h0]
  clear h0
  by_cases l1 : p.acts.length = q.acts.length
  case neg =>
    have HF := Lib.hid (eq_lenG l1)
    have l1' : ((p.acts.length : Int) != (q.acts.length : Int)) = true := by simp; omega
    clear l1
    go_enter Try.func34, Try.ntmps34
    go_wp2
    go_ret
    exact ⟨ret_boo (by rw [← RES.out, pjEq, HF.out]; simp), S0.out.1⟩
  have l1' : ((p.acts.length : Int) != (q.acts.length : Int)) = false := by simp; omega
  have L1 := Lib.hid l1
  clear l1
  by_cases l2 : p.lks.length = q.lks.length
  case neg =>
    have HF := Lib.hid (eq_lenG l2)
    have l2' : ((p.lks.length : Int) != (q.lks.length : Int)) = true := by simp; omega
    clear l2
    go_enter Try.func34, Try.ntmps34
    go_wp2
    go_ret
    exact ⟨ret_boo (by rw [← RES.out, pjEq, HF.out]; simp), S0.out.1⟩
  have l2' : ((p.lks.length : Int) != (q.lks.length : Int)) = false := by simp; omega
  have L2 := Lib.hid l2
  clear l2
  by_cases l3 : p.ress.length = q.ress.length
  case neg =>
    have HF := Lib.hid (eq_lenG l3)
    have l3' : ((p.ress.length : Int) != (q.ress.length : Int)) = true := by simp; omega
    clear l3
    go_enter Try.func34, Try.ntmps34
    go_wp2
    go_ret
    exact ⟨ret_boo (by rw [← RES.out, pjEq, HF.out]; simp), S0.out.1⟩
  have l3' : ((p.ress.length : Int) != (q.ress.length : Int)) = false := by simp; omega
  have L3 := Lib.hid l3
  clear l3
  go_enter Try.func34, Try.ntmps34
  go_wp2_with fail
  refine (specEqual_any p.stk q.stk _ _ _ (rd_flat (S0.out.old R4.out)) (rd_flat (S0.out.old Q4.out))).mono ?_
  rintro e w1 ⟨rfl, b⟩
  have S1 := Lib.hid (S0.out.go b)
  clear S0 b
  rcases h4 : eqB p.stk q.stk with _ | _
  · have H4 := Lib.hid (show decide (p.stk = q.stk) = false from h4)
    clear h4
    go_wp2
    go_ret
    exact ⟨ret_boo (by rw [← RES.out, pjEq, H4.out]; simp), S1.out.1⟩
  have H4 := Lib.hid (show decide (p.stk = q.stk) = true from h4)
  clear h4
  obtain ⟨e0, e1, e2, e3, e4, ef⟩ := (S1.out.bk 1 rfl).c5
  obtain ⟨g0, g1, g2, g3, g4, gf⟩ := (S1.out.bk 0 rfl).c5
  go_wp2
  clear e0 e1 e2 e3 e4 ef g0 g1 g2 g3 g4 gf
  go_loopw [57] (fun i wr => ∃ k : Nat, k ≤ p.acts.length ∧ i = .int .i64 k ∧ Sn w wr [boxI (w.heap.size + 1) 46 [.int .i64 q.dl, .slice B1 q.acts.length d1, .slice B2 q.lks.length d2, .slice B3 q.ress.length d3, .slice B4 q.stk.length d4], boxI w.heap.size 46 [.int .i64 p.dl, .slice A1 p.acts.length c1, .slice A2 p.lks.length c2, .slice A3 p.ress.length c3, .slice A4 p.stk.length c4]] ∧ ∀ j, (h1 : j < p.acts.length) → (h2 : j < q.acts.length) → j < k → p.acts[j] = q.acts[j]) (fun i _ => p.acts.length - (intOf i).toNat)
  case atStart => exact ⟨0, Nat.zero_le _, rfl, S1.out, fun j _ _ h => absurd h (by omega)⟩
  case round =>
    obtain ⟨k, hkl, rfl, hS, hall⟩ := hrel
    have S2 := Lib.hid hS
    clear hS S1
    by_cases hlt : k < p.acts.length
    · have hlt' : (k : Int) < (p.acts.length : Int) := by omega
      have hlt2 : k < q.acts.length := by have := L1.out; omega
      have hlt2' : (k : Int) < (q.acts.length : Int) := by omega
      obtain ⟨b1, o1, rfl, hb1, hc1⟩ := G1.out k hlt
      obtain ⟨b2, o2, rfl, hb2, hc2⟩ := K1.out k hlt2
      obtain ⟨X2, x2_, gx0, gx1, gx2, rx2⟩ := hc1 k hlt
      obtain ⟨Y2, y2_, gy0, gy1, gy2, ry2⟩ := hc2 k hlt2
      have hx0 := (S2.out.1.cell (p := ⟨b1, o1 + k * 3, none⟩) hb1).trans gx0
      have hx1 := (S2.out.1.cell (p := ⟨b1, o1 + k * 3 + 1, none⟩) hb1).trans gx1
      have hx2 := (S2.out.1.cell (p := ⟨b1, o1 + k * 3 + 2, none⟩) hb1).trans gx2
      clear hc1 hc2 gx0 gx1 gx2
      have STEP := Lib.hid (fun h => eq_stepG hlt hlt2 hall h)
      have NO := Lib.hid (fun h => eq_noG hlt hlt2 h)
      clear hall
      have HM := Lib.hid (mk_rdActivity_t (d := p.acts[k]) rx2)
      have HN := Lib.hid (mk_rdActivity_t (d := q.acts[k]) ry2)
      clear rx2 ry2
      generalize p.acts[k] = m at hx0 hx1 hx2 HM STEP NO
      generalize q.acts[k] = m2 at gy0 gy1 gy2 HN STEP NO
      have S3 := Lib.hid (S2.out.box 68 [.string m.nm, .int .i64 m.fa, .slice X2 m.ms.length x2_])
      clear S2
      go_wp2_with fail
      generalize wr.alloc _ = wv at S3 ⊢
      clear hx0 hx1 hx2
      have hy0 := (S3.out.1.cell (p := ⟨b2, o2 + k * 3, none⟩) hb2).trans gy0
      have hy1 := (S3.out.1.cell (p := ⟨b2, o2 + k * 3 + 1, none⟩) hb2).trans gy1
      have hy2 := (S3.out.1.cell (p := ⟨b2, o2 + k * 3 + 2, none⟩) hb2).trans gy2
      obtain ⟨x0, x1, x2, xf⟩ := (S3.out.bk 0 rfl).c3
      obtain ⟨g0, g1, g2, g3, g4, gf⟩ := (S3.out.bk 1 rfl).c5
      have S4 := Lib.hid S3.out.drew1
      clear S3 gy0 gy1 gy2
      rcases he : decide (m = m2) with _ | _
      · have HE := Lib.hid he
        have HF := Lib.hid (NO.out (of_decide_eq_false he))
        clear he
        go_region_with (go_at_call 85; refine (specActivityEqual_any m m2 _ _ _ (by exact S4.out.old HM.out) (by exact S4.out.old HN.out)).mono ?_; rintro e w5 ⟨rfl, b5⟩; rw [HE.out])
        all_goals
          have S5 := Lib.hid (S4.out.go b5)
          clear x0 x1 x2 xf g0 g1 g2 g3 g4 gf hy0 hy1 hy2
          go_wp2
          go_ret
          exact ⟨ret_boo (by rw [← RES.out, pjEq, HF.out]; simp), S5.out.1⟩
      · have HE := Lib.hid he
        have HF := Lib.hid (STEP.out (of_decide_eq_true he))
        clear he
        go_region_with (go_at_call 85; refine (specActivityEqual_any m m2 _ _ _ (by exact S4.out.old HM.out) (by exact S4.out.old HN.out)).mono ?_; rintro e w5 ⟨rfl, b5⟩; rw [HE.out])
        all_goals
          have S5 := Lib.hid ((S4.out.go b5).drop 0)
          clear x0 x1 x2 xf g0 g1 g2 g3 g4 gf hy0 hy1 hy2
          go_wp2
          go_roundw
          case rel => exact ⟨k + 1, by omega, by go_num, S5.out, HF.out⟩
          case measure => simp [intOf]; omega
    · have hge : ¬ (k : Int) < (p.acts.length : Int) := by omega
      have E1 := Lib.hid (decide_eq_true (eq_preG L1.out hlt hall))
      clear hall
      obtain ⟨e0, e1, e2, e3, e4, ef⟩ := (S2.out.bk 1 rfl).c5
      obtain ⟨g0, g1, g2, g3, g4, gf⟩ := (S2.out.bk 0 rfl).c5
      go_wp2
      clear e0 e1 e2 e3 e4 ef g0 g1 g2 g3 g4 gf
      go_loopw [74] (fun i wr => ∃ k : Nat, k ≤ p.lks.length ∧ i = .int .i64 k ∧ Sn w wr [boxI (w.heap.size + 1) 46 [.int .i64 q.dl, .slice B1 q.acts.length d1, .slice B2 q.lks.length d2, .slice B3 q.ress.length d3, .slice B4 q.stk.length d4], boxI w.heap.size 46 [.int .i64 p.dl, .slice A1 p.acts.length c1, .slice A2 p.lks.length c2, .slice A3 p.ress.length c3, .slice A4 p.stk.length c4]] ∧ ∀ j, (h1 : j < p.lks.length) → (h2 : j < q.lks.length) → j < k → p.lks[j] = q.lks[j]) (fun i _ => p.lks.length - (intOf i).toNat)
      case atStart => exact ⟨0, Nat.zero_le _, rfl, S2.out, fun j _ _ h => absurd h (by omega)⟩
      case round =>
        obtain ⟨k2, hkl2, rfl, hS, hall⟩ := hrel
        have S3 := Lib.hid hS
        clear hS S2
        by_cases hlt : k2 < p.lks.length
        · have hlt' : (k2 : Int) < (p.lks.length : Int) := by omega
          have hlt2 : k2 < q.lks.length := by have := L2.out; omega
          have hlt2' : (k2 : Int) < (q.lks.length : Int) := by omega
          obtain ⟨b1, o1, rfl, hb1, hc1⟩ := G2.out k2 hlt
          obtain ⟨b2, o2, rfl, hb2, hc2⟩ := K2.out k2 hlt2
          obtain ⟨gx0, gx1, gx2, gx3⟩ := hc1 k2 hlt
          obtain ⟨gy0, gy1, gy2, gy3⟩ := hc2 k2 hlt2
          have hx0 := (S3.out.1.cell (p := ⟨b1, o1 + k2 * 4, none⟩) hb1).trans gx0
          have hx1 := (S3.out.1.cell (p := ⟨b1, o1 + k2 * 4 + 1, none⟩) hb1).trans gx1
          have hx2 := (S3.out.1.cell (p := ⟨b1, o1 + k2 * 4 + 2, none⟩) hb1).trans gx2
          have hx3 := (S3.out.1.cell (p := ⟨b1, o1 + k2 * 4 + 3, none⟩) hb1).trans gx3
          clear hc1 hc2 gx0 gx1 gx2 gx3
          have STEP := Lib.hid (fun h => eq_stepG hlt hlt2 hall h)
          have NO := Lib.hid (fun h => eq_noG hlt hlt2 h)
          clear hall
          generalize p.lks[k2] = m at hx0 hx1 hx2 hx3 STEP NO
          generalize q.lks[k2] = m2 at gy0 gy1 gy2 gy3 STEP NO
          have S4 := Lib.hid (S3.out.box 97 [.int .i64 m.fr, .int .i64 m.to, .bool m.fe, .int .i64 m.lag])
          clear S3
          go_wp2_with fail
          generalize wr.alloc _ = wv at S4 ⊢
          clear hx0 hx1 hx2 hx3
          have hy0 := (S4.out.1.cell (p := ⟨b2, o2 + k2 * 4, none⟩) hb2).trans gy0
          have hy1 := (S4.out.1.cell (p := ⟨b2, o2 + k2 * 4 + 1, none⟩) hb2).trans gy1
          have hy2 := (S4.out.1.cell (p := ⟨b2, o2 + k2 * 4 + 2, none⟩) hb2).trans gy2
          have hy3 := (S4.out.1.cell (p := ⟨b2, o2 + k2 * 4 + 3, none⟩) hb2).trans gy3
          obtain ⟨x0_, x1_, x2_, x3_, xf⟩ := (S4.out.bk 0 rfl).c4
          obtain ⟨g0, g1, g2, g3, g4, gf⟩ := (S4.out.bk 1 rfl).c5
          clear gy0 gy1 gy2 gy3
          by_cases he : m = m2
          · have HF := Lib.hid (STEP.out he)
            subst he
            go_quiet (fail)
            have S5 := Lib.hid ((S4.out.drew nq).drop 0)
            clear S4 x0_ x1_ x2_ x3_ xf g0 g1 g2 g3 g4 gf hy0 hy1 hy2 hy3
            go_wp2
            go_roundw
            case rel => exact ⟨k2 + 1, by omega, by go_num, S5.out, HF.out⟩
            case measure => simp [intOf]; omega
          · have HF := Lib.hid (NO.out he)
            clear NO STEP
            obtain ⟨x0, x1, x2, x3⟩ := m
            obtain ⟨y0, y1, y2, y3⟩ := m2
            by_cases h0 : x0 = y0
            case neg =>
              have h1' : (x0 == y0) = false := by simpa using h0
              have h1'' : (x0 != y0) = true := by simpa using h0
              clear he h0
              go_quiet (fail)
              have S5 := Lib.hid (S4.out.drew nq)
              clear S4 x0_ x1_ x2_ x3_ xf g0 g1 g2 g3 g4 gf hy0 hy1 hy2 hy3
              go_wp2
              go_ret
              exact ⟨ret_boo (by rw [← RES.out, pjEq, HF.out]; simp), S5.out.1⟩
            subst h0
            by_cases h1 : x1 = y1
            case neg =>
              have h1' : (x1 == y1) = false := by simpa using h1
              have h1'' : (x1 != y1) = true := by simpa using h1
              clear he h1
              go_quiet (fail)
              have S5 := Lib.hid (S4.out.drew nq)
              clear S4 x0_ x1_ x2_ x3_ xf g0 g1 g2 g3 g4 gf hy0 hy1 hy2 hy3
              go_wp2
              go_ret
              exact ⟨ret_boo (by rw [← RES.out, pjEq, HF.out]; simp), S5.out.1⟩
            subst h1
            by_cases h2 : x2 = y2
            case neg =>
              have h1' : (x2 == y2) = false := by simpa using h2
              have h1'' : (x2 != y2) = true := by simpa using h2
              clear he h2
              go_quiet (fail)
              have S5 := Lib.hid (S4.out.drew nq)
              clear S4 x0_ x1_ x2_ x3_ xf g0 g1 g2 g3 g4 gf hy0 hy1 hy2 hy3
              go_wp2
              go_ret
              exact ⟨ret_boo (by rw [← RES.out, pjEq, HF.out]; simp), S5.out.1⟩
            subst h2
            have h3 : x3 ≠ y3 := fun e => he (by rw [e])
            have h1' : (x3 == y3) = false := by simpa using h3
            have h1'' : (x3 != y3) = true := by simpa using h3
            clear he h3
            go_quiet (fail)
            have S5 := Lib.hid (S4.out.drew nq)
            clear S4 x0_ x1_ x2_ x3_ xf g0 g1 g2 g3 g4 gf hy0 hy1 hy2 hy3
            go_wp2
            go_ret
            exact ⟨ret_boo (by rw [← RES.out, pjEq, HF.out]; simp), S5.out.1⟩
        · have hge2 : ¬ (k2 : Int) < (p.lks.length : Int) := by omega
          have E2 := Lib.hid (decide_eq_true (eq_preG L2.out hlt hall))
          clear hall
          obtain ⟨e0, e1, e2, e3, e4, ef⟩ := (S3.out.bk 1 rfl).c5
          obtain ⟨g0, g1, g2, g3, g4, gf⟩ := (S3.out.bk 0 rfl).c5
          go_wp2
          clear e0 e1 e2 e3 e4 ef g0 g1 g2 g3 g4 gf
          go_loopw [90] (fun i wr => ∃ k : Nat, k ≤ p.ress.length ∧ i = .int .i64 k ∧ Sn w wr [boxI (w.heap.size + 1) 46 [.int .i64 q.dl, .slice B1 q.acts.length d1, .slice B2 q.lks.length d2, .slice B3 q.ress.length d3, .slice B4 q.stk.length d4], boxI w.heap.size 46 [.int .i64 p.dl, .slice A1 p.acts.length c1, .slice A2 p.lks.length c2, .slice A3 p.ress.length c3, .slice A4 p.stk.length c4]] ∧ ∀ j, (h1 : j < p.ress.length) → (h2 : j < q.ress.length) → j < k → p.ress[j] = q.ress[j]) (fun i _ => p.ress.length - (intOf i).toNat)
          case atStart => exact ⟨0, Nat.zero_le _, rfl, S3.out, fun j _ _ h => absurd h (by omega)⟩
          case round =>
            obtain ⟨k3, hkl3, rfl, hS, hall⟩ := hrel
            have S4 := Lib.hid hS
            clear hS S3
            by_cases hlt : k3 < p.ress.length
            · have hlt' : (k3 : Int) < (p.ress.length : Int) := by omega
              have hlt2 : k3 < q.ress.length := by have := L3.out; omega
              have hlt2' : (k3 : Int) < (q.ress.length : Int) := by omega
              obtain ⟨b1, o1, rfl, hb1, hc1⟩ := G3.out k3 hlt
              obtain ⟨b2, o2, rfl, hb2, hc2⟩ := K3.out k3 hlt2
              obtain ⟨X0, x0_, X1, x1_, gx0, gx1, rx0, rx1⟩ := hc1 k3 hlt
              obtain ⟨Y0, y0_, Y1, y1_, gy0, gy1, ry0, ry1⟩ := hc2 k3 hlt2
              have hx0 := (S4.out.1.cell (p := ⟨b1, o1 + k3 * 2, none⟩) hb1).trans gx0
              have hx1 := (S4.out.1.cell (p := ⟨b1, o1 + k3 * 2 + 1, none⟩) hb1).trans gx1
              clear hc1 hc2 gx0 gx1
              have STEP := Lib.hid (fun h => eq_stepG hlt hlt2 hall h)
              have NO := Lib.hid (fun h => eq_noG hlt hlt2 h)
              clear hall
              have hy0 := (S4.out.1.cell (p := ⟨b2, o2 + k3 * 2, none⟩) hb2).trans gy0
              have hy1 := (S4.out.1.cell (p := ⟨b2, o2 + k3 * 2 + 1, none⟩) hb2).trans gy1
              have hb2w := Nat.lt_of_lt_of_le hb2 S4.out.1.size
              clear gy0 gy1
              generalize p.ress[k3] = m at hx0 hx1 rx0 rx1 STEP NO
              generalize q.ress[k3] = m2 at hy0 hy1 ry0 ry1 STEP NO
              have RX0 := Lib.hid rx0
              have RY0 := Lib.hid ry0
              obtain ⟨hlx, X1', x1', he, gx⟩ := rdIntSS_t rx1
              injection he with he hln he2
              subst he he2
              obtain ⟨hly, Y1', y1', he, gy⟩ := rdIntSS_t ry1
              injection he with he hln2 he2
              subst he he2
              have GX := Lib.hid gx
              have GY := Lib.hid gy
              clear rx0 ry0 rx1 ry1 gx gy hln hln2
              obtain ⟨g0, g1, g2, g3, g4, gf⟩ := (S4.out.bk 0 rfl).c5
              have hbq := (S4.out.bk 0 rfl).lt
              go_wp2_with fail
              have S5 := Lib.hid ((S4.out.box 30 [.slice X0 m.st.length x0_, .slice X1 m.su.length x1_]).box 30 [.slice Y0 m2.st.length y0_, .slice Y1 m2.su.length y1_])
              simp only [World.size_alloc] at S5
              clear S4 g0 g1 g2 g3 g4 gf hbq hx0 hx1 hy0 hy1
              refine (specEqualP_any m.st m2.st _ _ _ (rdP_st (by exact S5.out.old RX0.out)) (rdP_st (by exact S5.out.old RY0.out))).mono ?_
              rintro e w5 ⟨rfl, b5⟩
              have S6 := Lib.hid (S5.out.go b5)
              clear S5 b5
              rcases hs : decide (m.st = m2.st) with _ | _
              · have HF := Lib.hid (NO.out (fun e => by rw [e, decide_eq_true rfl] at hs; cases hs))
                clear hs
                go_wp2
                go_ret
                exact ⟨ret_boo (by rw [← RES.out, pjEq, HF.out]; simp), S6.out.1⟩
              have hst := of_decide_eq_true hs
              have HST := Lib.hid hst
              clear hs hst
              obtain ⟨x0, x1, xf⟩ := (S6.out.bk 1 rfl).c2
              obtain ⟨y0, y1, yf⟩ := (S6.out.bk 0 rfl).c2
              by_cases hsl : m.su.length = m2.su.length
              case neg =>
                have HF := Lib.hid (NO.out (fun e => hsl (by rw [e])))
                have hsl' : ((m.su.length : Int) != (m2.su.length : Int)) = true := by simp; omega
                clear hsl
                go_wp2
                go_ret
                exact ⟨ret_boo (by rw [← RES.out, pjEq, HF.out]; simp), S6.out.1⟩
              have hsl' : ((m.su.length : Int) != (m2.su.length : Int)) = false := by simp; omega
              have HSL := Lib.hid hsl
              clear hsl
              go_wp2
              clear x0 x1 xf y0 y1 yf
              go_loopw [118] (fun i wz => ∃ j : Nat, j ≤ m.su.length ∧ i = .int .i64 j ∧ Sn w wz [boxI (wr.heap.size + 1) 30 [.slice Y0 m2.st.length y0_, .slice Y1 m2.su.length y1_], boxI wr.heap.size 30 [.slice X0 m.st.length x0_, .slice X1 m.su.length x1_], boxI (w.heap.size + 1) 46 [.int .i64 q.dl, .slice B1 q.acts.length d1, .slice B2 q.lks.length d2, .slice (some ⟨b2, o2, none⟩) q.ress.length d3, .slice B4 q.stk.length d4], boxI w.heap.size 46 [.int .i64 p.dl, .slice A1 p.acts.length c1, .slice A2 p.lks.length c2, .slice (some ⟨b1, o1, none⟩) p.ress.length c3, .slice A4 p.stk.length c4]] ∧ ∀ t, (h1 : t < m.su.length) → (h2 : t < m2.su.length) → t < j → m.su[t] = m2.su[t]) (fun i _ => m.su.length - (intOf i).toNat)
              case atStart => exact ⟨0, Nat.zero_le _, rfl, S6.out, fun j _ _ h => absurd h (by omega)⟩
              case round =>
                obtain ⟨j, hjl, rfl, hS, hall⟩ := hrel
                have S7 := Lib.hid hS
                clear hS S6
                by_cases hjt : j < m.su.length
                · have hjt' : (j : Int) < (m.su.length : Int) := by omega
                  have hjt2 : j < m2.su.length := by have := HSL.out; omega
                  have hjt2' : (j : Int) < (m2.su.length : Int) := by omega
                  obtain ⟨b3, o3, rfl, hb3, hc3⟩ := GX.out j hjt
                  obtain ⟨b4, o4, rfl, hb4, hc4⟩ := GY.out j hjt2
                  obtain ⟨U, cu, u0, ru⟩ := hc3 j hjt
                  obtain ⟨T, ct, t0, rt⟩ := hc4 j hjt2
                  have z0 := (S7.out.1.cell (p := ⟨b3, o3 + j, none⟩) hb3).trans u0
                  have z1 := (S7.out.1.cell (p := ⟨b4, o4 + j, none⟩) hb4).trans t0
                  have RU := Lib.hid ru
                  have RT := Lib.hid rt
                  have SO := Lib.hid (fun h => eq_stepG hjt hjt2 hall h)
                  have NN := Lib.hid (fun h => eq_noG hjt hjt2 h)
                  clear hall hc3 hc4 u0 t0 ru rt
                  generalize m.su[j] = xx at z0 RU SO NN
                  generalize m2.su[j] = yy at z1 RT SO NN
                  obtain ⟨y0, y1, yf⟩ := (S7.out.bk 0 rfl).c2
                  go_wp2_with fail
                  clear y0 y1 yf
                  refine (specEqual_any xx yy _ _ _ (rd_flat (S7.out.old RU.out)) (rd_flat (S7.out.old RT.out))).mono ?_
                  rintro e w6 ⟨rfl, b6⟩
                  have S8 := Lib.hid (S7.out.go b6)
                  clear S7 b6
                  rcases he : eqB xx yy with _ | _
                  · have HF := Lib.hid (NO.out (fun e => by
                      have h1 := NN.out (of_decide_eq_false he)
                      rw [decide_eq_false_iff_not] at h1
                      exact h1 (by rw [e])))
                    clear he
                    go_wp2
                    go_ret
                    exact ⟨ret_boo (by rw [← RES.out, pjEq, HF.out]; simp), S8.out.1⟩
                  · have HF := Lib.hid (SO.out (of_decide_eq_true he))
                    clear he
                    go_wp2
                    go_roundw
                    case rel => exact ⟨j + 1, by omega, by go_num, S8.out, HF.out⟩
                    case measure => simp [intOf]; omega
                · have hgej : ¬ (j : Int) < (m.su.length : Int) := by omega
                  have HF := Lib.hid (STEP.out (rs_ext.2 ⟨HST.out, eq_preG HSL.out hjt hall⟩))
                  clear hall
                  have S8 := Lib.hid ((S7.out.drop 0).drop 0)
                  clear S7
                  go_wp2
                  go_roundw
                  case rel => exact ⟨k3 + 1, by omega, by go_num, S8.out, HF.out⟩
                  case measure => simp [intOf]; omega
            · have hge3 : ¬ (k3 : Int) < (p.ress.length : Int) := by omega
              have E3 := Lib.hid (decide_eq_true (eq_preG L3.out hlt hall))
              clear hall
              go_wp2
              go_ret
              exact ⟨ret_boo (by rw [← RES.out, pjEq, H0.out, E1.out, E2.out, E3.out, H4.out]; rfl), S4.out.1⟩
end Go.Proofs.Ytfgmbgdbnjpclaa
end

section
namespace Go.Proofs.Ytfgmbgdbnjpclaa
open Go.RowKit
set_option linter.unusedVariables false
set_option maxRecDepth 100000 in
set_option maxHeartbeats 4000000 in
theorem walkFnExactProjectEqual (v0 : Value) (d0 : Pj) (v1 : Value) (d1 : Pj) (w : World) (hr0 : (trPj d0).rd w v0) (hk0 : (trPj d0).ok) (hr1 : (trPj d1).rd w v1) (hk1 : (trPj d1).ok) :
    Calls Try.prog 9 #[v0, v1] w fun e w' => e = .returned (.bool true) ∧ Below w.heap.size w w' := by
  have HK0 := Lib.hid hk0
  have HR0 := Lib.hid hr0
  obtain ⟨U0_1, u0_1, U0_2, u0_2, U0_3, u0_3, U0_4, u0_4, rfl, _, _, _, _⟩ := rdProject_t hr0
  clear hk0 hr0
  have HK1 := Lib.hid hk1
  have HR1 := Lib.hid hr1
  obtain ⟨U1_1, u1_1, U1_2, u1_2, U1_3, u1_3, U1_4, u1_4, rfl, _, _, _, _⟩ := rdProject_t hr1
  clear hk1 hr1
  have S0 := Lib.hid (Sn.start w)
  have S1 := Lib.hid (S0.out.box 39 [.int .i64 d0.dl, .slice U0_1 d0.acts.length u0_1, .slice U0_2 d0.lks.length u0_2, .slice U0_3 d0.ress.length u0_3, .slice U0_4 d0.stk.length u0_4])
  clear S0
  have S2 := Lib.hid (S1.out.box 39 [.int .i64 d1.dl, .slice U1_1 d1.acts.length u1_1, .slice U1_2 d1.lks.length u1_2, .slice U1_3 d1.ress.length u1_3, .slice U1_4 d1.stk.length u1_4])
  clear S1
  simp only [World.size_alloc] at S2
  go_enter Try.func9, Try.ntmps9
  go_wp2_with fail
  refine (szProject_t d0 _ (1048576) _ (by exact S2.out.old HR0.out) HK0.out (by omega) (by omega)).mono ?_
  rintro e w3 ⟨rfl, b⟩
  have S3 := Lib.hid (S2.out.go b)
  clear S2 b
  generalize hz0 : (trPj d0).sz = z0
  have HZ0 := Lib.hid hz0
  clear hz0
  by_cases hbig0 : (1048576 : Int) < (z0 : Int)
  · rw [if_pos hbig0]
    go_wp2
    go_ret
    exact ⟨rfl, S3.out.1⟩
  rw [if_neg hbig0]
  have hq0 : 0 ≤ (1048576 - (z0 : Int) : Int) := by omega
  have hb0 : z0 ≤ 1048576 := by omega
  obtain ⟨c0, c1, c2, c3, c4, cf⟩ := (S3.out.bk 0 rfl).c5
  go_wp2_with fail
  clear c0 c1 c2 c3 c4 cf
  refine (szProject_t d1 _ (1048576 - (z0 : Int)) _ (by exact S3.out.old HR1.out) HK1.out (by omega) (by omega)).mono ?_
  rintro e w4 ⟨rfl, b⟩
  have S4 := Lib.hid (S3.out.go b)
  clear S3 b
  generalize hz1 : (trPj d1).sz = z1
  have HZ1 := Lib.hid hz1
  clear hz1
  by_cases hbig1 : (1048576 - (z0 : Int) : Int) < (z1 : Int)
  · rw [if_pos hbig1]
    go_wp2
    go_ret
    exact ⟨rfl, S4.out.1⟩
  rw [if_neg hbig1]
  have hq1 : 0 ≤ (1048576 - (z0 : Int) - (z1 : Int) : Int) := by omega
  have hb1 : z1 ≤ 1048576 := by omega
  obtain ⟨c0, c1, c2, c3, c4, cf⟩ := (S4.out.bk 1 rfl).c5
  obtain ⟨g0, g1, g2, g3, g4, gf⟩ := (S4.out.bk 0 rfl).c5
  go_wp2_with fail
  go_cut [6] from 20 to 24 (fun s wx => s = .bool (pjEq d0 d1) ∧ ∃ (v : Value) (F : List Nat) (v' : Value) (F' : List Nat), Sn w wx [⟨trPj d1, v', F'⟩, ⟨trPj d0, v, F⟩, boxI (w.heap.size + 1) 39 [.int .i64 d1.dl, .slice U1_1 d1.acts.length u1_1, .slice U1_2 d1.lks.length u1_2, .slice U1_3 d1.ress.length u1_3, .slice U1_4 d1.stk.length u1_4], boxI w.heap.size 39 [.int .i64 d0.dl, .slice U0_1 d0.acts.length u0_1, .slice U0_2 d0.lks.length u0_2, .slice U0_3 d0.ress.length u0_3, .slice U0_4 d0.stk.length u0_4]])
  case first =>
    have S5 := Lib.hid (S4.out.drew1)
    clear S4
    go_region_with (first
      | (go_at_call_of 19 (Value.agg #[Value.int IntKind.i64 d0.dl, Value.slice U0_1 d0.acts.length u0_1, Value.slice U0_2 d0.lks.length u0_2, Value.slice U0_3 d0.ress.length u0_3, Value.slice U0_4 d0.stk.length u0_4]); refine (toProject_t d0 _ _ (by exact S5.out.old HR0.out) (by have := HZ0.out; omega)).mono ?_; rintro e wa ⟨va, Fa, rfl, o, h, b⟩; have S6 := Lib.hid (S5.out.new o h b); obtain ⟨e0, e1, e2, e3, e4, ef⟩ := (S6.out.bk 1 rfl).c5; clear S5 o h b)
      | (go_at_call_of 19 (Value.agg #[Value.int IntKind.i64 d1.dl, Value.slice U1_1 d1.acts.length u1_1, Value.slice U1_2 d1.lks.length u1_2, Value.slice U1_3 d1.ress.length u1_3, Value.slice U1_4 d1.stk.length u1_4]); refine (toProject_t d1 _ _ (by exact S6.out.old HR1.out) (by have := HZ1.out; omega)).mono ?_; rintro e wb ⟨vb, Fb, rfl, o, h, b⟩; have S7 := Lib.hid (S6.out.new o h b); clear S6 o h b)
      | (go_at_call 34; refine (specProjectEqual_any d0 d1 _ _ _ (by exact S7.out.rd 1 rfl) (by exact S7.out.rd 0 rfl)).mono ?_; rintro e wc ⟨rfl, b⟩; have S8 := Lib.hid (S7.out.go b); clear S7 b))
    all_goals
      go_wp2_with fail
      go_meet
      case rel => exact ⟨rfl, _, _, _, _, S8.out⟩
  case rest =>
    obtain ⟨rfl, va, Fa, vb, Fb, hS⟩ := hcut
    have S9 := Lib.hid hS
    clear hS S4 c0 c1 c2 c3 c4 cf g0 g1 g2 g3 g4 gf
    obtain ⟨c0, c1, c2, c3, c4, cf⟩ := (S9.out.bk 3 rfl).c5
    go_wp2_with fail
    clear c0 c1 c2 c3 c4 cf
    refine (toProject_t d0 _ _ (by exact S9.out.old HR0.out) (by have := HZ0.out; omega)).mono ?_
    rintro e w10 ⟨v10_, F10, rfl, o, h, b⟩
    obtain ⟨X10_1, x10_1, X10_2, x10_2, X10_3, x10_3, X10_4, x10_4, rfl, _, _, _, _⟩ := rdProject_t (Tr.own_rd _ _ _ o)
    have S10 := Lib.hid ((S9.out.new o h b).box 46 [.int .i64 d0.dl, .slice X10_1 d0.acts.length x10_1, .slice X10_2 d0.lks.length x10_2, .slice X10_3 d0.ress.length x10_3, .slice X10_4 d0.stk.length x10_4])
    clear S9 o h b
    obtain ⟨c0, c1, c2, c3, c4, cf⟩ := (S10.out.bk 4 rfl).c5
    go_wp2_with fail
    clear c0 c1 c2 c3 c4 cf
    refine (toProject_t d1 _ _ (by exact S10.out.old HR1.out) (by have := HZ1.out; omega)).mono ?_
    rintro e w11 ⟨v11_, F11, rfl, o, h, b⟩
    obtain ⟨X11_1, x11_1, X11_2, x11_2, X11_3, x11_3, X11_4, x11_4, rfl, _, _, _, _⟩ := rdProject_t (Tr.own_rd _ _ _ o)
    have S11 := Lib.hid ((S10.out.new o h b).box 46 [.int .i64 d1.dl, .slice X11_1 d1.acts.length x11_1, .slice X11_2 d1.lks.length x11_2, .slice X11_3 d1.ress.length x11_3, .slice X11_4 d1.stk.length x11_4])
    clear S10 o h b
    obtain ⟨x0, x1, x2, x3, x4, xf⟩ := (S11.out.bk 2 rfl).c5
    obtain ⟨y0, y1, y2, y3, y4, yf⟩ := (S11.out.bk 0 rfl).c5
    go_wp2_with fail
    clear x0 x1 x2 x3 x4 xf y0 y1 y2 y3 y4 yf
    refine (implProjectEqual_any d0 d1 _ _ _ (by exact S11.out.rd 3 rfl) (by exact S11.out.rd 1 rfl) HK0.out HK1.out).mono ?_
    rintro e w12 ⟨rfl, b⟩
    have S12 := Lib.hid (S11.out.go b)
    clear S11 b
    obtain ⟨c0, c1, c2, c3, c4, cf⟩ := (S12.out.bk 2 rfl).c5
    obtain ⟨g0, g1, g2, g3, g4, gf⟩ := (S12.out.bk 7 rfl).c5
    have S13 := Lib.hid (S12.out.drew1)
    clear S12
    go_wp2_with fail
    go_region_with (first
      | (go_at_call 19; refine (toProject_t d0 _ _ (by exact S13.out.old HR0.out) (by have := HZ0.out; omega)).mono ?_; rintro e w14 ⟨v14_, F14, rfl, o, h, b⟩; have S14 := Lib.hid (S13.out.new o h b); obtain ⟨e0, e1, e2, e3, e4, ef⟩ := (S14.out.bk 3 rfl).c5; clear S13 o h b)
      | (go_at_call 21; refine (eqProject_t d0 _ _ _ (by exact S14.out.rd 4 rfl) (by exact S14.out.rd 0 rfl)).mono ?_; rintro e w15 ⟨rfl, b⟩; have S15 := Lib.hid (S14.out.go b); clear S14 b))
    all_goals
      clear c0 c1 c2 c3 c4 cf g0 g1 g2 g3 g4 gf
      try clear e0 e1 e2 e3 e4 ef
      obtain ⟨c0, c1, c2, c3, c4, cf⟩ := (S15.out.bk 1 rfl).c5
      obtain ⟨g0, g1, g2, g3, g4, gf⟩ := (S15.out.bk 7 rfl).c5
      have S16 := Lib.hid (S15.out.drew1)
      clear S15
      go_wp2_with fail
      go_region_with (first
        | (go_at_call 19; refine (toProject_t d1 _ _ (by exact S16.out.old HR1.out) (by have := HZ1.out; omega)).mono ?_; rintro e w17 ⟨v17_, F17, rfl, o, h, b⟩; have S17 := Lib.hid (S16.out.new o h b); obtain ⟨e0, e1, e2, e3, e4, ef⟩ := (S17.out.bk 2 rfl).c5; clear S16 o h b)
        | (go_at_call 21; refine (eqProject_t d1 _ _ _ (by exact S17.out.rd 3 rfl) (by exact S17.out.rd 0 rfl)).mono ?_; rintro e w18 ⟨rfl, b⟩; have S18 := Lib.hid (S17.out.go b); clear S17 b))
      all_goals
        clear c0 c1 c2 c3 c4 cf g0 g1 g2 g3 g4 gf
        try clear e0 e1 e2 e3 e4 ef
        go_wp2
        go_ret
        exact ⟨rfl, S18.out.1⟩
end Go.Proofs.Ytfgmbgdbnjpclaa
end

section
namespace Go.Proofs.Ytfgmbgdbnjpclaa.fnExactProjectEqual
open Go.ChangeShapes Go.WideShapes Go.ChangeAt Go.RowKit
open Go.ChangeMaps (open_string shut_string)
set_option linter.unusedVariables false

theorem own : ownKnob Try.prog.godebug = none := by kernel_rfl
theorem laidOut : laidOutB Try.prog = true := by kernel_rfl

set_option maxRecDepth 100000 in
theorem lifted (os : Os) (started : os.Started) (H : Type) (enc : TypeId × Value → H) :
    ReturnsInHanded {} Try.checked os 9 .any (Rows.fnExactProjectEqualSpec.pre6 enc Try.prog Try.f9 Rows.fnExactProjectEqualRow.domain false) (Rows.fnExactProjectEqualSpec.post enc Try.prog Try.f9 false true false false) := by
  refine returnsInHanded_of_change (C := Try.checked) own started (by kernel_rfl) Try.func9
    (ChangeSpec.witness6 (enc := enc) (C := Try.checked) false ⟨#[], #[.agg #[.int .i64 0, .slice none 0 0, .slice none 0 0, .slice none 0 0, .slice none 0 0], .agg #[.int .i64 0, .slice none 0 0, .slice none 0 0, .slice none 0 0, .slice none 0 0]], []⟩ 8 (by kernel_rfl) (by kernel_rfl) (by kernel_rfl) (by kernel_rfl)) ?_
  intro W base args ds gs before hval0 hW hcnd _
  have hval : ∀ (j : Nat) t v, Try.f9.params[j]? = some t → args[j]? = some v → Value.okWide Try.prog W .any base t v := hval0
  have hW' := hW
  obtain ⟨p, q, hA0, hV, rfl, hfz, hnd⟩ := hW
  have hA : DataW.TrodAll enc Try.prog W 0 (fun _ => true) true Try.f9.params.toList args.toList ds p := hA0
  rw [Try.params9] at hA hval
  obtain ⟨v0, vs0, d0, ds0, p0, q0, hargs, rfl, rfl, h0, r0⟩ := trodAll_cons hA
  obtain ⟨v1, vs1, d1, ds1, p1, q1, rfl, rfl, rfl, h1, r1⟩ := trodAll_cons r0
  obtain ⟨rfl, rfl, rfl⟩ := trodAll_nil r1
  obtain rfl : args = #[v0, v1] := by cases args; simp_all
  obtain ⟨rfl, rfl⟩ := trodVars_none hV
  have k0 := h0
  have lt0 : ∀ x ∈ p0, x.block < W.heap.size := by obtain ⟨m, hm⟩ := k0; exact DataW.trod_lt m _ _ _ hm
  obtain ⟨a0, ok0, w0⟩ := opens_agg Try.underlying39 opens_Project (hval 0 39 v0 rfl rfl) h0
  have k1 := h1
  have lt1 : ∀ x ∈ p1, x.block < W.heap.size := by obtain ⟨m, hm⟩ := k1; exact DataW.trod_lt m _ _ _ hm
  obtain ⟨a1, ok1, w1⟩ := opens_agg Try.underlying39 opens_Project (hval 1 39 v1 rfl rfl) h1
  clear hA0 hval0
  refine (walkFnExactProjectEqual v0 a0 v1 a1 W w0 ok0 w1 ok1).mono fun e W' ⟨he, bel⟩ => ?_
  subst he
  exact ⟨_, rfl, _, _, _, [], _, [], hW', trodAll_mk1 (shut_bool Try.underlying4 _), (trodAll_cons_mk (Below.trod laidOut (by kernel_rfl) (of_decide_eq_true (by kernel_rfl)) k0 bel lt0) (trodAll_cons_mk (Below.trod laidOut (by kernel_rfl) (of_decide_eq_true (by kernel_rfl)) k1 bel lt1) trodAll_mk0)), rfl, bel.frame _, fun h => by cases h⟩

theorem over : Rows.fnExactProjectEqualRow.holds Try.pinned (OpenSpec.ofChange Rows.fnExactProjectEqualSpec) :=
  OpenClaim.holds_of_wide 9 Try.f9 rfl rfl rfl rfl rfl rfl rfl ⟨rfl, rfl, rfl, rfl, rfl⟩ rfl rfl rfl rfl rfl (by kernel_rfl) Try.func9 (by kernel_rfl)
    (of_decide_eq_true (by kernel_rfl)) (by unfold Func.isWrapper; first | (rw [if_pos (by decide +kernel)]; kernel_rfl) | (rw [if_neg (by decide +kernel)]; exact ⟨rfl, rfl⟩))
    (fun os started H enc _ => lifted os started H enc)

theorem proved : Rows.FnExactProjectEqualSaid := over
end Go.Proofs.Ytfgmbgdbnjpclaa.fnExactProjectEqual
end
