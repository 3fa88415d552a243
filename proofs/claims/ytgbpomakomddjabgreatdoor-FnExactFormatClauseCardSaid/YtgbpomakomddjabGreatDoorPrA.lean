/- DERIVED. CONTRACTS: ResourceOk, of the model and of the program. -/
import Derived.Test.YtgbpomakomddjabGreatDoorHofR
import Derived.Test.YtgbpomakomddjabGreatDoorTPj
import Derived.Test.YtgbpomakomddjabGreatDoorStpA
import Derived.Shelf.Abstract
namespace Go.Proofs.YtgbpomakomddjabGreatDoor
open Go.RowKit Go.Shelf
set_option linter.unusedVariables false

theorem flat_pts : ∀ xs : List (Int × Int), xs.flatMap cellsPt = (cellsP xs).map .one
  | [] => rfl
  | p :: xs => by rw [List.flatMap_cons, flat_pts xs]; rfl
theorem rdP_st {w : World} {xs : List (Int × Int)} {v : Value} (h : (trSt xs).rd w v) : RdP w v xs := by
  obtain ⟨vs, h1, h2⟩ := h
  rw [flat_pts] at h2
  obtain rfl := rdL_ones.1 h2
  exact h1
/-- A row of setup times; the setup times; a resource. -/
def rowB (row : List Int) : Bool := decide ((row.length : Int) = 4) && row.all (fun n => inB n 0 12)
noncomputable def rokB (r : Rs) : Bool := r.su.all rowB && (okP r.st && (decide ((r.su.length : Int) = 0) || decide ((r.su.length : Int) = 4)))

set_option maxRecDepth 100000 in
set_option maxHeartbeats 2000000 in
theorem specResourceOk_any (r : Rs) (v : Value) (w : World) (hv : (trR r).rd w v) :
    Calls Tryz.prog 111 #[v] w fun e w' => e = .returned (.bool (rokB r)) ∧ Below w.heap.size w w' := by
  obtain ⟨A0, c0, A1, c1, rfl, r0, r1⟩ := rdResource_t hv
  obtain ⟨hl, A, c, he, ga⟩ := rdIntSS_t r1
  injection he with he _ he2
  subst he
  subst he2
  have GA := Lib.hid ga
  have R0 := Lib.hid r0
  clear hv r0 r1 ga
  generalize hres : rokB r = res
  have RES := Lib.hid hres
  clear hres
  have S0 := Lib.hid ((Sn.start w).box 98 [.slice A0 r.st.length c0, .slice A1 r.su.length c1])
  go_enter Tryz.func111, Tryz.ntmps111
  go_wp2
  go_loopw [10] (fun i wr => ∃ k : Nat, k ≤ r.su.length ∧ i = .int .i64 k ∧ Sn w wr [boxI w.heap.size 98 [.slice A0 r.st.length c0, .slice A1 r.su.length c1]] ∧ ∀ j, (hj : j < r.su.length) → j < k → rowB r.su[j] = true) (fun i _ => r.su.length - (intOf i).toNat)
  case atStart => exact ⟨0, Nat.zero_le _, rfl, S0.out, fun j _ h => absurd h (by omega)⟩
  case round =>
    obtain ⟨k, hkl, rfl, hS, hall⟩ := hrel
    have S1 := Lib.hid hS
    clear hS
    by_cases hlt : k < r.su.length
    · have hlt' : (k : Int) < (r.su.length : Int) := by omega
      obtain ⟨b, o, rfl, hb, hc⟩ := GA.out k hlt
      obtain ⟨A2, c2, g0, r2⟩ := hc k hlt
      have hx0 := (S1.out.1.cell (p := ⟨b, o + k, none⟩) hb).trans g0
      have R2 := Lib.hid (S1.out.old r2)
      clear hc g0 r2
      have STEP := Lib.hid (fun h => step_all (p := fun x => rowB x = true) hlt hall h)
      have NO := Lib.hid (fun h => all_noG (f := rowB) hlt h)
      clear hall
      generalize r.su[k] = row at hx0 R2 STEP NO
      by_cases h4 : (row.length : Int) = 4
      · have h4' : ((row.length : Int) != 4) = false := by simp [h4]
        have H4 := Lib.hid (decide_eq_true h4)
        obtain ⟨hl2, A3, c3, he, gb⟩ := rdI (rd_flat R2.out)
        injection he with he _ he2
        subst he
        subst he2
        have GB := Lib.hid gb
        clear gb R2
        have h4n : row.length = 4 := by omega
        have H4N := Lib.hid h4n
        rw [h4n] at hx0
        clear h4 h4n
        go_wp2
        go_loop [19] (fun i => ∃ j : Nat, j ≤ 4 ∧ i = .int .i64 j ∧ ∀ q, (hq : q < row.length) → q < j → inB row[q] 0 12 = true) (fun i => 4 - (intOf i).toNat)
        case atStart => exact ⟨0, Nat.zero_le _, rfl, fun j _ h => absurd h (by omega)⟩
        case round =>
          obtain ⟨j, hj, rfl, hin⟩ := hrel
          by_cases hjl : j < 4
          · have hjl' : (j : Int) < 4 := by omega
            have hjr : j < row.length := by have := H4N.out; omega
            obtain ⟨b2, o2, rfl, hb2, hd⟩ := GB.out j hjr
            have hy := hd j hjr
            clear hd
            rcases h1 : inB row[j] 0 12 with _ | _
            · have HN := Lib.hid (NO.out (by rw [rowB, all_noG (f := fun n => inB n 0 12) hjr h1]; simp))
              have H1 := Lib.hid h1
              clear h1 hin
              generalize row[j] = x at hy H1
              go_wp2_with fail
              refine (inD_any _ _ _ _).mono ?_
              rintro e w1 ⟨rfl, rfl⟩
              rw [H1.out]
              go_wp2
              go_ret
              exact ⟨ret_boo (by rw [← RES.out, rokB, HN.out]; rfl), S1.out.1⟩
            · have ST := Lib.hid (step_all (p := fun n => inB n 0 12 = true) hjr hin h1)
              have H1 := Lib.hid h1
              clear h1 hin
              generalize row[j] = x at hy H1
              go_wp2_with fail
              refine (inD_any _ _ _ _).mono ?_
              rintro e w1 ⟨rfl, rfl⟩
              rw [H1.out]
              go_wp2
              go_round
              case rel => exact ⟨j + 1, by omega, by go_num, ST.out⟩
              case measure => simp [intOf]; omega
          · have hge : ¬ (j : Int) < 4 := by omega
            have HR := Lib.hid (show rowB row = true by
              rw [rowB, H4.out, all_yesG (f := fun n => inB n 0 12) (fun q hq => hin q hq (by have := H4N.out; omega))]; rfl)
            clear hin
            go_wp2
            go_roundw
            case rel => exact ⟨k + 1, by omega, by go_num, S1.out, STEP.out HR.out⟩
            case measure => simp [intOf]; omega
      · have h4' : ((row.length : Int) != 4) = true := by simp [h4]
        have HN := Lib.hid (NO.out (by rw [rowB, decide_eq_false h4]; rfl))
        clear h4
        go_wp2
        go_ret
        exact ⟨ret_boo (by rw [← RES.out, rokB, HN.out]; rfl), S1.out.1⟩
    · have hge : ¬ (k : Int) < (r.su.length : Int) := by omega
      have HY := Lib.hid (all_yesG (f := rowB) (fun j hj => hall j hj (by omega)))
      clear hall
      obtain ⟨e0, e1, ef⟩ := (S1.out.bk 0 rfl).c2
      go_wp2_with fail
      clear e0 e1 ef
      refine (specStepsOk_any r.st _ _ (rdP_st (S1.out.old R0.out))).mono ?_
      rintro e w1 ⟨rfl, b⟩
      have S2 := Lib.hid (S1.out.go b)
      clear S1 b
      rcases hs : okP r.st with _ | _
      · have HS := Lib.hid hs
        clear hs
        go_wp2
        go_ret
        exact ⟨ret_boo (by rw [← RES.out, rokB, HS.out]; simp), S2.out.1⟩
      · have HS := Lib.hid hs
        clear hs
        obtain ⟨e0, e1, ef⟩ := (S2.out.bk 0 rfl).c2
        by_cases h0 : (r.su.length : Int) = 0
        · have h0' : ((r.su.length : Int) == 0) = true := beq_iff_eq.2 h0
          have H0 := Lib.hid (decide_eq_true h0)
          clear h0
          go_wp2
          go_ret
          exact ⟨ret_boo (by rw [← RES.out, rokB, HY.out, HS.out, H0.out]; rfl), S2.out.1⟩
        · have h0' : ((r.su.length : Int) == 0) = false := beq_eq_false_iff_ne.2 h0
          have H0 := Lib.hid (decide_eq_false h0)
          clear h0
          go_wp2
          go_ret
          exact ⟨ret_boo (by rw [← RES.out, rokB, HY.out, HS.out, H0.out]; simp; rfl), S2.out.1⟩

theorem isSetupTime_any (n : Int) (w : World) :
    Calls Tryz.prog 176 #[.int .i64 n] w fun e w' => e = .returned (.bool (inB n 0 12)) ∧ Below w.heap.size w w' := by
  by_cases h : 0 ≤ n
  all_goals
    go_enter Tryz.func176, Tryz.ntmps176
    go_wp2
    go_ret
    exact ⟨by simp [inB] <;> omega, Below.refl _ _⟩
theorem enters_isSetupTime : ∀ args w, (callFunc 176 args).run Tryz.prog w = .ok (.enter 176 args) w := enters_of Tryz.func176 (by kernel_rfl) rfl

set_option maxRecDepth 100000 in
theorem isSetupRow_any (row : List Int) (v : Value) (w : World) (hv : (trI row).rd w v) (hk : (trI row).ok) :
    Calls Tryz.prog 163 #[v] w fun e w' => e = .returned (.bool (rowB row)) ∧ Below w.heap.size w w' := by
  obtain ⟨A, c, rfl⟩ := slice_ints hv
  have HV := Lib.hid hv
  have HK := Lib.hid hk
  clear hv hk
  generalize hres : rowB row = res
  have RES := Lib.hid hres
  clear hres
  by_cases h4 : (row.length : Int) = 4
  · have h4' : ((row.length : Int) == 4) = true := by simp [h4]
    have H4 := Lib.hid (decide_eq_true h4)
    have hle : (row.length : Int) ≤ 4 := by omega
    have HLE := Lib.hid (decide_eq_true hle)
    clear h4 hle
    go_enter Tryz.func163, Tryz.ntmps163
    go_wp2_with fail
    refine (areUpToint_any 4 176 #[] (fun n => inB n 0 12) row _ _ HV.out HK.out enters_isSetupTime (fun x v w _ _ hx => by obtain rfl : v = .int .i64 x := hx; exact isSetupTime_any x w)).mono ?_
    rintro e w1 ⟨rfl, b⟩
    have B := Lib.hid b
    clear b
    rw [HLE.out]
    go_wp2
    go_ret
    exact ⟨ret_boo (by rw [← RES.out, rowB, H4.out]; rfl), B.out⟩
  · have h4' : ((row.length : Int) == 4) = false := by simp [h4]
    have H4 := Lib.hid (decide_eq_false h4)
    clear h4
    go_enter Tryz.func163, Tryz.ntmps163
    go_wp2
    go_ret
    exact ⟨ret_boo (by rw [← RES.out, rowB, H4.out]; rfl), Below.refl _ _⟩
theorem enters_isSetupRow : ∀ args w, (callFunc 163 args).run Tryz.prog w = .ok (.enter 163 args) w := enters_of Tryz.func163 (by kernel_rfl) rfl

set_option maxRecDepth 100000 in
theorem isSetup_any (su : List (List Int)) (v : Value) (w : World) (hv : (trSu su).rd w v) (hk : (trSu su).ok) :
    Calls Tryz.prog 143 #[v] w fun e w' => e = .returned (.bool (decide ((su.length : Int) = 4) && su.all rowB)) ∧ Below w.heap.size w w' := by
  obtain ⟨A, c, rfl⟩ := rows_slice hv
  have HV := Lib.hid hv
  have HK := Lib.hid hk
  clear hv hk
  generalize hres : (decide ((su.length : Int) = 4) && su.all rowB) = res
  have RES := Lib.hid hres
  clear hres
  by_cases h4 : (su.length : Int) = 4
  · have h4' : ((su.length : Int) == 4) = true := by simp [h4]
    have H4 := Lib.hid (decide_eq_true h4)
    have hle : (su.length : Int) ≤ 4 := by omega
    have HLE := Lib.hid (decide_eq_true hle)
    clear h4 hle
    go_enter Tryz.func143, Tryz.ntmps143
    go_wp2_with fail
    refine (areUpToInt_any 4 163 #[] rowB su _ _ HV.out HK.out enters_isSetupRow (fun x v w _ hx hr => isSetupRow_any x v w hr hx)).mono ?_
    rintro e w1 ⟨rfl, b⟩
    have B := Lib.hid b
    clear b
    rw [HLE.out]
    go_wp2
    go_ret
    exact ⟨ret_boo (by rw [← RES.out, H4.out]; rfl), B.out⟩
  · have h4' : ((su.length : Int) == 4) = false := by simp [h4]
    have H4 := Lib.hid (decide_eq_false h4)
    clear h4
    go_enter Tryz.func143, Tryz.ntmps143
    go_wp2
    go_ret
    exact ⟨ret_boo (by rw [← RES.out, H4.out]; rfl), Below.refl _ _⟩

set_option maxRecDepth 100000 in
theorem implResourceOk_any (r : Rs) (v : Value) (w : World) (hv : (trR r).rd w v) (hk : (trR r).ok) :
    Calls Tryz.prog 121 #[v] w fun e w' => e = .returned (.bool (rokB r)) ∧ Below w.heap.size w w' := by
  obtain ⟨A0, c0, A1, c1, rfl, r0, r1⟩ := rdResource_t hv
  have R0 := Lib.hid r0
  have R1 := Lib.hid r1
  have K1 := Lib.hid hk.2.1
  clear hv r0 r1 hk
  generalize hres : rokB r = res
  have RES := Lib.hid hres
  clear hres
  have S0 := Lib.hid ((Sn.start w).box 98 [.slice A0 r.st.length c0, .slice A1 r.su.length c1])
  go_enter Tryz.func121, Tryz.ntmps121
  go_wp2_with fail
  refine (implStepsOk_any r.st _ _ (rdP_st (by exact S0.out.old R0.out))).mono ?_
  rintro e w1 ⟨rfl, b⟩
  have S1 := Lib.hid (S0.out.go b)
  clear S0 b
  rcases hs : okP r.st with _ | _
  · have HS := Lib.hid hs
    clear hs
    go_wp2
    go_ret
    exact ⟨ret_boo (by rw [← RES.out, rokB, HS.out]; simp), S1.out.1⟩
  have HS := Lib.hid hs
  clear hs
  obtain ⟨e0, e1, ef⟩ := (S1.out.bk 0 rfl).c2
  by_cases h0 : (r.su.length : Int) = 0
  · have h0' : ((r.su.length : Int) == 0) = true := beq_iff_eq.2 h0
    have HE : Hid (r.su = []) := Lib.hid (List.eq_nil_of_length_eq_zero (by omega))
    clear h0
    go_wp2
    go_ret
    exact ⟨ret_boo (by rw [← RES.out, rokB, HE.out, HS.out]; rfl), S1.out.1⟩
  · have h0' : ((r.su.length : Int) == 0) = false := beq_eq_false_iff_ne.2 h0
    have H0 := Lib.hid (decide_eq_false h0)
    clear h0
    go_wp2_with fail
    clear e0 e1 ef
    refine (isSetup_any r.su _ _ (by exact S1.out.old R1.out) K1.out).mono ?_
    rintro e w2 ⟨rfl, b⟩
    have S2 := Lib.hid (S1.out.go b)
    clear S1 b
    go_wp2
    go_ret
    exact ⟨ret_boo (by rw [← RES.out, rokB, HS.out, H0.out]; simp [Bool.and_comm]), S2.out.1⟩
end Go.Proofs.YtgbpomakomddjabGreatDoor
