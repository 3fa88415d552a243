/- DERIVED. CONTRACTS: TopologicalOrder, of the model and of the program. -/
import Derived.Test.YtfdhoddooeedoaaGreatLkGa
import Derived.Test.YtfdhoddooeedoaaGreatSets
namespace Go.Proofs.YtfdhoddooeedoaaGreat
open Go.RowKit Go.Shelf
set_option linter.unusedVariables false

def firstV : Option Nat → Value
  | some a => .tuple #[.int .i64 (a : Int), .bool true]
  | none => .tuple #[.int .i64 0, .bool false]
theorem okA_eq (p : Pj) (D : List Int) (i : Nat) : okA p D i = (!(hasB D (i : Int)) && readyB p (i : Int) D) := rfl

set_option maxRecDepth 100000 in
set_option maxHeartbeats 8000000 in
theorem specReady_any (p : Pj) (a : Int) (D : List Int) (v u : Value) (w : World) (hv : (trPj p).rd w v) (hu : Rd w u (D.map (.int .i64))) (hok : pokB p = true) :
    Calls Tryz.prog 54 #[v, .int .i64 a, u] w fun e w' => e = .returned (.bool (readyB p a D)) ∧ Below w.heap.size w w' := by
  have HV := Lib.hid hv
  obtain ⟨A1, c1, A2, c2, A3, c3, A4, c4, rfl, r1, r2, r3, r4⟩ := rdProject_t hv
  obtain ⟨hl2, B2, d2, he, g2⟩ := rdLinkS_t r2
  injection he with he _ he2
  subst he he2
  have G2 := Lib.hid g2
  clear hv r1 r2 r3 r4 g2
  have HU := Lib.hid hu
  have HOK := Lib.hid hok
  clear hu hok

  have S0 := Lib.hid ((Sn.start w).box 34 [.int .i64 p.dl, .slice A1 p.acts.length c1, .slice A2 p.lks.length c2, .slice A3 p.ress.length c3, .slice A4 p.stk.length c4])
  go_enter Tryz.func54, Tryz.ntmps54
  obtain ⟨e0, e1, e2, e3, e4, ef⟩ := (S0.out.bk 0 rfl).c5
  go_wp2
  clear e0 e1 e2 e3 e4 ef
  go_loopw [12] (fun i wr => ∃ k : Nat, k ≤ p.lks.length ∧ i = .int .i64 k ∧ readyK p a D k = true ∧ Sn w wr [boxI w.heap.size 34 [.int .i64 p.dl, .slice A1 p.acts.length c1, .slice A2 p.lks.length c2, .slice A3 p.ress.length c3, .slice A4 p.stk.length c4]]) (fun i _ => p.lks.length - (intOf i).toNat)
  case atStart => exact ⟨0, Nat.zero_le _, rfl, rfl, S0.out⟩
  case round =>
    obtain ⟨k, hkl, rfl, hrd, hS⟩ := hrel
    have S1 := Lib.hid hS
    have HR := Lib.hid hrd
    clear hS S0 hrd
    by_cases hlt : k < p.lks.length
    · have hlt' : (k : Int) < (p.lks.length : Int) := by omega
      obtain ⟨b, o, rfl, hb, hc⟩ := G2.out k hlt
      obtain ⟨y0, y1, y2, y3⟩ := hc k hlt
      have hx0 := (S1.out.1.cell (p := ⟨b, o + k * 4, none⟩) hb).trans y0
      have hx1 := (S1.out.1.cell (p := ⟨b, o + k * 4 + 1, none⟩) hb).trans y1
      have hx2 := (S1.out.1.cell (p := ⟨b, o + k * 4 + 2, none⟩) hb).trans y2
      have hx3 := (S1.out.1.cell (p := ⟨b, o + k * 4 + 3, none⟩) hb).trans y3
      clear hc y0 y1 y2 y3
      have NX := Lib.hid (readyK_succ (a := a) (done := D) hlt)
      have RN := Lib.hid (fun h1 h2 h3 => ready_no (a := a) (done := D) hlt h1 h2 h3)

      generalize hm : p.lks[k] = m at hx0 hx1 hx2 hx3 NX RN
      have HM := Lib.hid hm
      clear hm
      have S2 := Lib.hid (S1.out.box 88 [.int .i64 m.fr, .int .i64 m.to, .bool m.fe, .int .i64 m.lag])
      clear S1
      by_cases ha : m.to = a
      · have NX1 := Lib.hid (show readyK p a D (k + 1) = !(decide (0 < gapA p m) && !(hasB D m.fr)) from by rw [NX.out, HR.out, decide_eq_true ha]; simp)
        have RN1 := Lib.hid (fun h2 h3 => RN.out ha h2 h3)
        clear NX RN HR
        subst ha

        obtain ⟨e0, e1, e2, e3, e4, ef⟩ := (S2.out.bk 1 rfl).c5
        go_wp2_with fail
        refine (specAll_any p k _ _ (by exact S2.out.old HV.out) HOK.out hlt).mono ?_
        rintro e w5 ⟨rfl, b5⟩
        rw [HM.out]
        clear e0 e1 e2 e3 e4 ef
        have S3 := Lib.hid (S2.out.go b5)
        clear b5 S2
        generalize gapA p m = gp at NX1 RN1 ⊢
        obtain ⟨q0, q1, q2, q3, qf⟩ := (S3.out.bk 0 rfl).c4

        by_cases hgp : 0 < gp
        · have HGP := Lib.hid hgp
          go_wp2_with fail
          clear q0 q1 q2 q3 qf
          refine (hasS_any D m.fr _ _ (by exact HU.out.below S3.out.1 (Nat.le_refl _))).mono ?_
          rintro e w6 ⟨rfl, hw⟩
          subst hw
          rcases hh : hasB D m.fr with _ | _
          · have HN := Lib.hid (RN1.out HGP.out hh)
            clear NX1 RN1 hh
            go_wp2
            go_ret
            exact ⟨by rw [HN.out]; try rfl, S3.out.1⟩
          have HH := Lib.hid hh
          clear hh
          have HN := Lib.hid (show readyK p m.to D (k + 1) = true from NX1.out.trans (by rw [HH.out]; simp))
          clear NX1 RN1
          have S4 := Lib.hid (S3.out.drop 0)
          clear S3
          go_wp2
          go_roundw
          case rel => exact ⟨k + 1, by omega, by go_num, HN.out, S4.out⟩
          case measure => simp [intOf]; omega
        · have HGP := Lib.hid (decide_eq_false hgp)
          clear q0 q1 q2 q3 qf
          have HN := Lib.hid (show readyK p m.to D (k + 1) = true from NX1.out.trans (by rw [HGP.out]; simp))
          clear NX1 RN1
          have S4 := Lib.hid (S3.out.drop 0)
          clear S3
          go_wp2
          go_roundw
          case rel => exact ⟨k + 1, by omega, by go_num, HN.out, S4.out⟩
          case measure => simp [intOf]; omega
      · have HA := Lib.hid (decide_eq_false ha)
        have S3 := Lib.hid S2.out
        clear S2

        have HN := Lib.hid (show readyK p a D (k + 1) = true from NX.out.trans (by rw [HR.out, HA.out]; simp))
        clear NX RN HR
        have S4 := Lib.hid (S3.out.drop 0)
        clear S3
        go_wp2
        go_roundw
        case rel => exact ⟨k + 1, by omega, by go_num, HN.out, S4.out⟩
        case measure => simp [intOf]; omega

    · have hge : ¬ (k : Int) < (p.lks.length : Int) := by omega
      obtain rfl : k = p.lks.length := by omega
      go_wp2
      go_ret
      exact ⟨by rw [readyB, HR.out]; try rfl, S1.out.1⟩


set_option maxRecDepth 100000 in
set_option maxHeartbeats 8000000 in
theorem implReady_any (p : Pj) (a : Int) (D : List Int) (v u : Value) (ug : Value) (w : World) (hv : (trPj p).rd w v) (hu : Rd w u (D.map (.int .i64))) (hg : Rd w ug ((gapsL p).map (.int .i64))) (hok : pokB p = true) :
    Calls Tryz.prog 91 #[v, ug, u, .int .i64 a] w fun e w' => e = .returned (.bool (readyB p a D)) ∧ Below w.heap.size w w' := by
  have HV := Lib.hid hv
  obtain ⟨A1, c1, A2, c2, A3, c3, A4, c4, rfl, r1, r2, r3, r4⟩ := rdProject_t hv
  obtain ⟨hl2, B2, d2, he, g2⟩ := rdLinkS_t r2
  injection he with he _ he2
  subst he he2
  have G2 := Lib.hid g2
  clear hv r1 r2 r3 r4 g2
  have HU := Lib.hid hu
  have HOK := Lib.hid hok
  clear hu hok

  obtain ⟨hgl, AG, cG, hge, gg⟩ := rdI hg
  subst hge
  have GG := Lib.hid gg
  clear gg hgl hg
  rw [gapsL_len]

  have S0 := Lib.hid ((Sn.start w).box 34 [.int .i64 p.dl, .slice A1 p.acts.length c1, .slice A2 p.lks.length c2, .slice A3 p.ress.length c3, .slice A4 p.stk.length c4])
  go_enter Tryz.func91, Tryz.ntmps91
  obtain ⟨e0, e1, e2, e3, e4, ef⟩ := (S0.out.bk 0 rfl).c5
  go_wp2
  clear e0 e1 e2 e3 e4 ef
  go_loopw [14] (fun i wr => ∃ k : Nat, k ≤ p.lks.length ∧ i = .int .i64 k ∧ readyK p a D k = true ∧ Sn w wr [boxI w.heap.size 34 [.int .i64 p.dl, .slice A1 p.acts.length c1, .slice A2 p.lks.length c2, .slice A3 p.ress.length c3, .slice A4 p.stk.length c4]]) (fun i _ => p.lks.length - (intOf i).toNat)
  case atStart => exact ⟨0, Nat.zero_le _, rfl, rfl, S0.out⟩
  case round =>
    obtain ⟨k, hkl, rfl, hrd, hS⟩ := hrel
    have S1 := Lib.hid hS
    have HR := Lib.hid hrd
    clear hS S0 hrd
    by_cases hlt : k < p.lks.length
    · have hlt' : (k : Int) < (p.lks.length : Int) := by omega
      obtain ⟨b, o, rfl, hb, hc⟩ := G2.out k hlt
      obtain ⟨y0, y1, y2, y3⟩ := hc k hlt
      have hx0 := (S1.out.1.cell (p := ⟨b, o + k * 4, none⟩) hb).trans y0
      have hx1 := (S1.out.1.cell (p := ⟨b, o + k * 4 + 1, none⟩) hb).trans y1
      have hx2 := (S1.out.1.cell (p := ⟨b, o + k * 4 + 2, none⟩) hb).trans y2
      have hx3 := (S1.out.1.cell (p := ⟨b, o + k * 4 + 3, none⟩) hb).trans y3
      clear hc y0 y1 y2 y3
      have NX := Lib.hid (readyK_succ (a := a) (done := D) hlt)
      have RN := Lib.hid (fun h1 h2 h3 => ready_no (a := a) (done := D) hlt h1 h2 h3)

      obtain ⟨b4, o4, rfl, hb4, hc4⟩ := GG.out k (by rw [gapsL_len]; exact hlt)
      have hg0 := (S1.out.1.cell (p := ⟨b4, o4 + k, none⟩) hb4).trans (hc4 k (by rw [gapsL_len]; exact hlt))
      rw [gapsL_at hlt] at hg0
      have hb4w : b4 < wr.heap.size := Nat.lt_of_lt_of_le hb4 S1.out.1.size
      clear hc4

      generalize hm : p.lks[k] = m at hx0 hx1 hx2 hx3 NX RN hg0
      have HM := Lib.hid hm
      clear hm
      have S2 := Lib.hid (S1.out.box 88 [.int .i64 m.fr, .int .i64 m.to, .bool m.fe, .int .i64 m.lag])
      clear S1
      by_cases ha : m.to = a
      · have NX1 := Lib.hid (show readyK p a D (k + 1) = !(decide (0 < gapA p m) && !(hasB D m.fr)) from by rw [NX.out, HR.out, decide_eq_true ha]; simp)
        have RN1 := Lib.hid (fun h2 h3 => RN.out ha h2 h3)
        clear NX RN HR
        subst ha

        generalize gapA p m = gp at NX1 RN1 hg0 ⊢
        have hg1 : ∀ ob, (World.alloc wr ob).cell? ⟨b4, o4 + k, none⟩ = some (.int .i64 gp) := fun ob => (((Below.refl wr.heap.size wr).alloc (Nat.le_refl _) ob).cell (p := ⟨b4, o4 + k, none⟩) hb4w).trans hg0
        have S3 := Lib.hid S2.out
        clear S2

        by_cases hgp : 0 < gp
        · have HGP := Lib.hid hgp
          go_wp2_with fail
          skip
          refine (implHas_any D m.fr _ _ (by exact HU.out.below S3.out.1 (Nat.le_refl _))).mono ?_
          rintro e w6 ⟨rfl, hw⟩
          subst hw
          rcases hh : hasB D m.fr with _ | _
          · have HN := Lib.hid (RN1.out HGP.out hh)
            clear NX1 RN1 hh
            go_wp2
            go_ret
            exact ⟨by rw [HN.out]; try rfl, S3.out.1⟩
          have HH := Lib.hid hh
          clear hh
          have HN := Lib.hid (show readyK p m.to D (k + 1) = true from NX1.out.trans (by rw [HH.out]; simp))
          clear NX1 RN1
          have S4 := Lib.hid (S3.out.drop 0)
          clear S3
          go_wp2
          go_roundw
          case rel => exact ⟨k + 1, by omega, by go_num, HN.out, S4.out⟩
          case measure => simp [intOf]; omega
        · have HGP := Lib.hid (decide_eq_false hgp)
          skip
          have HN := Lib.hid (show readyK p m.to D (k + 1) = true from NX1.out.trans (by rw [HGP.out]; simp))
          clear NX1 RN1
          have S4 := Lib.hid (S3.out.drop 0)
          clear S3
          go_wp2
          go_roundw
          case rel => exact ⟨k + 1, by omega, by go_num, HN.out, S4.out⟩
          case measure => simp [intOf]; omega
      · have HA := Lib.hid (decide_eq_false ha)
        have S3 := Lib.hid S2.out
        clear S2

        have HN := Lib.hid (show readyK p a D (k + 1) = true from NX.out.trans (by rw [HR.out, HA.out]; simp))
        clear NX RN HR
        have S4 := Lib.hid (S3.out.drop 0)
        clear S3
        go_wp2
        go_roundw
        case rel => exact ⟨k + 1, by omega, by go_num, HN.out, S4.out⟩
        case measure => simp [intOf]; omega

    · have hge : ¬ (k : Int) < (p.lks.length : Int) := by omega
      obtain rfl : k = p.lks.length := by omega
      go_wp2
      go_ret
      exact ⟨by rw [readyB, HR.out]; try rfl, S1.out.1⟩


set_option maxRecDepth 100000 in
set_option maxHeartbeats 8000000 in
theorem implFirst_any (p : Pj) (D : List Int) (v ug u : Value) (w : World) (hv : (trPj p).rd w v) (hg : Rd w ug ((gapsL p).map (.int .i64))) (hu : Rd w u (D.map (.int .i64))) (hok : pokB p = true) :
    Calls Tryz.prog 55 #[v, ug, u] w fun e w' => e = .returned (firstV (firstB p D)) ∧ Below w.heap.size w w' := by
  have HV := Lib.hid hv
  obtain ⟨A1, c1, A2, c2, A3, c3, A4, c4, rfl, r1, r2, r3, r4⟩ := rdProject_t hv
  obtain ⟨hl2, B2, d2, he, g2⟩ := rdLinkS_t r2
  injection he with he _ he2
  subst he he2
  have G2 := Lib.hid g2
  clear hv r1 r2 r3 r4 g2
  have HU := Lib.hid hu
  have HG := Lib.hid hg
  have HOK := Lib.hid hok
  have h6 := (pok_acts hok).1
  clear hu hok hg G2
  have S0 := Lib.hid ((Sn.start w).box 34 [.int .i64 p.dl, .slice A1 p.acts.length c1, .slice A2 p.lks.length c2, .slice A3 p.ress.length c3, .slice A4 p.stk.length c4])
  go_enter Tryz.func55, Tryz.ntmps55
  obtain ⟨e0, e1, e2, e3, e4, ef⟩ := (S0.out.bk 0 rfl).c5
  go_wp2
  clear e0 e1 e2 e3 e4 ef
  go_loopw [12] (fun i wr => ∃ k : Nat, k ≤ p.acts.length ∧ i = .int .i64 k ∧ (∀ j, j < k → okA p D j = false) ∧ Sn w wr [boxI w.heap.size 34 [.int .i64 p.dl, .slice A1 p.acts.length c1, .slice A2 p.lks.length c2, .slice A3 p.ress.length c3, .slice A4 p.stk.length c4]]) (fun i _ => p.acts.length - (intOf i).toNat)
  case atStart => exact ⟨0, Nat.zero_le _, rfl, fun j h => absurd h (by omega), S0.out⟩
  case round =>
    obtain ⟨k, hkl, rfl, hall, hS⟩ := hrel
    have S1 := Lib.hid hS
    have HALL := Lib.hid hall
    clear hS S0 hall
    by_cases hlt : k < p.acts.length
    · have hlt' : (k : Int) < (p.acts.length : Int) := by omega
      go_wp2_with fail
      refine (implHas_any D (k : Int) _ _ (by exact HU.out.below S1.out.1 (Nat.le_refl _))).mono ?_
      rintro e w6 ⟨rfl, hw⟩
      subst hw
      rcases hh : hasB D (k : Int) with _ | _
      · have HH := Lib.hid hh
        clear hh
        obtain ⟨e0, e1, e2, e3, e4, ef⟩ := (S1.out.bk 0 rfl).c5
        go_wp2_with fail
        clear e0 e1 e2 e3 e4 ef
        refine (implReady_any p (k : Int) D _ _ _ _ (by exact S1.out.old HV.out) (by exact HU.out.below S1.out.1 (Nat.le_refl _)) (by exact HG.out.below S1.out.1 (Nat.le_refl _)) HOK.out).mono ?_
        rintro e w7 ⟨rfl, b7⟩
        have S2 := Lib.hid (S1.out.go b7)
        clear b7 S1
        rcases hr : readyB p (k : Int) D with _ | _
        · have HN := Lib.hid (fun j (hj : j < k + 1) => (if h : j < k then HALL.out j h else by obtain rfl : j = k := (by omega); rw [okA_eq, hr, Bool.and_false] : okA p D j = false))
          clear hr
          go_wp2
          go_roundw
          case rel => exact ⟨k + 1, by omega, by go_num, HN.out, S2.out⟩
          case measure => simp [intOf]; omega
        · have HF := Lib.hid (first_yes hlt (by rw [okA_eq, hr, HH.out] <;> rfl) HALL.out)
          clear hr
          go_wp2
          refine bodyPost_ret (v := .tuple #[.int .i64 (k : Int), .bool true]) (by simp [results, Tryz.results55, go_sem]) rfl ⟨by rw [HF.out] <;> rfl, S2.out.1⟩
      · have HN := Lib.hid (fun j (hj : j < k + 1) => (if h : j < k then HALL.out j h else by obtain rfl : j = k := (by omega); rw [okA_eq, hh] <;> rfl : okA p D j = false))
        clear hh
        go_wp2
        go_roundw
        case rel => exact ⟨k + 1, by omega, by go_num, HN.out, S1.out⟩
        case measure => simp [intOf]; omega
    · have hge : ¬ (k : Int) < (p.acts.length : Int) := by omega
      obtain rfl : k = p.acts.length := by omega
      have HF := Lib.hid (first_no HALL.out)
      go_wp2
      refine bodyPost_ret (v := .tuple #[.int .i64 0, .bool false]) (by simp [results, Tryz.results55, go_sem]) rfl ⟨by rw [HF.out] <;> rfl, S1.out.1⟩

end Go.Proofs.YtfdhoddooeedoaaGreat
