/- DERIVED. CONTRACT: ProjectOk of the model. -/
import Derived.Test.YtdbnhdiboemmiabGreatPrC
namespace Go.Proofs.YtdbnhdiboemmiabGreat
open Go.RowKit Go.Shelf
set_option linter.unusedVariables false

set_option maxRecDepth 100000 in
set_option maxHeartbeats 4000000 in
theorem specProjectOk_any (p : Pj) (v : Value) (w : World) (hv : (trPj p).rd w v) (hk : (trPj p).ok) :
    Calls Tryz.prog 46 #[v] w fun e w' => e = .returned (.bool (pokB p)) ∧ Below w.heap.size w w' := by
  have HV := Lib.hid hv
  obtain ⟨A1, c1, A2, c2, A3, c3, A4, c4, rfl, r1, r2, r3, r4⟩ := rdProject_t hv
  have KA := Lib.hid (okL_flat (f := cellsA) (xs := p.acts) hk.2.1)
  obtain ⟨hl1, B1, d1, he, g1⟩ := rdActivityS_t r1
  injection he with he _ he2
  subst he he2
  obtain ⟨hl2, B2, d2, he, g2⟩ := rdLinkS_t r2
  injection he with he _ he2
  subst he he2
  obtain ⟨hl3, B3, d3, he, g3⟩ := rdResourceS_t r3
  injection he with he _ he2
  subst he he2
  obtain ⟨hl4, B4, d4, he, g4⟩ := rdI (rd_flat r4)
  injection he with he _ he2
  subst he he2
  have G1 := Lib.hid g1
  have G2 := Lib.hid g2
  have G3 := Lib.hid g3
  have G4 := Lib.hid g4
  unfold maxLen at hl4
  clear hv r1 r2 r3 r4 g1 g2 g3 g4 hk
  generalize hres : pokB p = res
  have RES := Lib.hid hres
  clear hres
  have S0 := Lib.hid ((Sn.start w).box 39 [.int .i64 p.dl, .slice A1 p.acts.length c1, .slice A2 p.lks.length c2, .slice A3 p.ress.length c3, .slice A4 p.stk.length c4])
  go_enter Tryz.func46, Tryz.ntmps46
  go_wp2_with fail
  refine (inD_any _ _ _ _).mono ?_
  rintro e w1 ⟨rfl, hw⟩
  subst hw
  rcases h1 : inB p.dl 1 60 with _ | _
  · have H1 := Lib.hid h1
    clear h1
    go_wp2
    go_ret
    exact ⟨ret_boo (by rw [← RES.out, pokB, H1.out]; rfl), S0.out.1⟩
  have H1 := Lib.hid h1
  clear h1
  go_wp2_with fail
  refine (inD_any _ _ _ _).mono ?_
  rintro e w1 ⟨rfl, hw⟩
  subst hw
  rcases h2 : inB (p.acts.length : Int) 1 6 with _ | _
  · have H2 := Lib.hid h2
    clear h2
    go_wp2
    go_ret
    exact ⟨ret_boo (by rw [← RES.out, pokB, H2.out]; simp), S0.out.1⟩
  have hn6 := (inB_iff.1 h2).2
  have H2 := Lib.hid h2
  clear h2
  by_cases h3 : (3 : Int) < (p.ress.length : Int)
  · have H3 := Lib.hid (decide_eq_false (show ¬ (p.ress.length : Int) ≤ 3 by omega))
    go_wp2
    go_ret
    exact ⟨ret_boo (by rw [← RES.out, pokB, H3.out]; simp), S0.out.1⟩
  have H3 := Lib.hid (decide_eq_true (show (p.ress.length : Int) ≤ 3 by omega))
  by_cases h4 : (2 : Int) < (p.stk.length : Int)
  · have H4 := Lib.hid (decide_eq_false (show ¬ (p.stk.length : Int) ≤ 2 by omega))
    go_wp2
    go_ret
    exact ⟨ret_boo (by rw [← RES.out, pokB, H4.out]; simp), S0.out.1⟩
  have H4 := Lib.hid (decide_eq_true (show (p.stk.length : Int) ≤ 2 by omega))
  by_cases h5 : (12 : Int) < (p.lks.length : Int)
  · have H5 := Lib.hid (decide_eq_false (show ¬ (p.lks.length : Int) ≤ 12 by omega))
    go_wp2
    go_ret
    exact ⟨ret_boo (by rw [← RES.out, pokB, H5.out]; simp), S0.out.1⟩
  have H5 := Lib.hid (decide_eq_true (show (p.lks.length : Int) ≤ 12 by omega))
  go_wp2
  go_loopw [45] (fun i wr => ∃ k : Nat, k ≤ p.acts.length ∧ i = .int .i64 k ∧ Sn w wr [boxI w.heap.size 39 [.int .i64 p.dl, .slice A1 p.acts.length c1, .slice A2 p.lks.length c2, .slice A3 p.ress.length c3, .slice A4 p.stk.length c4]] ∧ (∀ j, (hj : j < p.acts.length) → j < k → aokB p.acts[j] p.ress.length p.stk.length = true) ∧ ∀ j, (hj : j < p.acts.length) → j < k → plcB p.acts p.acts[j].nm = (j : Int)) (fun i _ => p.acts.length - (intOf i).toNat)
  case atStart => exact ⟨0, Nat.zero_le _, rfl, S0.out, fun j _ h => absurd h (by omega), fun j _ h => absurd h (by omega)⟩
  case round =>
    obtain ⟨k, hkl, rfl, hS, hall, hown⟩ := hrel
    have S1 := Lib.hid hS
    clear hS S0
    by_cases hlt : k < p.acts.length
    · have hlt' : (k : Int) < (p.acts.length : Int) := by omega
      obtain ⟨b, o, rfl, hb, hc⟩ := G1.out k hlt
      obtain ⟨U, cu, y0, y1, y2, ru⟩ := hc k hlt
      have hx0 := (S1.out.1.cell (p := ⟨b, o + k * 3, none⟩) hb).trans y0
      have hx1 := (S1.out.1.cell (p := ⟨b, o + k * 3 + 1, none⟩) hb).trans y1
      have hx2 := (S1.out.1.cell (p := ⟨b, o + k * 3 + 2, none⟩) hb).trans y2
      have RA := Lib.hid (mk_rdActivity_t (d := p.acts[k]) ru)
      have KK := Lib.hid (KA.out _ (List.getElem_mem hlt)).1
      clear hc y0 y1 y2 ru
      obtain ⟨e0, e1, e2, e3, e4, ef⟩ := (S1.out.bk 0 rfl).c5
      have hbs := (S1.out.bk 0 rfl).lt
      have NO := Lib.hid (fun h => ownB_no hlt h)
      have YES := Lib.hid (fun h => step_all' hlt hown h)
      have NA := Lib.hid (fun h => all_noG (f := fun a : Ac => aokB a p.ress.length p.stk.length) hlt h)
      have YA := Lib.hid (fun h => step_all (p := fun a : Ac => aokB a p.ress.length p.stk.length = true) hlt hall h)
      clear hall hown
      generalize p.acts[k] = m at hx0 hx1 hx2 NO YES NA YA RA KK
      go_wp2_with fail
      have S2 := Lib.hid (S1.out.box 58 [.string m.nm, .int .i64 m.fa, .slice U m.ms.length cu])
      clear e0 e1 e2 e3 e4 ef hbs
      refine (specActivityOk_any m _ _ _ _ KK.out (by exact S2.out.old RA.out)).mono ?_
      rintro e w1 ⟨rfl, b2⟩
      have S3 := Lib.hid (S2.out.go b2)
      clear S2 b2 S1
      rcases ha : aokB m p.ress.length p.stk.length with _ | _
      · have HN := Lib.hid (NA.out ha)
        clear ha
        go_wp2
        go_ret
        exact ⟨ret_boo (by rw [← RES.out, pokB, HN.out]; simp), S3.out.1⟩
      have HA := Lib.hid (YA.out ha)
      clear ha
      obtain ⟨e0, e1, e2, e3, e4, ef⟩ := (S3.out.bk 1 rfl).c5
      have hbs := (S3.out.bk 1 rfl).lt
      obtain ⟨f0, f1, f2, ff⟩ := (S3.out.bk 0 rfl).c3
      go_wp2_with fail
      clear e0 e1 e2 e3 e4 ef hbs f0 f1 f2 ff
      refine (specActivityIndex_any p m.nm _ _ (by exact S3.out.old HV.out)).mono ?_
      rintro e w2 ⟨rfl, b2⟩
      have S4 := Lib.hid (S3.out.go b2)
      clear S3 b2
      generalize plcB p.acts m.nm = z at NO YES
      by_cases hz : z = (k : Int)
      · have hz' : (z != (k : Int)) = false := by simp [hz]
        have ST := Lib.hid (YES.out hz)
        clear hz YES NO
        go_wp2
        go_roundw
        case rel => exact ⟨k + 1, by omega, by go_num, S4.out.drop 0, HA.out, ST.out⟩
        case measure => simp [intOf]; omega
      · have hz' : (z != (k : Int)) = true := by simp [hz]
        have HN := Lib.hid (NO.out hz)
        clear hz YES NO
        go_wp2
        go_ret
        exact ⟨ret_boo (by rw [← RES.out, pokB, HN.out]; simp), S4.out.1⟩
    · have hge : ¬ (k : Int) < (p.acts.length : Int) := by omega
      have HYA := Lib.hid (all_yesG (f := fun a : Ac => aokB a p.ress.length p.stk.length) (fun j hj => hall j hj (by omega)))
      have HYO := Lib.hid (ownB_yes (fun j hj => hown j hj (by omega)))
      clear hall hown
      obtain ⟨e0, e1, e2, e3, e4, ef⟩ := (S1.out.bk 0 rfl).c5
      go_wp2
      clear e0 e1 e2 e3 e4 ef
      go_loopw [71] (fun i wr => ∃ k : Nat, k ≤ p.ress.length ∧ i = .int .i64 k ∧ Sn w wr [boxI w.heap.size 39 [.int .i64 p.dl, .slice A1 p.acts.length c1, .slice A2 p.lks.length c2, .slice A3 p.ress.length c3, .slice A4 p.stk.length c4]] ∧ ∀ j, (hj : j < p.ress.length) → j < k → rokB p.ress[j] = true) (fun i _ => p.ress.length - (intOf i).toNat)
      case atStart => exact ⟨0, Nat.zero_le _, rfl, S1.out, fun j _ h => absurd h (by omega)⟩
      case round =>
        obtain ⟨k2, hkl2, rfl, hS, hall⟩ := hrel
        have S2 := Lib.hid hS
        clear hS S1
        by_cases hlt : k2 < p.ress.length
        · have hlt' : (k2 : Int) < (p.ress.length : Int) := by omega
          obtain ⟨b, o, rfl, hb, hc⟩ := G3.out k2 hlt
          obtain ⟨U, cu, T, ct, y0, y1, ru, rt⟩ := hc k2 hlt
          have hx0 := (S2.out.1.cell (p := ⟨b, o + k2 * 2, none⟩) hb).trans y0
          have hx1 := (S2.out.1.cell (p := ⟨b, o + k2 * 2 + 1, none⟩) hb).trans y1
          have RA := Lib.hid (mk_rdResource_t (d := p.ress[k2]) ru rt)
          clear hc y0 y1 ru rt
          have NA := Lib.hid (fun h => all_noG (f := rokB) hlt h)
          have YA := Lib.hid (fun h => step_all (p := fun a : Rs => rokB a = true) hlt hall h)
          clear hall
          generalize p.ress[k2] = m at hx0 hx1 NA YA RA
          go_wp2_with fail
          have S3 := Lib.hid (S2.out.box 97 [.slice U m.st.length cu, .slice T m.su.length ct])
          refine (specResourceOk_any m _ _ (by exact S3.out.old RA.out)).mono ?_
          rintro e w1 ⟨rfl, b2⟩
          have S4 := Lib.hid (S3.out.go b2)
          clear S3 b2 S2
          rcases ha : rokB m with _ | _
          · have HN := Lib.hid (NA.out ha)
            clear ha
            go_wp2
            go_ret
            exact ⟨ret_boo (by rw [← RES.out, pokB, HN.out]; simp), S4.out.1⟩
          · have HA := Lib.hid (YA.out ha)
            clear ha
            go_wp2
            go_roundw
            case rel => exact ⟨k2 + 1, by omega, by go_num, S4.out.drop 0, HA.out⟩
            case measure => simp [intOf]; omega
        · have hge2 : ¬ (k2 : Int) < (p.ress.length : Int) := by omega
          have HYR := Lib.hid (all_yesG (f := rokB) (fun j hj => hall j hj (by omega)))
          clear hall
          obtain ⟨e0, e1, e2, e3, e4, ef⟩ := (S2.out.bk 0 rfl).c5
          go_wp2
          clear e0 e1 e2 e3 e4 ef
          go_loopw [82] (fun i wr => ∃ k : Nat, k ≤ p.stk.length ∧ i = .int .i64 k ∧ Sn w wr [boxI w.heap.size 39 [.int .i64 p.dl, .slice A1 p.acts.length c1, .slice A2 p.lks.length c2, .slice A3 p.ress.length c3, .slice A4 p.stk.length c4]] ∧ ∀ j, (hj : j < p.stk.length) → j < k → inB p.stk[j] 0 100 = true) (fun i _ => p.stk.length - (intOf i).toNat)
          case atStart => exact ⟨0, Nat.zero_le _, rfl, S2.out, fun j _ h => absurd h (by omega)⟩
          case round =>
            obtain ⟨k3, hkl3, rfl, hS, hall⟩ := hrel
            have S3 := Lib.hid hS
            clear hS S2
            by_cases hlt : k3 < p.stk.length
            · have hlt' : (k3 : Int) < (p.stk.length : Int) := by omega
              obtain ⟨b, o, rfl, hb, hc⟩ := G4.out k3 hlt
              have hx0 := (S3.out.1.cell (p := ⟨b, o + k3, none⟩) hb).trans (hc k3 hlt)
              clear hc
              have NA := Lib.hid (fun h => all_noG (f := fun n => inB n 0 100) hlt h)
              have YA := Lib.hid (fun h => step_all (p := fun n => inB n 0 100 = true) hlt hall h)
              clear hall
              generalize p.stk[k3] = m at hx0 NA YA
              go_wp2_with fail
              refine (inD_any _ _ _ _).mono ?_
              rintro e w1 ⟨rfl, hw⟩
              subst hw
              rcases ha : inB m 0 100 with _ | _
              · have HN := Lib.hid (NA.out ha)
                clear ha
                go_wp2
                go_ret
                exact ⟨ret_boo (by rw [← RES.out, pokB, HN.out]; simp), S3.out.1⟩
              · have HA := Lib.hid (YA.out ha)
                clear ha
                go_wp2
                go_roundw
                case rel => exact ⟨k3 + 1, by omega, by go_num, S3.out, HA.out⟩
                case measure => simp [intOf]; omega
            · have hge3 : ¬ (k3 : Int) < (p.stk.length : Int) := by omega
              have HYS := Lib.hid (all_yesG (f := fun n => inB n 0 100) (fun j hj => hall j hj (by omega)))
              clear hall
              obtain ⟨e0, e1, e2, e3, e4, ef⟩ := (S3.out.bk 0 rfl).c5
              go_wp2
              clear e0 e1 e2 e3 e4 ef
              go_loopw [93] (fun i wr => ∃ k : Nat, k ≤ p.lks.length ∧ i = .int .i64 k ∧ Sn w wr [boxI w.heap.size 39 [.int .i64 p.dl, .slice A1 p.acts.length c1, .slice A2 p.lks.length c2, .slice A3 p.ress.length c3, .slice A4 p.stk.length c4]] ∧ ∀ j, (hj : j < p.lks.length) → j < k → lokB p.acts.length p.lks[j] = true) (fun i _ => p.lks.length - (intOf i).toNat)
              case atStart => exact ⟨0, Nat.zero_le _, rfl, S3.out, fun j _ h => absurd h (by omega)⟩
              case round =>
                obtain ⟨k4, hkl4, rfl, hS, hall⟩ := hrel
                have S4 := Lib.hid hS
                clear hS S3
                by_cases hlt : k4 < p.lks.length
                · have hlt' : (k4 : Int) < (p.lks.length : Int) := by omega
                  obtain ⟨b, o, rfl, hb, hc⟩ := G2.out k4 hlt
                  obtain ⟨y0, y1, y2, y3⟩ := hc k4 hlt
                  have hx0 := (S4.out.1.cell (p := ⟨b, o + k4 * 4, none⟩) hb).trans y0
                  have hx1 := (S4.out.1.cell (p := ⟨b, o + k4 * 4 + 1, none⟩) hb).trans y1
                  have hx2 := (S4.out.1.cell (p := ⟨b, o + k4 * 4 + 2, none⟩) hb).trans y2
                  have hx3 := (S4.out.1.cell (p := ⟨b, o + k4 * 4 + 3, none⟩) hb).trans y3
                  clear hc y0 y1 y2 y3
                  have NA := Lib.hid (fun h => all_noG (f := lokB p.acts.length) hlt h)
                  have YA := Lib.hid (fun h => step_all (p := fun l => lokB p.acts.length l = true) hlt hall h)
                  clear hall
                  generalize p.lks[k4] = m at hx0 hx1 hx2 hx3 NA YA
                  have HE := Lib.hid (S4.out.box 92 [.int .i64 m.fr, .int .i64 m.to, .bool m.fe, .int .i64 m.lag])
                  clear S4
                  go_wp2_with fail
                  refine (inD_any _ _ _ _).mono ?_
                  rintro e w1 ⟨rfl, hw⟩
                  subst hw
                  rcases ha : inB m.fr 0 ((p.acts.length : Int) - 1) with _ | _
                  · have HN := Lib.hid (NA.out (by rw [lokB, ha]; rfl))
                    clear ha
                    go_wp2
                    go_ret
                    exact ⟨ret_boo (by rw [← RES.out, pokB, HN.out]; simp), HE.out.1⟩
                  have HA := Lib.hid ha
                  clear ha
                  go_wp2_with fail
                  refine (inD_any _ _ _ _).mono ?_
                  rintro e w1 ⟨rfl, hw⟩
                  subst hw
                  rcases hb' : inB m.to 0 ((p.acts.length : Int) - 1) with _ | _
                  · have HN := Lib.hid (NA.out (by rw [lokB, hb']; simp))
                    clear hb'
                    go_wp2
                    go_ret
                    exact ⟨ret_boo (by rw [← RES.out, pokB, HN.out]; simp), HE.out.1⟩
                  have HB := Lib.hid hb'
                  clear hb'
                  by_cases hc : m.fr = m.to
                  · have hc' : (m.fr == m.to) = true := by simp [hc]
                    have HN := Lib.hid (NA.out (by rw [lokB, decide_eq_true hc]; simp))
                    clear hc
                    go_wp2
                    go_ret
                    exact ⟨ret_boo (by rw [← RES.out, pokB, HN.out]; simp), HE.out.1⟩
                  have hc' : (m.fr == m.to) = false := by simp [hc]
                  have HC := Lib.hid (decide_eq_false hc)
                  clear hc
                  go_wp2_with fail
                  refine (inD_any _ _ _ _).mono ?_
                  rintro e w1 ⟨rfl, hw⟩
                  subst hw
                  rcases hd : inB m.lag (-60) 60 with _ | _
                  · have HN := Lib.hid (NA.out (by rw [lokB, hd]; simp))
                    clear hd
                    go_wp2
                    go_ret
                    exact ⟨ret_boo (by rw [← RES.out, pokB, HN.out]; simp), HE.out.1⟩
                  · have HD := Lib.hid (YA.out (by rw [lokB, HA.out, HB.out, HC.out, hd]; rfl))
                    clear hd
                    go_wp2
                    go_roundw
                    case rel => exact ⟨k4 + 1, by omega, by go_num, HE.out.drop 0, HD.out⟩
                    case measure => simp [intOf]; omega
                · have hge4 : ¬ (k4 : Int) < (p.lks.length : Int) := by omega
                  have HYL := Lib.hid (all_yesG (f := lokB p.acts.length) (fun j hj => hall j hj (by omega)))
                  clear hall
                  go_wp2
                  go_ret
                  exact ⟨ret_boo (by rw [← RES.out, pokB, H1.out, H2.out, H3.out, H4.out, H5.out, HYA.out, HYO.out, HYR.out, HYS.out, HYL.out]; rfl), S4.out.1⟩
end Go.Proofs.YtdbnhdiboemmiabGreat
