/- DERIVED. CONTRACTS: TopologicalOrder, of the model. -/
import Derived.Test.YtfdhoddooeedoaaGreatLkT
namespace Go.Proofs.YtfdhoddooeedoaaGreat
open Go.RowKit Go.Shelf
set_option linter.unusedVariables false

set_option maxRecDepth 100000 in
set_option maxHeartbeats 8000000 in
theorem specTopological_any (p : Pj) (v : Value) (w : World) (hv : (trPj p).rd w v) (hk : (trPj p).ok) :
    Calls Tryz.prog 24 #[v] w fun e w' => ∃ u F, e = .returned (.tuple #[u, .bool (topoB p)]) ∧ (trI (topoL p)).own w' w.heap.size u F ∧ F.Nodup ∧ Below w.heap.size w w' := by
  have HV := Lib.hid hv
  obtain ⟨A1, c1, A2, c2, A3, c3, A4, c4, rfl, r1, r2, r3, r4⟩ := rdProject_t hv
  obtain ⟨hl2, B2, d2, he, g2⟩ := rdLinkS_t r2
  injection he with he _ he2
  subst he he2
  have G2 := Lib.hid g2
  clear hv r1 r2 r3 r4 g2
  have HK := Lib.hid hk
  clear hk G2 hl2
  obtain ⟨i0, hi0, hz0, hz1, hz2⟩ := info_parts infoInt
  have S0 := Lib.hid (((Sn.start w).box 34 [.int .i64 p.dl, .slice A1 p.acts.length c1, .slice A2 p.lks.length c2, .slice A3 p.ress.length c3, .slice A4 p.stk.length c4]).emptyI)
  simp only [World.size_alloc] at S0
  go_enter Tryz.func24, Tryz.ntmps24
  obtain ⟨e0, e1, e2, e3, e4, ef⟩ := (S0.out.bk 1 rfl).c5
  go_wp2_with fail
  clear e0 e1 e2 e3 e4 ef
  refine (specProjectOk_any p _ _ (by exact S0.out.old HV.out) HK.out).mono ?_
  rintro e w1 ⟨rfl, b⟩
  have S1 := Lib.hid (S0.out.go b)
  clear S0 b
  rcases hok : pokB p with _ | _
  · have HT := Lib.hid (topo_bad hok)
    clear hok
    go_wp2
    have hnil : ∀ W : World, (trI (topoL p)).own W w.heap.size (.slice none 0 0) [] := fun W => by rw [topoL_no HT.out]; exact ⟨[], [], ⟨rfl, .inl ⟨rfl, rfl⟩⟩, ⟨rfl, rfl⟩, rfl⟩
    refine bodyPost_ret (v := .tuple #[.slice none 0 0, .bool false]) (by simp [results, Tryz.results24, go_sem]) rfl ?_
    first
      | exact ⟨.slice none 0 0, [], by rw [HT.out], hnil _, List.nodup_nil, S1.out.1⟩
      | exact ⟨.slice none 0 0, by rw [HT.out], [], hnil _, List.nodup_nil, S1.out.1⟩
  have HOK := Lib.hid hok
  have h6 := (pok_acts hok).1
  clear hok
  obtain ⟨e0, e1, e2, e3, e4, ef⟩ := (S1.out.bk 1 rfl).c5
  go_wp2
  clear e0 e1 e2 e3 e4 ef
  go_loopw [4, 13] (fun u i wr => ∃ (k : Nat) (F : List Nat), k ≤ p.acts.length ∧ i = .int .i64 k ∧ Sn w wr [⟨trI (ordK p k), u, F⟩, boxI w.heap.size 34 [.int .i64 p.dl, .slice A1 p.acts.length c1, .slice A2 p.lks.length c2, .slice A3 p.ress.length c3, .slice A4 p.stk.length c4]]) (fun _ i _ => p.acts.length - (intOf i).toNat)
  case atStart => exact ⟨0, _, Nat.zero_le _, rfl, S1.out⟩
  case round =>
    obtain ⟨k, F, hkl, rfl, hS⟩ := hrel
    have S2 := Lib.hid hS
    clear hS S1
    obtain ⟨U, cu, rfl⟩ := slice_ints (S2.out.rd 0 rfl)
    obtain ⟨wo, rfl⟩ : ∃ wo : World, wo = wr := ⟨_, rfl⟩
    by_cases hlt : k < p.acts.length
    · have hlt' : (k : Int) < (p.acts.length : Int) := by omega
      have hol := ordK_len p k
      have OS := Lib.hid (fun a => ordK_some (p := p) (k := k) (a := a))
      have ON := Lib.hid (ordK_none (p := p) (k := k))
      generalize ordK p k = D at S2 hol OS ON ⊢
      obtain ⟨e0, e1, e2, e3, e4, ef⟩ := (S2.out.bk 1 rfl).c5
      go_wp2
      clear e0 e1 e2 e3 e4 ef
      go_loopw [4, 18] (fun u i wz => ∃ j : Nat, j ≤ p.acts.length ∧ u = .slice U D.length cu ∧ i = .int .i64 j ∧ (∀ t, t < j → okA p D t = false) ∧ Sn w wz [⟨trI D, .slice U D.length cu, F⟩, boxI w.heap.size 34 [.int .i64 p.dl, .slice A1 p.acts.length c1, .slice A2 p.lks.length c2, .slice A3 p.ress.length c3, .slice A4 p.stk.length c4]]) (fun _ i _ => p.acts.length - (intOf i).toNat)
      case atStart => exact ⟨0, Nat.zero_le _, rfl, rfl, fun t h => absurd h (by omega), S2.out⟩
      case round =>
        obtain ⟨j, hjl, rfl, rfl, hall, hS⟩ := hrel
        have S3 := Lib.hid hS
        have HALL := Lib.hid hall
        clear hS S2 hall
        by_cases hltj : j < p.acts.length
        · have hltj' : (j : Int) < (p.acts.length : Int) := by omega
          go_wp2_with fail
          refine (hasS_any D (j : Int) _ _ (by exact rd_flat (S3.out.rd 0 rfl))).mono ?_
          rintro e w6 ⟨rfl, hw⟩
          subst hw
          rcases hh : hasB D (j : Int) with _ | _
          · have HH := Lib.hid hh
            clear hh
            obtain ⟨e0, e1, e2, e3, e4, ef⟩ := (S3.out.bk 1 rfl).c5
            go_wp2_with fail
            clear e0 e1 e2 e3 e4 ef
            refine (specReady_any p (j : Int) D _ _ _ (by exact S3.out.old HV.out) (by exact rd_flat (S3.out.rd 0 rfl)) HOK.out).mono ?_
            rintro e w7 ⟨rfl, b7⟩
            have S4 := Lib.hid (S3.out.go b7)
            clear b7 S3
            rcases hr : readyB p (j : Int) D with _ | _
            · have HN := Lib.hid (fun t (ht : t < j + 1) => (if h : t < j then HALL.out t h else by obtain rfl : t = j := (by omega); rw [okA_eq, hr, Bool.and_false] : okA p D t = false))
              clear hr
              go_wp2
              go_roundw
              case rel => exact ⟨j + 1, by omega, rfl, by go_num, HN.out, S4.out⟩
              case measure => simp [intOf]; omega
            · have HO := Lib.hid (OS.out j (first_yes hltj (by rw [okA_eq, hr, HH.out] <;> rfl) HALL.out))
              clear hr
              have OW := Lib.hid S4.out.ownRI
              have hz := S4.out.1.size
              go_wp2_with (first | (at_builtin; refine wpList_append_own_at _ rfl (.tmp 31) (.tmp 33) 25 rfl w.heap.size 3 i0 (.int .i64 0) 1 8 Tryz.underlying25 hi0 hz0 hz1 hz2 rfl (by decide) (.slice U D.length cu) D.length (D.map (.int .i64)) rfl (by exact OW.out.alloc _) ⟨w7.heap.size, 0, none⟩ 1 1 [.int .i64 (j : Int)] rfl rfl ?c1 ?c2 ?c3 ?c4 ?c5 ?_))
              try case c1 => exact one_cell _ _ _
              case c2 => simp [Value.oneCell']
              case c3 => unfold maxLen; omega
              case c4 => omega
              case c5 => first | omega | (simp; omega)
              intro v' w8 hown8 hg8 _ hat8
              obtain ⟨F9, h9⟩ := S4.out.appI2 hown8 hg8 (by simpa using hat8)
              have S9 := Lib.hid h9
              clear hown8 hg8 hat8 h9 OW S4
              go_wp2
              go_roundw
              case rel => exact ⟨k + 1, _, by omega, by go_num, by rw [HO.out]; exact S9.out⟩
              case measure => simp [intOf]; omega
          · have HN := Lib.hid (fun t (ht : t < j + 1) => (if h : t < j then HALL.out t h else by obtain rfl : t = j := (by omega); rw [okA_eq, hh] <;> rfl : okA p D t = false))
            clear hh
            go_wp2
            go_roundw
            case rel => exact ⟨j + 1, by omega, rfl, by go_num, HN.out, S3.out⟩
            case measure => simp [intOf]; omega
        · have hgej : ¬ (j : Int) < (p.acts.length : Int) := by omega
          obtain rfl : j = p.acts.length := by omega
          have HO := Lib.hid (ON.out (first_no HALL.out))
          go_wp2
          go_roundw
          case rel => exact ⟨k + 1, _, by omega, by go_num, by rw [HO.out]; exact S3.out⟩
          case measure => simp [intOf]; omega
    · have hge : ¬ (k : Int) < (p.acts.length : Int) := by omega
      obtain rfl : k = p.acts.length := by omega
      obtain ⟨e0, e1, e2, e3, e4, ef⟩ := (S2.out.bk 1 rfl).c5
      by_cases hne : (ordK p p.acts.length).length = p.acts.length
      · have HT := Lib.hid (show topoB p = true by rw [topoB, HOK.out, decide_eq_true hne]; rfl)
        have HL := Lib.hid (show topoL p = ordK p p.acts.length by rw [topoL, if_pos HT.out])
        generalize hD : ordK p p.acts.length = D at S2 hne HL ⊢
        rw [hne] at S2 ⊢
        clear hD
        go_wp2
        refine bodyPost_ret (v := .tuple #[.slice U p.acts.length cu, .bool true]) (by simp [results, Tryz.results24, go_sem]) rfl ?_
        first
          | exact ⟨.slice U p.acts.length cu, _, by rw [HT.out], by rw [HL.out]; exact (S2.out.own 0 rfl).1, (S2.out.own 0 rfl).2, S2.out.1⟩
          | exact ⟨.slice U p.acts.length cu, by rw [HT.out], _, by rw [HL.out]; exact (S2.out.own 0 rfl).1, (S2.out.own 0 rfl).2, S2.out.1⟩
      · have HT := Lib.hid (show topoB p = false by rw [topoB, HOK.out, decide_eq_false hne]; rfl)
        generalize hD : ordK p p.acts.length = D at S2 hne ⊢
        have hne' : ¬ (D.length : Int) = (p.acts.length : Int) := by omega
        clear hD
        go_wp2
        have hnil : ∀ W : World, (trI (topoL p)).own W w.heap.size (.slice none 0 0) [] := fun W => by rw [topoL_no HT.out]; exact ⟨[], [], ⟨rfl, .inl ⟨rfl, rfl⟩⟩, ⟨rfl, rfl⟩, rfl⟩
        refine bodyPost_ret (v := .tuple #[.slice none 0 0, .bool false]) (by simp [results, Tryz.results24, go_sem]) rfl ?_
        first
          | exact ⟨.slice none 0 0, [], by rw [HT.out], hnil _, List.nodup_nil, S2.out.1⟩
          | exact ⟨.slice none 0 0, by rw [HT.out], [], hnil _, List.nodup_nil, S2.out.1⟩

end Go.Proofs.YtfdhoddooeedoaaGreat
