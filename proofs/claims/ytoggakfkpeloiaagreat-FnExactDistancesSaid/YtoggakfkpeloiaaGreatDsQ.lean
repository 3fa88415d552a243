/- DERIVED. CONTRACTS of the model: EarliestStarts, PathBound, TailLength, LatestStarts, CriticalActivities. -/
import Derived.Test.YtoggakfkpeloiaaGreatDsP
import Derived.Test.YtoggakfkpeloiaaGreatDats
import Derived.Test.YtoggakfkpeloiaaGreatDsJ
import Derived.Test.YtoggakfkpeloiaaGreatLkPi
namespace Go.Proofs.YtoggakfkpeloiaaGreat
open Go.RowKit Go.Shelf
set_option linter.unusedVariables false

/-- How many activities have distances. -/
noncomputable def nD (p : Pj) : Nat := if okD p = true then p.acts.length else 0
theorem nD_le (p : Pj) : nD p ≤ p.acts.length := by unfold nD; split <;> omega
theorem nD_six (p : Pj) : nD p ≤ 6 := by
  unfold nD
  split
  · next h => have := (pok_acts (okD_pok h)).1; omega
  · omega
theorem nD_yes {p : Pj} (h : okD p = true) : nD p = p.acts.length := by rw [nD, if_pos h]
theorem nD_no {p : Pj} (h : okD p = false) : nD p = 0 := by rw [nD, h]; rfl
theorem distL_eq (p : Pj) : distL p = tabL (nD p) (distT p) := by
  cases h : okD p
  · rw [dist_no h, nD_no h]; rfl
  · rw [dist_yes h, nD_yes h]
theorem earlyL_eq (p : Pj) : earlyL p = (List.range (nD p)).map (earlyT (distT p) (nD p)) := by
  cases h : okD p
  · rw [early_no h, nD_no h]; rfl
  · rw [early_yes h, nD_yes h]
theorem boundB_eq (p : Pj) : boundB p = boundT (distT p) (shortA p) (nD p) := by
  cases h : okD p
  · rw [bound_no h, nD_no h]; rfl
  · rw [bound_yes h, nD_yes h]
theorem nD_bd (p : Pj) : Bd (distT p) (nD p) 3359232 := by
  cases h : okD p
  · rw [nD_no h]; intro a b ha; omega
  · rw [nD_yes h]; exact distT_in (okD_pok h)
theorem nD_dur (p : Pj) : ∀ k, k < nD p → 0 ≤ shortA p k ∧ shortA p k ≤ 12 := fun k hk => by
  cases h : okD p
  · rw [nD_no h] at hk; omega
  · rw [nD_yes h] at hk; exact short_in (okD_pok h) hk
noncomputable def lateL (p : Pj) (t : Int) : List Int := (List.range (nD p)).map (fun a => lateS (distT p) (shortA p) t a (nD p))
theorem crit_eq (p : Pj) : critL p = critK (fun a => decide (lateS (distT p) (shortA p) (boundB p) a (nD p) = earlyT (distT p) (nD p) a)) (nD p) := by
  cases h : okD p
  · rw [crit_no h, nD_no h]; rfl
  · have hb := bound_in (nD_bd p) (nD_dur p)
    rw [crit_yes h, critK, critK]
    congr 1
    rw [nD_yes h] at hb ⊢
    refine List.filter_congr fun a ha => ?_
    have hl := late_eq (t := boundT (distT p) (shortA p) p.acts.length) (by have := nD_bd p; rwa [nD_yes h] at this) (distT_self p) (by have := nD_dur p; rwa [nD_yes h] at this) hb.1 (by omega) (List.mem_range.1 ha)
    rw [bound_yes h, hl, critP]
    exact decide_eq_decide.2 eq_comm
theorem tailB_eq {p : Pj} {a : Nat} (h : a < nD p) : tailB p (a : Int) = tailS (distT p) (shortA p) a (nD p) := by
  cases hk : okD p
  · rw [nD_no hk] at h; omega
  · rw [tail_eq (nD_bd p) (nD_dur p) h (nD p) (Nat.le_refl _)]
    rw [nD_yes hk] at h ⊢
    exact tail_yes hk h
theorem tailB_out {p : Pj} {a : Int} (h : ¬ (0 ≤ a ∧ a < (nD p : Int))) : tailB p a = 0 := by
  cases hk : okD p
  · exact tail_no hk
  · rw [nD_yes hk] at h; exact tail_out h
theorem map_next (F : Nat → Int) (k : Nat) : (List.range k).map F ++ [F k] = (List.range (k + 1)).map F := by simp [List.range_succ]
theorem map_len (F : Nat → Int) (k : Nat) : ((List.range k).map F).length = k := by simp

set_option maxRecDepth 100000 in
set_option maxHeartbeats 8000000 in
theorem specEarliest_any (p : Pj) (v : Value) (w : World) (hv : (trPj p).rd w v) (hk : (trPj p).ok) :
    Calls Tryz.prog 19 #[v] w fun e w' => ∃ u F, e = .returned u ∧ (trI (earlyL p)).own w' w.heap.size u F ∧ F.Nodup ∧ Below w.heap.size w w' := by
  have HV := Lib.hid hv
  obtain ⟨A1, c1, A2, c2, A3, c3, A4, c4, rfl, r1, r2, r3, r4⟩ := rdProject_t hv
  clear hv r1 r2 r3 r4
  have HK := Lib.hid hk
  clear hk
  have S0 := Lib.hid ((Sn.start w).box 35 [.int .i64 p.dl, .slice A1 p.acts.length c1, .slice A2 p.lks.length c2, .slice A3 p.ress.length c3, .slice A4 p.stk.length c4])
  have HS := Lib.hid (earlyL_eq p)
  obtain ⟨i0, hi0, hz0, hz1, hz2⟩ := info_parts infoInt
  go_enter Tryz.func19, Tryz.ntmps19
  obtain ⟨e0, e1, e2, e3, e4, ef⟩ := (S0.out.bk 0 rfl).c5
  go_wp2_with fail
  clear e0 e1 e2 e3 e4 ef
  refine (specDistances_any p _ _ (by exact S0.out.old HV.out) HK.out).mono ?_
  rintro e w1 ⟨u1, F1, rfl, o1, hn1, b1⟩
  obtain ⟨A, c, rfl⟩ := rows_slice (Tr.own_rd _ _ _ o1)
  have S1 := Lib.hid (S0.out.new o1 hn1 b1)
  have hD := distL_eq p
  have hl := tabL_len (nD p) (distT p)
  rw [hD, hl] at S1 ⊢
  have h6 := nD_six p
  have hle := nD_le p
  clear o1 hn1 b1 S0 hD hl
  generalize nD p = N at S1 h6 hle HS ⊢
  generalize distT p = D at S1 HS ⊢
  have S2 := Lib.hid S1.out.emptyI
  clear S1
  go_wp2
  go_loopw [4, 13] (fun u i wr => ∃ (k : Nat) (F : List Nat), k ≤ N ∧ i = .int .i64 k ∧ Sn w wr [⟨trI ((List.range k).map (earlyT D N)), u, F⟩, ⟨trSu (tabL N D), .slice A N c, F1⟩, boxI w.heap.size 35 [.int .i64 p.dl, .slice A1 p.acts.length c1, .slice A2 p.lks.length c2, .slice A3 p.ress.length c3, .slice A4 p.stk.length c4]]) (fun _ i _ => N - (intOf i).toNat)
  case atStart => exact ⟨0, _, Nat.zero_le _, rfl, S2.out⟩
  case round =>
    obtain ⟨k, F, hkl, rfl, hS⟩ := hrel
    have S3 := Lib.hid hS
    clear hS S2
    obtain ⟨U, cu, rfl⟩ := slice_ints (S3.out.rd 0 rfl)
    have hul := map_len (earlyT D N) k
    rw [hul] at S3 ⊢
    by_cases hlt : k < N
    · have hlt' : (k : Int) < (N : Int) := by omega
      have NX := Lib.hid (map_next (earlyT D N) k)
      have EV := Lib.hid (show earlyT D N k = maxTo (fun i => D i k) N from rfl)
      generalize earlyT D N k = y at NX EV
      generalize (List.range k).map (earlyT D N) = us at S3 NX hul
      go_wp2
      go_loopw [6, 18] (fun s i wr => ∃ j : Nat, j ≤ N ∧ i = .int .i64 j ∧ s = .int .i64 (maxTo (fun i => D i k) j) ∧ Sn w wr [⟨trI us, .slice U k cu, F⟩, ⟨trSu (tabL N D), .slice A N c, F1⟩, boxI w.heap.size 35 [.int .i64 p.dl, .slice A1 p.acts.length c1, .slice A2 p.lks.length c2, .slice A3 p.ress.length c3, .slice A4 p.stk.length c4]]) (fun _ i _ => N - (intOf i).toNat)
      case atStart => exact ⟨0, Nat.zero_le _, rfl, rfl, S3.out⟩
      case round =>
        obtain ⟨j, hjl, rfl, rfl, hS⟩ := hrel
        have S4 := Lib.hid hS
        clear hS S3
        by_cases hlt2 : j < N
        · have hlt2' : (j : Int) < (N : Int) := by omega
          have NY := Lib.hid (show maxTo (fun i => D i k) (j + 1) = max (maxTo (fun i => D i k) j) (D j k) from rfl)
          obtain ⟨g, rfl, _, hrow⟩ := (S4.out.drop 0).tab (by omega)
          obtain ⟨b, cb, hc1, _, _, _, hin⟩ := hrow j hlt2
          obtain ⟨hc2, _, _⟩ := hin k hlt
          clear hrow hin
          generalize maxTo (fun i => D i k) j = s at NY ⊢
          generalize D j k = z at NY hc2
          go_wp2_with fail
          refine (max_any s z _).mono ?_
          rintro e w5 ⟨rfl, h5⟩
          obtain rfl := h5
          go_wp2
          go_roundw
          case rel => exact ⟨j + 1, by omega, by go_num, by rw [NY.out], S4.out⟩
          case measure => simp [intOf]; omega
        · have hge2 : ¬ (j : Int) < (N : Int) := by omega
          obtain rfl : j = N := by omega
          rw [← EV.out]
          have hz := S4.out.1.size
          have OW := Lib.hid S4.out.ownRI
          rw [hul] at OW
          go_wp2_with (first | (at_builtin; refine wpList_append_own_at _ rfl (.tmp 31) (.tmp 33) 25 rfl w.heap.size 3 i0 (.int .i64 0) 1 8 Tryz.underlying25 hi0 hz0 hz1 hz2 rfl (by decide) (.slice U k cu) k ((us).map (.int .i64)) rfl (by exact OW.out.alloc _) ⟨wr.heap.size, 0, none⟩ 1 1 [.int .i64 y] rfl rfl ?c1 ?c2 ?c3 ?c4 ?c5 ?_))
          try case c1 => exact one_cell _ _ _
          case c2 => simp [Value.oneCell']
          case c3 => unfold maxLen; omega
          case c4 => omega
          case c5 => first | omega | (simp; omega)
          intro v' w8 hown8 hg8 _ hat8
          obtain ⟨F9, h9⟩ := S4.out.appI2 hown8 hg8 (by simpa using hat8)
          rw [NX.out] at h9
          have S9 := Lib.hid h9
          clear hown8 hg8 hat8 h9 OW S4
          go_wp2
          go_roundw
          case rel => exact ⟨k + 1, F9, by omega, by go_num, S9.out⟩
          case measure => simp [intOf]; omega
    · have hge : ¬ (k : Int) < (N : Int) := by omega
      obtain rfl : k = N := by omega
      go_wp2
      go_ret
      first
        | exact ⟨_, rfl, _, by rw [HS.out]; exact (S3.out.own 0 rfl).1, (S3.out.own 0 rfl).2, S3.out.1⟩
        | exact ⟨_, _, rfl, by rw [HS.out]; exact (S3.out.own 0 rfl).1, (S3.out.own 0 rfl).2, S3.out.1⟩
        | exact ⟨_, by rw [HS.out]; exact (S3.out.own 0 rfl).1, (S3.out.own 0 rfl).2, S3.out.1⟩

set_option maxRecDepth 100000 in
set_option maxHeartbeats 8000000 in
theorem specPathBound_any (p : Pj) (v : Value) (w : World) (hv : (trPj p).rd w v) (hk : (trPj p).ok) :
    Calls Tryz.prog 26 #[v] w fun e w' => e = .returned (.int .i64 (boundB p)) ∧ Below w.heap.size w w' := by
  have HV := Lib.hid hv
  obtain ⟨A1, c1, A2, c2, A3, c3, A4, c4, rfl, r1, r2, r3, r4⟩ := rdProject_t hv
  clear hv r1 r2 r3 r4
  have HK := Lib.hid hk
  clear hk
  have S0 := Lib.hid ((Sn.start w).box 35 [.int .i64 p.dl, .slice A1 p.acts.length c1, .slice A2 p.lks.length c2, .slice A3 p.ress.length c3, .slice A4 p.stk.length c4])
  have HS := Lib.hid (boundB_eq p)
  go_enter Tryz.func26, Tryz.ntmps26
  obtain ⟨e0, e1, e2, e3, e4, ef⟩ := (S0.out.bk 0 rfl).c5
  go_wp2_with fail
  clear e0 e1 e2 e3 e4 ef
  refine (specEarliest_any p _ _ (by exact S0.out.old HV.out) HK.out).mono ?_
  rintro e w1 ⟨u1, F1, rfl, o1, hn1, b1⟩
  obtain ⟨U, cu, rfl⟩ := slice_ints (Tr.own_rd _ _ _ o1)
  have S1 := Lib.hid (S0.out.new o1 hn1 b1)
  have hul := map_len (earlyT (distT p) (nD p)) (nD p)
  rw [earlyL_eq p, hul] at S1 ⊢
  have HUL := Lib.hid hul
  have h6 := nD_six p
  have hle := nD_le p
  clear o1 hn1 b1 S0 hul
  generalize nD p = N at S1 h6 hle HS HUL ⊢
  generalize distT p = D at S1 HS HUL ⊢
  go_wp2
  go_loopw [3, 9] (fun s i wr => ∃ k : Nat, k ≤ N ∧ i = .int .i64 k ∧ s = .int .i64 (maxTo (fun a => wrap64 (earlyT D N a + shortA p a)) k) ∧ Sn w wr [⟨trI ((List.range N).map (earlyT D N)), .slice U N cu, F1⟩, boxI w.heap.size 35 [.int .i64 p.dl, .slice A1 p.acts.length c1, .slice A2 p.lks.length c2, .slice A3 p.ress.length c3, .slice A4 p.stk.length c4]]) (fun _ i _ => N - (intOf i).toNat)
  case atStart => exact ⟨0, Nat.zero_le _, rfl, rfl, S1.out⟩
  case round =>
    obtain ⟨k, hkl, rfl, rfl, hS⟩ := hrel
    have S2 := Lib.hid hS
    clear hS S1
    by_cases hlt : k < N
    · have hlt' : (k : Int) < (N : Int) := by omega
      have NX := Lib.hid (show maxTo (fun a => wrap64 (earlyT D N a + shortA p a)) (k + 1) = max (maxTo (fun a => wrap64 (earlyT D N a + shortA p a)) k) (wrap64 (earlyT D N k + shortA p k)) from rfl)
      obtain ⟨gg, rfl, _⟩ := S2.out.formI (by omega)
      have hcg := (show Sn w wr (⟨trI ((List.range N).map (earlyT D N)), .slice (some ⟨gg, 0, none⟩) ((List.range N).map (earlyT D N)).length cu, F1⟩ :: _) from by rw [HUL.out]; exact S2.out).cellI (i := k) (by rw [HUL.out]; exact hlt) |>.1
      rw [List.getElem_map, List.getElem_range] at hcg
      obtain ⟨e0, e1, e2, e3, e4, ef⟩ := (S2.out.bk 1 rfl).c5
      have SH := Lib.hid (fun v w hv => specShort_any p k v w hv (by omega))
      generalize maxTo (fun a => wrap64 (earlyT D N a + shortA p a)) k = s at NX ⊢
      generalize earlyT D N k = y at NX hcg
      generalize shortA p k = d at NX SH
      go_wp2_with fail
      clear e0 e1 e2 e3 e4 ef hcg
      refine (SH.out _ _ (by exact S2.out.old HV.out)).mono ?_
      rintro e w5 ⟨rfl, b5⟩
      have S5 := Lib.hid (S2.out.go b5)
      clear b5 S2
      go_wp2_with fail
      refine (max_any s _ _).mono ?_
      rintro e w6 ⟨rfl, h6⟩
      obtain rfl := h6
      go_wp2
      go_roundw
      case rel => exact ⟨k + 1, by omega, by go_num, by rw [NX.out] <;> rfl, S5.out⟩
      case measure => simp [intOf]; omega
    · have hge : ¬ (k : Int) < (N : Int) := by omega
      obtain rfl : k = N := by omega
      go_wp2
      go_ret
      exact ⟨by rw [HS.out] <;> rfl, S2.out.1⟩

end Go.Proofs.YtoggakfkpeloiaaGreat
