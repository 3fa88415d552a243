/- DERIVED. CONTRACTS of the model: LatestStarts, CriticalActivities. -/
import Derived.Test.YtoggakfkpeloiaaGreatDsQ
namespace Go.Proofs.YtoggakfkpeloiaaGreat
open Go.RowKit Go.Shelf
set_option linter.unusedVariables false

set_option maxRecDepth 100000 in
set_option maxHeartbeats 8000000 in
theorem specLatest_any (p : Pj) (t : Int) (v : Value) (w : World) (hv : (trPj p).rd w v) (hk : (trPj p).ok) :
    Calls Tryz.prog 24 #[v, .int .i64 t] w fun e w' => ∃ u F, e = .returned u ∧ (trI (lateL p t)).own w' w.heap.size u F ∧ F.Nodup ∧ Below w.heap.size w w' := by
  have HV := Lib.hid hv
  obtain ⟨A1, c1, A2, c2, A3, c3, A4, c4, rfl, r1, r2, r3, r4⟩ := rdProject_t hv
  clear hv r1 r2 r3 r4
  have HK := Lib.hid hk
  clear hk
  have S0 := Lib.hid ((Sn.start w).box 35 [.int .i64 p.dl, .slice A1 p.acts.length c1, .slice A2 p.lks.length c2, .slice A3 p.ress.length c3, .slice A4 p.stk.length c4])
  have HS := Lib.hid (show lateL p t = (List.range (nD p)).map (fun a => lateS (distT p) (shortA p) t a (nD p)) from rfl)
  obtain ⟨i0, hi0, hz0, hz1, hz2⟩ := info_parts infoInt
  go_enter Tryz.func24, Tryz.ntmps24
  obtain ⟨e0, e1, e2, e3, e4, ef⟩ := (S0.out.bk 0 rfl).c5
  go_wp2_with fail
  clear e0 e1 e2 e3 e4 ef
  refine (specDistances_any p _ _ (by exact S0.out.old HV.out) HK.out).mono ?_
  rintro e w1 ⟨u1, F1, rfl, o1, hn1, b1⟩
  obtain ⟨A, c, rfl⟩ := rows_slice (Tr.own_rd _ _ _ o1)
  have S1 := Lib.hid (S0.out.new o1 hn1 b1)
  have hD := distL_eq p
  have hl := tabL_len (nD p) (distT p)
  rw [hD, hl] at S1 ⊢
  have h6 := nD_six p
  have hle := nD_le p
  clear o1 hn1 b1 S0 hD hl
  generalize nD p = N at S1 h6 hle HS ⊢
  generalize distT p = D at S1 HS ⊢
  have S2 := Lib.hid S1.out.emptyI
  clear S1
  go_wp2
  go_loopw [6, 15] (fun u i wr => ∃ (k : Nat) (F : List Nat), k ≤ N ∧ i = .int .i64 k ∧ Sn w wr [⟨trI ((List.range k).map (fun a => lateS D (shortA p) t a N)), u, F⟩, ⟨trSu (tabL N D), .slice A N c, F1⟩, boxI w.heap.size 35 [.int .i64 p.dl, .slice A1 p.acts.length c1, .slice A2 p.lks.length c2, .slice A3 p.ress.length c3, .slice A4 p.stk.length c4]]) (fun _ i _ => N - (intOf i).toNat)
  case atStart => exact ⟨0, _, Nat.zero_le _, rfl, S2.out⟩
  case round =>
    obtain ⟨a, F, hkl, rfl, hS⟩ := hrel
    have S3 := Lib.hid hS
    clear hS S2
    obtain ⟨U, cu, rfl⟩ := slice_ints (S3.out.rd 0 rfl)
    have hul := map_len (fun a => lateS D (shortA p) t a N) a
    rw [hul] at S3 ⊢
    by_cases ha : a < N
    · have ha' : (a : Int) < (N : Int) := by omega
      have ha0 : (0 : Int) ≤ (a : Int) := by omega
      have NX := Lib.hid (map_next (fun a => lateS D (shortA p) t a N) a)
      generalize (List.range a).map (fun a => lateS D (shortA p) t a N) = us at S3 NX hul
      obtain ⟨e0, e1, e2, e3, e4, ef⟩ := (S3.out.bk 2 rfl).c5
      have SH0 := Lib.hid (fun v w hv => specShort_any p a v w hv (by omega))
      go_wp2_with fail
      clear e0 e1 e2 e3 e4 ef
      refine (SH0.out _ _ (by exact S3.out.old HV.out)).mono ?_
      rintro e w4 ⟨rfl, b4⟩
      have S4 := Lib.hid (S3.out.go b4)
      clear b4 S3 SH0
      go_wp2
      go_loopw [8, 25] (fun s i wr => ∃ k : Nat, k ≤ N ∧ i = .int .i64 k ∧ s = .int .i64 (lateS D (shortA p) t a k) ∧ Sn w wr [⟨trI us, .slice U a cu, F⟩, ⟨trSu (tabL N D), .slice A N c, F1⟩, boxI w.heap.size 35 [.int .i64 p.dl, .slice A1 p.acts.length c1, .slice A2 p.lks.length c2, .slice A3 p.ress.length c3, .slice A4 p.stk.length c4]]) (fun _ i _ => N - (intOf i).toNat)
      case atStart => exact ⟨0, Nat.zero_le _, rfl, rfl, S4.out⟩
      case round =>
        obtain ⟨k, hkl, rfl, rfl, hS⟩ := hrel
        have S5 := Lib.hid hS
        clear hS S4
        by_cases hlt : k < N
        · have hlt' : (k : Int) < (N : Int) := by omega
          have hk0 : (0 : Int) ≤ (k : Int) := by omega
          have NY := Lib.hid (show lateS D (shortA p) t a (k + 1) = (if D a k = -1000 then lateS D (shortA p) t a k else min (lateS D (shortA p) t a k) (wrap64 (wrap64 (t - shortA p k) - D a k))) from rfl)
          obtain ⟨g, rfl, hgl, hrow⟩ := (S5.out.drop 0).tab (by omega)
          obtain ⟨b, cb, hc1, hbl, _, _, hin⟩ := hrow a ha
          obtain ⟨hc2, _, _⟩ := hin k hlt
          clear hrow hin
          generalize lateS D (shortA p) t a k = s at NY ⊢
          generalize D a k = z at NY hc2
          have SH := Lib.hid (fun v w hv => specShort_any p k v w hv (by omega))
          generalize shortA p k = d at NY SH
          by_cases hz : z = -1000
          · have NQ := Lib.hid (NY.out.trans (if_pos hz))
            subst hz
            clear NY
            go_wp2
            go_roundw
            case rel => exact ⟨k + 1, by omega, by go_num, by rw [NQ.out], S5.out⟩
            case measure => simp [intOf]; omega
          · have NQ := Lib.hid (NY.out.trans (if_neg hz))
            have hz' : (z != -1000) = true := by simp; omega
            clear NY hz
            go_wp2_with fail
            obtain ⟨e0, e1, e2, e3, e4, ef⟩ := (S5.out.bk 2 rfl).c5
            have hpl := (S5.out.bk 2 rfl).lt
            have CE := Lib.hid (fun (W : World) (h : Below wr.heap.size wr W) => show Hid (Below wr.heap.size wr W) ∧ W.cell? ⟨w.heap.size, 0, none⟩ = some (.int .i64 p.dl) ∧ W.cell? ⟨w.heap.size, 1, none⟩ = some (.slice A1 p.acts.length c1) ∧ W.cell? ⟨w.heap.size, 2, none⟩ = some (.slice A2 p.lks.length c2) ∧ W.cell? ⟨w.heap.size, 3, none⟩ = some (.slice A3 p.ress.length c3) ∧ W.cell? ⟨w.heap.size, 4, none⟩ = some (.slice A4 p.stk.length c4) ∧ W.cell? ⟨g, a, none⟩ = some (.slice (some ⟨b, 0, none⟩) N cb) ∧ W.cell? ⟨b, k, none⟩ = some (.int .i64 z) from ⟨Lib.hid h, (h.cell (p := ⟨w.heap.size, 0, none⟩) hpl).trans e0, (h.cell (p := ⟨w.heap.size, 1, none⟩) hpl).trans e1, (h.cell (p := ⟨w.heap.size, 2, none⟩) hpl).trans e2, (h.cell (p := ⟨w.heap.size, 3, none⟩) hpl).trans e3, (h.cell (p := ⟨w.heap.size, 4, none⟩) hpl).trans e4, (h.cell (p := ⟨g, a, none⟩) hgl).trans hc1, (h.cell (p := ⟨b, k, none⟩) hbl).trans hc2⟩)
            have INIT := Lib.hid (CE.out _ (Below.refl _ _).drew)
            have KEEP := Lib.hid (fun (W2 W : World) (hb2 : Below W.heap.size W W2) (h : Hid (Below wr.heap.size wr W) ∧ W.cell? ⟨w.heap.size, 0, none⟩ = some (.int .i64 p.dl) ∧ W.cell? ⟨w.heap.size, 1, none⟩ = some (.slice A1 p.acts.length c1) ∧ W.cell? ⟨w.heap.size, 2, none⟩ = some (.slice A2 p.lks.length c2) ∧ W.cell? ⟨w.heap.size, 3, none⟩ = some (.slice A3 p.ress.length c3) ∧ W.cell? ⟨w.heap.size, 4, none⟩ = some (.slice A4 p.stk.length c4) ∧ W.cell? ⟨g, a, none⟩ = some (.slice (some ⟨b, 0, none⟩) N cb) ∧ W.cell? ⟨b, k, none⟩ = some (.int .i64 z)) => CE.out W2 (h.1.out.trans (hb2.mono h.1.out.size)))
            have KSAME := Lib.hid (fun (W : World) (h : Hid (Below wr.heap.size wr W) ∧ W.cell? ⟨w.heap.size, 0, none⟩ = some (.int .i64 p.dl) ∧ W.cell? ⟨w.heap.size, 1, none⟩ = some (.slice A1 p.acts.length c1) ∧ W.cell? ⟨w.heap.size, 2, none⟩ = some (.slice A2 p.lks.length c2) ∧ W.cell? ⟨w.heap.size, 3, none⟩ = some (.slice A3 p.ress.length c3) ∧ W.cell? ⟨w.heap.size, 4, none⟩ = some (.slice A4 p.stk.length c4) ∧ W.cell? ⟨g, a, none⟩ = some (.slice (some ⟨b, 0, none⟩) N cb) ∧ W.cell? ⟨b, k, none⟩ = some (.int .i64 z)) => h)
            have S6 := Lib.hid S5.out.drew1
            clear CE e0 e1 e2 e3 e4 ef hpl hgl hbl hc1 hc2 S5 hz'
            go_region_held3 (fun W => Hid (Below wr.heap.size wr W) ∧ W.cell? ⟨w.heap.size, 0, none⟩ = some (.int .i64 p.dl) ∧ W.cell? ⟨w.heap.size, 1, none⟩ = some (.slice A1 p.acts.length c1) ∧ W.cell? ⟨w.heap.size, 2, none⟩ = some (.slice A2 p.lks.length c2) ∧ W.cell? ⟨w.heap.size, 3, none⟩ = some (.slice A3 p.ress.length c3) ∧ W.cell? ⟨w.heap.size, 4, none⟩ = some (.slice A4 p.stk.length c4) ∧ W.cell? ⟨g, a, none⟩ = some (.slice (some ⟨b, 0, none⟩) N cb) ∧ W.cell? ⟨b, k, none⟩ = some (.int .i64 z)) (first | exact INIT.out | exact KEEP.out _ _ (by assumption) (by assumption) | exact KSAME.out _ (by assumption))
              (first
                | (go_at_call 56; refine (SH.out _ _ (by exact S6.out.old HV.out)).mono ?_; rintro e w5 ⟨rfl, b5⟩; have S7 := Lib.hid (S6.out.go b5))
                | (go_at_call 57; refine (min_any s _ _).mono ?_; rintro e w6 ⟨rfl, h6⟩; subst h6))
            clear INIT KEEP KSAME S6
            go_wp2
            go_roundw
            case rel => exact ⟨k + 1, by omega, by go_num, by rw [NQ.out]; first | rfl | (rw [IntWalk.i64_left]; first | rfl | rw [IntWalk.i64_left]), S7.out⟩
            case measure => simp [intOf]; omega
        · have hge : ¬ (k : Int) < (N : Int) := by omega
          obtain rfl : k = N := by omega
          have hz := S5.out.1.size
          have OW := Lib.hid S5.out.ownRI
          rw [hul] at OW
          generalize lateS D (shortA p) t a k = y at NX ⊢
          go_wp2_with (first | (at_builtin; refine wpList_append_own_at _ rfl (.tmp 52) (.tmp 54) 25 rfl w.heap.size 3 i0 (.int .i64 0) 1 8 Tryz.underlying25 hi0 hz0 hz1 hz2 rfl (by decide) (.slice U a cu) a ((us).map (.int .i64)) rfl (by exact OW.out.alloc _) ⟨wr.heap.size, 0, none⟩ 1 1 [.int .i64 y] rfl rfl ?c1 ?c2 ?c3 ?c4 ?c5 ?_))
          try case c1 => exact one_cell _ _ _
          case c2 => simp [Value.oneCell']
          case c3 => unfold maxLen; omega
          case c4 => omega
          case c5 => first | omega | (simp; omega)
          intro v' w8 hown8 hg8 _ hat8
          obtain ⟨F9, h9⟩ := S5.out.appI2 hown8 hg8 (by simpa using hat8)
          rw [NX.out] at h9
          have S9 := Lib.hid h9
          clear hown8 hg8 hat8 h9 OW S5
          go_wp2
          go_roundw
          case rel => exact ⟨a + 1, F9, by omega, by go_num, S9.out⟩
          case measure => simp [intOf]; omega
    · have hge : ¬ (a : Int) < (N : Int) := by omega
      obtain rfl : a = N := by omega
      go_wp2
      go_ret
      first
        | exact ⟨_, rfl, _, by rw [HS.out]; exact (S3.out.own 0 rfl).1, (S3.out.own 0 rfl).2, S3.out.1⟩
        | exact ⟨_, _, rfl, by rw [HS.out]; exact (S3.out.own 0 rfl).1, (S3.out.own 0 rfl).2, S3.out.1⟩
        | exact ⟨_, by rw [HS.out]; exact (S3.out.own 0 rfl).1, (S3.out.own 0 rfl).2, S3.out.1⟩

set_option maxRecDepth 100000 in
set_option maxHeartbeats 8000000 in
theorem specCritical_any (p : Pj) (v : Value) (w : World) (hv : (trPj p).rd w v) (hk : (trPj p).ok) :
    Calls Tryz.prog 28 #[v] w fun e w' => ∃ u F, e = .returned u ∧ (trI (critL p)).own w' w.heap.size u F ∧ F.Nodup ∧ Below w.heap.size w w' := by
  have HV := Lib.hid hv
  obtain ⟨A1, c1, A2, c2, A3, c3, A4, c4, rfl, r1, r2, r3, r4⟩ := rdProject_t hv
  clear hv r1 r2 r3 r4
  have HK := Lib.hid hk
  clear hk
  have S0 := Lib.hid ((Sn.start w).box 35 [.int .i64 p.dl, .slice A1 p.acts.length c1, .slice A2 p.lks.length c2, .slice A3 p.ress.length c3, .slice A4 p.stk.length c4])
  have HS := Lib.hid (crit_eq p)
  obtain ⟨i0, hi0, hz0, hz1, hz2⟩ := info_parts infoInt
  have S1 := Lib.hid S0.out.emptyI
  simp only [World.size_alloc] at S1
  go_enter Tryz.func28, Tryz.ntmps28
  obtain ⟨e0, e1, e2, e3, e4, ef⟩ := (S1.out.bk 1 rfl).c5
  go_wp2_with fail
  generalize World.alloc (World.alloc w _) _ = wv at S1 e0 e1 e2 e3 e4 ef ⊢
  have hpl := (S1.out.bk 1 rfl).lt
  have CE := Lib.hid (fun (W : World) (h : Below wv.heap.size wv W) => show Hid (Below wv.heap.size wv W) ∧ W.cell? ⟨w.heap.size, 0, none⟩ = some (.int .i64 p.dl) ∧ W.cell? ⟨w.heap.size, 1, none⟩ = some (.slice A1 p.acts.length c1) ∧ W.cell? ⟨w.heap.size, 2, none⟩ = some (.slice A2 p.lks.length c2) ∧ W.cell? ⟨w.heap.size, 3, none⟩ = some (.slice A3 p.ress.length c3) ∧ W.cell? ⟨w.heap.size, 4, none⟩ = some (.slice A4 p.stk.length c4) from ⟨Lib.hid h, (h.cell (p := ⟨w.heap.size, 0, none⟩) hpl).trans e0, (h.cell (p := ⟨w.heap.size, 1, none⟩) hpl).trans e1, (h.cell (p := ⟨w.heap.size, 2, none⟩) hpl).trans e2, (h.cell (p := ⟨w.heap.size, 3, none⟩) hpl).trans e3, (h.cell (p := ⟨w.heap.size, 4, none⟩) hpl).trans e4⟩)
  have INIT := Lib.hid (CE.out _ (Below.refl _ _).drew)
  have KEEP := Lib.hid (fun (W2 W : World) (hb2 : Below W.heap.size W W2) (h : Hid (Below wv.heap.size wv W) ∧ W.cell? ⟨w.heap.size, 0, none⟩ = some (.int .i64 p.dl) ∧ W.cell? ⟨w.heap.size, 1, none⟩ = some (.slice A1 p.acts.length c1) ∧ W.cell? ⟨w.heap.size, 2, none⟩ = some (.slice A2 p.lks.length c2) ∧ W.cell? ⟨w.heap.size, 3, none⟩ = some (.slice A3 p.ress.length c3) ∧ W.cell? ⟨w.heap.size, 4, none⟩ = some (.slice A4 p.stk.length c4)) => CE.out W2 (h.1.out.trans (hb2.mono h.1.out.size)))
  have S2 := Lib.hid S1.out.drew1
  clear CE e0 e1 e2 e3 e4 ef hpl S1 S0
  go_region_held3 (fun W => Hid (Below wv.heap.size wv W) ∧ W.cell? ⟨w.heap.size, 0, none⟩ = some (.int .i64 p.dl) ∧ W.cell? ⟨w.heap.size, 1, none⟩ = some (.slice A1 p.acts.length c1) ∧ W.cell? ⟨w.heap.size, 2, none⟩ = some (.slice A2 p.lks.length c2) ∧ W.cell? ⟨w.heap.size, 3, none⟩ = some (.slice A3 p.ress.length c3) ∧ W.cell? ⟨w.heap.size, 4, none⟩ = some (.slice A4 p.stk.length c4)) (first | exact INIT.out | exact KEEP.out _ _ (by assumption) (by assumption))
    (first
      | (go_at_call 26; refine (specPathBound_any p _ _ (by exact S2.out.old HV.out) HK.out).mono ?_; rintro e w5 ⟨rfl, b5⟩; have S5 := Lib.hid (S2.out.go b5))
      | (go_at_call 24; refine (specLatest_any p (boundB p) _ _ (by exact S5.out.old HV.out) HK.out).mono ?_; rintro e w6 ⟨u6, F6, rfl, o6, hn6, b6⟩; have S6 := Lib.hid (S5.out.new o6 hn6 b6)))
  clear INIT KEEP S2 S5
  obtain ⟨UL, cl, rfl⟩ := slice_ints (S6.out.rd 0 rfl)
  obtain ⟨e0, e1, e2, e3, e4, ef⟩ := (S6.out.bk 2 rfl).c5
  go_wp2_with fail
  clear e0 e1 e2 e3 e4 ef
  refine (specEarliest_any p _ _ (by exact S6.out.old HV.out) HK.out).mono ?_
  rintro e w7 ⟨u7, F7, rfl, o7, hn7, b7⟩
  have S7 := Lib.hid (S6.out.new o7 hn7 b7)
  obtain ⟨UE, ce, rfl⟩ := slice_ints (S7.out.rd 0 rfl)
  have S8 := Lib.hid (S7.out.pick 2 rfl)
  simp only [List.eraseIdx_cons_succ, List.eraseIdx_cons_zero] at S8
  clear o7 hn7 b7 S6 S7 o6 hn6 b6 b5
  have HUE := Lib.hid (show (earlyL p).length = nD p by rw [earlyL_eq, map_len])
  have HUL := Lib.hid (show (lateL p (boundB p)).length = nD p by rw [lateL, map_len])
  have EK := Lib.hid (fun k (h : k < (earlyL p).length) => show (earlyL p)[k] = earlyT (distT p) (nD p) k by simp only [earlyL_eq, List.getElem_map, List.getElem_range])
  have LKK := Lib.hid (fun k (h : k < (lateL p (boundB p)).length) => show (lateL p (boundB p))[k] = lateS (distT p) (shortA p) (boundB p) k (nD p) by simp only [lateL, List.getElem_map, List.getElem_range])
  have HP := Lib.hid (show ∀ k, (fun a => decide (lateS (distT p) (shortA p) (boundB p) a (nD p) = earlyT (distT p) (nD p) a)) k = decide (lateS (distT p) (shortA p) (boundB p) k (nD p) = earlyT (distT p) (nD p) k) from fun _ => rfl)
  have h6 := nD_six p
  rw [HUE.out, HUL.out] at S8 ⊢
  generalize (fun a => decide (lateS (distT p) (shortA p) (boundB p) a (nD p) = earlyT (distT p) (nD p) a)) = P at HS HP
  generalize earlyL p = EL at S8 HUE EK
  generalize lateL p (boundB p) = LL at S8 HUL LKK
  generalize nD p = N at S8 HUE HUL EK LKK HS HP h6 ⊢
  go_wp2
  go_loopw [3, 15] (fun u i wr => ∃ (k : Nat) (F : List Nat), k ≤ N ∧ i = .int .i64 k ∧ Sn w wr [⟨trI (critK P k), u, F⟩, ⟨trI EL, .slice UE N ce, F7⟩, ⟨trI LL, .slice UL N cl, F6⟩, boxI w.heap.size 35 [.int .i64 p.dl, .slice A1 p.acts.length c1, .slice A2 p.lks.length c2, .slice A3 p.ress.length c3, .slice A4 p.stk.length c4]]) (fun _ i _ => N - (intOf i).toNat)
  case atStart => exact ⟨0, _, Nat.zero_le _, rfl, S8.out⟩
  case round =>
    obtain ⟨k, F, hkl, rfl, hS⟩ := hrel
    have S3 := Lib.hid hS
    clear hS S8
    obtain ⟨U, cu, rfl⟩ := slice_ints (S3.out.rd 0 rfl)
    by_cases hlt : k < N
    · have hlt' : (k : Int) < (N : Int) := by omega
      have hk0 : (0 : Int) ≤ (k : Int) := by omega
      have TY := Lib.hid (critK_yes (P := P) (k := k))
      have TN := Lib.hid (critK_no (P := P) (k := k))
      have hlen := critK_len P k
      generalize critK P k = us at S3 hlen TY TN ⊢
      obtain ⟨ge, rfl, _⟩ := (S3.out.drop 0).formI (by omega)
      obtain ⟨gl, rfl, _⟩ := ((S3.out.drop 0).drop 0).formI (by omega)
      have hce := (show Sn w wr (⟨trI EL, .slice (some ⟨ge, 0, none⟩) EL.length ce, F7⟩ :: _) from by rw [HUE.out]; exact S3.out.drop 0).cellI (i := k) (by rw [HUE.out]; exact hlt) |>.1
      have hcl := (show Sn w wr (⟨trI LL, .slice (some ⟨gl, 0, none⟩) LL.length cl, F6⟩ :: _) from by rw [HUL.out]; exact (S3.out.drop 0).drop 0).cellI (i := k) (by rw [HUL.out]; exact hlt) |>.1
      rw [EK.out] at hce
      rw [LKK.out] at hcl
      have HPK := Lib.hid (HP.out k)
      generalize earlyT (distT p) N k = E at hce HPK
      generalize lateS (distT p) (shortA p) (boundB p) k N = L at hcl HPK
      by_cases hEL : L = E
      · have HT := Lib.hid (TY.out (HPK.out.trans (decide_eq_true hEL)))
        have hb : (L == E) = true := by simp [hEL]
        have OW := Lib.hid S3.out.ownRI
        have hz := S3.out.1.size
        clear TY TN HPK hEL
        go_wp2_with (first | (at_builtin; refine wpList_append_own_at _ rfl (.tmp 26) (.tmp 28) 25 rfl w.heap.size 3 i0 (.int .i64 0) 1 8 Tryz.underlying25 hi0 hz0 hz1 hz2 rfl (by decide) (.slice U us.length cu) us.length ((us).map (.int .i64)) rfl (by exact OW.out.alloc _) ⟨wr.heap.size, 0, none⟩ 1 1 [.int .i64 (k : Int)] rfl rfl ?c1 ?c2 ?c3 ?c4 ?c5 ?_))
        try case c1 => exact one_cell _ _ _
        case c2 => simp [Value.oneCell']
        case c3 => unfold maxLen; omega
        case c4 => omega
        case c5 => first | omega | (simp; omega)
        intro v' w8 hown8 hg8 _ hat8
        obtain ⟨F9, h9⟩ := S3.out.appI2 hown8 hg8 (by simpa using hat8)
        have S9 := Lib.hid h9
        clear hown8 hg8 hat8 h9 OW S3
        go_wp2
        go_roundw
        case rel => exact ⟨k + 1, F9, by omega, by go_num, by rw [HT.out]; exact S9.out⟩
        case measure => simp [intOf]; omega
      · have HT := Lib.hid (TN.out (HPK.out.trans (decide_eq_false hEL)))
        have hb : (L == E) = false := by simp [hEL]
        clear TY TN HPK hEL
        go_wp2
        go_roundw
        case rel => exact ⟨k + 1, F, by omega, by go_num, by rw [HT.out]; exact S3.out⟩
        case measure => simp [intOf]; omega
    · have hge : ¬ (k : Int) < (N : Int) := by omega
      obtain rfl : k = N := by omega
      go_wp2
      go_ret
      first
        | exact ⟨_, rfl, _, by rw [HS.out]; exact (S3.out.own 0 rfl).1, (S3.out.own 0 rfl).2, S3.out.1⟩
        | exact ⟨_, _, rfl, by rw [HS.out]; exact (S3.out.own 0 rfl).1, (S3.out.own 0 rfl).2, S3.out.1⟩
        | exact ⟨_, by rw [HS.out]; exact (S3.out.own 0 rfl).1, (S3.out.own 0 rfl).2, S3.out.1⟩
end Go.Proofs.YtoggakfkpeloiaaGreat
