/- DERIVED. CONTRACTS: IsReachable, of the model and of the program. -/
import Derived.Test.YtfdhoddooeedoaaGreatLkS
import Derived.Deep.RegionWith
namespace Go.Proofs.YtfdhoddooeedoaaGreat
open Go.RowKit Go.Shelf
set_option linter.unusedVariables false

/-- What the program holds when the first m have been followed. -/
structure Work (ls : List Lk) (a : Int) (m : Nat) (R : List Int) : Prop where
  nd : R.Nodup
  first : ∀ y ∈ nextL ls a, y ∈ R
  only : ∀ x ∈ R, Rch ls a x
  clo : ∀ x ∈ R.take m, ∀ y ∈ nextL ls x, y ∈ R
/-- In the middle of a round: the ends of R[m] are X, the first j of them are in. -/
structure Fill (ls : List Lk) (a : Int) (R X : List Int) (j : Nat) (Q : List Int) : Prop where
  pre : ∃ E, Q = R ++ E
  nd : Q.Nodup
  only : ∀ x ∈ Q, Rch ls a x
  got : ∀ y ∈ X.take j, y ∈ Q
theorem work_start (ls : List Lk) (a : Int) : Work ls a 0 (setB (nextL ls a)) :=
  ⟨asc_nodup (asc_setB _), fun y h => (mem_setB _ _).2 h, fun x h => .one ((mem_setB _ _).1 h), fun x h => by simp at h⟩
theorem work_len {p : Pj} {a : Int} {m : Nat} {R : List Int} (hok : pokB p = true) (h : Work p.lks a m R) : R.length ≤ p.acts.length := nodup_lt _ _ h.nd fun x hx => rch_range hok (h.only x hx)
theorem fill_len {p : Pj} {a : Int} {j : Nat} {R X Q : List Int} (hok : pokB p = true) (h : Fill p.lks a R X j Q) : Q.length ≤ p.acts.length := nodup_lt _ _ h.nd fun x hx => rch_range hok (h.only x hx)
theorem fill_start {ls : List Lk} {a : Int} {m : Nat} {R X : List Int} (h : Work ls a m R) : Fill ls a R X 0 R := ⟨⟨[], by simp⟩, h.nd, h.only, fun y hy => by simp at hy⟩
theorem fill_has {ls : List Lk} {a : Int} {j : Nat} {R X Q : List Int} (h : Fill ls a R X j Q) (hj : j < X.length) (hh : hasB Q X[j] = true) : Fill ls a R X (j + 1) Q := by
  refine ⟨h.pre, h.nd, h.only, fun y hy => ?_⟩
  rw [List.take_succ_eq_append_getElem hj, List.mem_append] at hy
  rcases hy with hy | hy
  · exact h.got y hy
  · rw [List.mem_singleton] at hy
    rw [hy]; exact List.contains_iff_mem.1 hh
theorem fill_new {ls : List Lk} {a r : Int} {j : Nat} {R Q : List Int} (h : Fill ls a R (setB (nextL ls r)) j Q) (hr : Rch ls a r) (hj : j < (setB (nextL ls r)).length) (hh : hasB Q (setB (nextL ls r))[j] = false) : Fill ls a R (setB (nextL ls r)) (j + 1) (Q ++ [(setB (nextL ls r))[j]]) := by
  obtain ⟨E, hE⟩ := h.pre
  have hmem : (setB (nextL ls r))[j] ∈ nextL ls r := (mem_setB _ _).1 (List.getElem_mem hj)
  have hno : (setB (nextL ls r))[j] ∉ Q := fun hm => by rw [hasB, List.contains_iff_mem.2 hm] at hh; cases hh
  refine ⟨⟨E ++ [_], by rw [hE, List.append_assoc]⟩, ?_, fun x hx => ?_, fun y hy => ?_⟩
  · rw [List.nodup_append]
    exact ⟨h.nd, by simp, fun x hx y hy e => by rw [List.mem_singleton] at hy; rw [e, hy] at hx; exact hno hx⟩
  · rw [List.mem_append, List.mem_singleton] at hx
    rcases hx with hx | rfl
    · exact h.only x hx
    · exact .more hr hmem
  · rw [List.take_succ_eq_append_getElem hj, List.mem_append] at hy
    rw [List.mem_append]
    rcases hy with hy | hy
    · exact .inl (h.got y hy)
    · exact .inr hy
theorem fill_end {ls : List Lk} {a : Int} {m : Nat} {R Q : List Int} (hw : Work ls a m R) (hm : m < R.length) (h : Fill ls a R (setB (nextL ls R[m])) (setB (nextL ls R[m])).length Q) : Work ls a (m + 1) Q ∧ m + 1 ≤ Q.length := by
  obtain ⟨E, rfl⟩ := h.pre
  have hsub : ∀ x ∈ R, x ∈ R ++ E := fun x hx => List.mem_append_left _ hx
  refine ⟨⟨h.nd, fun y hy => hsub y (hw.first y hy), h.only, fun x hx y hy => ?_⟩, by simp; omega⟩
  rw [List.take_append_of_le_length (by omega), List.take_succ_eq_append_getElem hm, List.mem_append] at hx
  rcases hx with hx | hx
  · exact hsub y (hw.clo x hx y hy)
  · rw [List.mem_singleton] at hx
    refine h.got y ?_
    rw [List.take_length, mem_setB, ← hx]; exact hy
theorem work_done {p : Pj} {a b : Int} {m : Nat} {R : List Int} (hok : pokB p = true) (h : Work p.lks a m R) (hm : R.length ≤ m) : hasB R b = reachB p a b :=
  reach_list hok h.first (fun x hx => h.clo x (by rw [List.take_of_length_le hm]; exact hx)) h.only


set_option maxRecDepth 100000 in
set_option maxHeartbeats 8000000 in
theorem specIsReachable_any (p : Pj) (a q : Int) (v : Value) (w : World) (hv : (trPj p).rd w v) (hk : (trPj p).ok) :
    Calls Tryz.prog 20 #[v, .int .i64 a, .int .i64 q] w fun e w' => e = .returned (.bool (reachB p a q)) ∧ Below w.heap.size w w' := by
  have HV := Lib.hid hv
  obtain ⟨A1, c1, A2, c2, A3, c3, A4, c4, rfl, r1, r2, r3, r4⟩ := rdProject_t hv
  obtain ⟨hl2, B2, d2, he, g2⟩ := rdLinkS_t r2
  injection he with he _ he2
  subst he he2
  have G2 := Lib.hid g2
  clear hv r1 r2 r3 r4 g2
  have HK := Lib.hid hk
  clear hk G2 hl2
  have S0 := Lib.hid ((Sn.start w).box 34 [.int .i64 p.dl, .slice A1 p.acts.length c1, .slice A2 p.lks.length c2, .slice A3 p.ress.length c3, .slice A4 p.stk.length c4])
  go_enter Tryz.func20, Tryz.ntmps20
  obtain ⟨e0, e1, e2, e3, e4, ef⟩ := (S0.out.bk 0 rfl).c5
  go_wp2_with fail
  clear e0 e1 e2 e3 e4 ef
  refine (specProjectOk_any p _ _ (by exact S0.out.old HV.out) HK.out).mono ?_
  rintro e w1 ⟨rfl, b⟩
  have S1 := Lib.hid (S0.out.go b)
  clear S0 b
  rcases hok : pokB p with _ | _
  · have HS := Lib.hid (reach_bad (a := a) (b := q) hok)
    clear hok
    go_wp2
    go_ret
    exact ⟨by rw [HS.out]; try rfl, S1.out.1⟩
  have HOK := Lib.hid hok
  have HS := Lib.hid (show succB p a = setB (nextL p.lks a) by rw [succB, if_pos hok])
  have h12 := (pok_lks hok).1
  have h6 := (pok_acts hok).1
  clear hok
  obtain ⟨e0, e1, e2, e3, e4, ef⟩ := (S1.out.bk 0 rfl).c5
  go_wp2_with fail
  clear e0 e1 e2 e3 e4 ef
  refine (specSuccessors_any p a _ _ (by exact S1.out.old HV.out) HK.out).mono ?_
  rintro e w2 ⟨u2, F2, rfl, o2, hn2, b⟩
  rw [HS.out] at o2
  have S2 := Lib.hid (S1.out.new o2 hn2 b)
  clear o2 hn2 b S1
  have HR := Lib.hid (And.intro (rd_flat (S2.out.rd 0 rfl)) (nilOk_own S2.out.ownRI))
  have S3 := Lib.hid (S2.out.drop 0)
  clear S2
  go_wp2
  go_loopw [7, 8] (fun u i wr => ∃ (m : Nat) (Y : List Int), m ≤ p.acts.length ∧ i = .int .i64 m ∧ Seen p.lks a m Y ∧ (Rd wr u (Y.map (.int .i64)) ∧ NilOk u) ∧ Sn w wr [boxI w.heap.size 34 [.int .i64 p.dl, .slice A1 p.acts.length c1, .slice A2 p.lks.length c2, .slice A3 p.ress.length c3, .slice A4 p.stk.length c4]]) (fun _ i _ => p.acts.length - (intOf i).toNat)
  case atStart => exact ⟨0, _, Nat.zero_le _, rfl, seen_start _ _, HR.out, S3.out⟩
  case round =>
    obtain ⟨m, Y, hml, rfl, hs, hr, hS⟩ := hrel
    have S4 := Lib.hid hS
    have HE := Lib.hid hs
    have HY := Lib.hid hr
    clear hS S3 hs hr HR
    obtain ⟨wo, rfl⟩ : ∃ wo : World, wo = wr := ⟨_, rfl⟩
    obtain ⟨hYl, AY, cY, he, gY⟩ := rdI HY.out.1
    subst he
    have GY := Lib.hid gY
    clear gY
    obtain ⟨e0, e1, e2, e3, e4, ef⟩ := (S4.out.bk 0 rfl).c5
    by_cases hlt : m < p.acts.length
    · have hlt' : (m : Int) < (p.acts.length : Int) := by omega
      unfold maxLen at hYl
      go_wp2
      clear e0 e1 e2 e3 e4 ef
      go_loopw [7, 26] (fun u i wz => ∃ (j : Nat) (Z : List Int), j ≤ Y.length ∧ i = .int .i64 j ∧ Mid p.lks Y j Z ∧ (Rd wz u (Z.map (.int .i64)) ∧ NilOk u) ∧ Below wo.heap.size wo wz ∧ Sn w wz [boxI w.heap.size 34 [.int .i64 p.dl, .slice A1 p.acts.length c1, .slice A2 p.lks.length c2, .slice A3 p.ress.length c3, .slice A4 p.stk.length c4]]) (fun _ i _ => Y.length - (intOf i).toNat)
      case atStart => exact ⟨0, Y, Nat.zero_le _, rfl, mid_start _ HE.out.asc, HY.out, Below.refl _ _, S4.out⟩
      case round =>
        obtain ⟨j, Z, hjl, rfl, hmid, hr, hbz, hS⟩ := hrel
        have S5 := Lib.hid hS
        have HM := Lib.hid hmid
        have HZ := Lib.hid hr
        have HBZ := Lib.hid hbz
        clear hS S4 hmid hr hbz
        by_cases hltj : j < Y.length
        · have hltj' : (j : Int) < (Y.length : Int) := by omega
          obtain ⟨b, o, rfl, hb, hc⟩ := GY.out j hltj
          have hx0 := (HBZ.out.cell (p := ⟨b, o + j, none⟩) hb).trans (hc j hltj)
          clear hc
          have NX := Lib.hid (mid_succ hltj HM.out)
          have hZl := mid_range HOK.out HE.out HM.out
          generalize Y[j] = x at hx0 NX
          obtain ⟨e0, e1, e2, e3, e4, ef⟩ := (S5.out.bk 0 rfl).c5
          go_wp2_with fail
          clear e0 e1 e2 e3 e4 ef
          refine (specNext_any p x _ _ (by exact S5.out.old HV.out) h12).mono ?_
          rintro e w6 ⟨u6, F6, rfl, o6, hn6, b6⟩
          have S6 := Lib.hid (S5.out.new o6 hn6 b6)
          have HZ6 := Lib.hid (HZ.out.1.below b6 (Nat.le_refl _))
          have HB6 := Lib.hid (HBZ.out.trans (b6.mono HBZ.out.size))
          clear o6 hn6 b6 S5 HBZ hx0
          have hsl : (setB (nextL p.lks x)).length ≤ 12 := Nat.le_trans setPick_len h12
          go_wp2_with fail
          refine (specUnion_any Z (setB (nextL p.lks x)) _ _ _ (by exact HZ6.out) HZ.out.2 (by exact rd_flat (S6.out.rd 0 rfl)) (nilOk_own S6.out.ownRI) (by omega)).mono ?_
          rintro e w7 ⟨u7, rfl, o7, b7⟩
          have S7 := Lib.hid (((S6.out.drop 0).new (flat_own o7).1 (flat_own o7).2 b7))
          have HR7 := Lib.hid (And.intro (rd_flat (S7.out.rd 0 rfl)) (nilOk_own o7))
          have HB7 := Lib.hid (HB6.out.trans (b7.mono HB6.out.size))
          have S8 := Lib.hid (S7.out.drop 0)
          clear o7 b7 S7 S6 HB6 HZ6
          go_wp2
          go_roundw
          case rel => exact ⟨j + 1, _, by omega, by go_num, NX.out, HR7.out, HB7.out, S8.out⟩
          case measure => simp [intOf]; omega
        · have hgej : ¬ (j : Int) < (Y.length : Int) := by omega
          obtain rfl : j = Y.length := by omega
          have NE := Lib.hid (seen_succ HE.out HM.out)
          go_wp2
          go_roundw
          case rel => exact ⟨m + 1, Z, by omega, by go_num, NE.out, HZ.out, S5.out⟩
          case measure => simp [intOf]; omega
    · have hge : ¬ (m : Int) < (p.acts.length : Int) := by omega
      obtain rfl : m = p.acts.length := by omega
      have HF := Lib.hid (seen_end (b := q) HOK.out HE.out)
      go_wp2_with fail
      refine (specHas_any Y q _ _ (by exact HY.out.1)).mono ?_
      rintro e w9 ⟨rfl, hw⟩
      subst hw
      rw [HF.out]
      go_wp2
      go_ret
      exact ⟨rfl, S4.out.1⟩


set_option maxRecDepth 100000 in
set_option maxHeartbeats 8000000 in
theorem implIsReachable_any (p : Pj) (a q : Int) (v : Value) (w : World) (hv : (trPj p).rd w v) (hk : (trPj p).ok) :
    Calls Tryz.prog 21 #[v, .int .i64 a, .int .i64 q] w fun e w' => e = .returned (.bool (reachB p a q)) ∧ Below w.heap.size w w' := by
  have HV := Lib.hid hv
  obtain ⟨A1, c1, A2, c2, A3, c3, A4, c4, rfl, r1, r2, r3, r4⟩ := rdProject_t hv
  obtain ⟨hl2, B2, d2, he, g2⟩ := rdLinkS_t r2
  injection he with he _ he2
  subst he he2
  have G2 := Lib.hid g2
  clear hv r1 r2 r3 r4 g2
  have HK := Lib.hid hk
  clear hk G2 hl2
  obtain ⟨i0, hi0, hz0, hz1, hz2⟩ := info_parts infoInt
  have S0 := Lib.hid ((Sn.start w).box 34 [.int .i64 p.dl, .slice A1 p.acts.length c1, .slice A2 p.lks.length c2, .slice A3 p.ress.length c3, .slice A4 p.stk.length c4])
  go_enter Tryz.func21, Tryz.ntmps21
  obtain ⟨e0, e1, e2, e3, e4, ef⟩ := (S0.out.bk 0 rfl).c5
  go_wp2_with fail
  clear e0 e1 e2 e3 e4 ef
  refine (implProjectOk_any p _ _ (by exact S0.out.old HV.out) HK.out).mono ?_
  rintro e w1 ⟨rfl, b⟩
  have S1 := Lib.hid (S0.out.go b)
  clear S0 b
  rcases hok : pokB p with _ | _
  · have HS := Lib.hid (reach_bad (a := a) (b := q) hok)
    clear hok
    go_wp2
    go_ret
    exact ⟨by rw [HS.out]; try rfl, S1.out.1⟩
  have HOK := Lib.hid hok
  have h12 := (pok_lks hok).1
  have h6 := (pok_acts hok).1
  clear hok
  obtain ⟨e0, e1, e2, e3, e4, ef⟩ := (S1.out.bk 0 rfl).c5
  go_wp2_with fail
  clear e0 e1 e2 e3 e4 ef
  refine (implNext_any p a _ _ (by exact S1.out.old HV.out) h12).mono ?_
  rintro e w2 ⟨u2, F2, rfl, o2, hn2, b⟩
  have S2 := Lib.hid (S1.out.new o2 hn2 b)
  clear o2 hn2 b S1
  go_wp2
  go_loopw [7, 8] (fun u i wr => ∃ (m : Nat) (R : List Int) (F : List Nat), m ≤ R.length ∧ i = .int .i64 m ∧ Work p.lks a m R ∧ Sn w wr [⟨trI R, u, F⟩, boxI w.heap.size 34 [.int .i64 p.dl, .slice A1 p.acts.length c1, .slice A2 p.lks.length c2, .slice A3 p.ress.length c3, .slice A4 p.stk.length c4]]) (fun _ i _ => p.acts.length - (intOf i).toNat)
  case atStart => exact ⟨0, _, _, Nat.zero_le _, rfl, work_start _ _, S2.out⟩
  case round =>
    obtain ⟨m, R, F, hml, rfl, hs, hS⟩ := hrel
    have S3 := Lib.hid hS
    have HE := Lib.hid hs
    have hRl := work_len HOK.out hs
    clear hS S2 hs
    obtain ⟨wo, rfl⟩ : ∃ wo : World, wo = wr := ⟨_, rfl⟩
    obtain ⟨hYl, AY, cY, he, gY⟩ := rdI (rd_flat (S3.out.rd 0 rfl))
    subst he
    have GY := Lib.hid gY
    clear gY hYl
    by_cases hlt : m < R.length
    · have hlt' : (m : Int) < (R.length : Int) := by omega
      obtain ⟨b, o, rfl, hb, hc⟩ := GY.out m hlt
      have hx0 := hc m hlt
      clear hc
      have hra := HE.out.only R[m] (List.getElem_mem hlt)
      have FE := Lib.hid (fun Q => fill_end (Q := Q) HE.out hlt)
      have FS := Lib.hid (fill_start (X := setB (nextL p.lks R[m])) HE.out)
      have HRA := Lib.hid hra
      clear hra
      generalize R[m] = x at hx0 FE FS HRA
      go_wp2_with fail
      obtain ⟨e0, e1, e2, e3, e4, ef⟩ := (S3.out.bk 1 rfl).c5
      have S4 := Lib.hid S3.out.drew1
      clear S3
      go_region_with (go_at_call 40; refine (implNext_any p x _ _ (by exact S4.out.old HV.out) h12).mono ?_; rintro e w5 ⟨u5, F5, rfl, o5, hn5, b5⟩; obtain ⟨U5, cu5, rfl⟩ := slice_ints (Tr.own_rd _ _ _ o5); have S5 := Lib.hid ((S4.out.new o5 hn5 b5).pick 1 rfl); clear o5 hn5 b5)
      all_goals
        clear e0 e1 e2 e3 e4 ef hx0
        have GX := Lib.hid (rdI (rd_flat (S5.out.rd 1 rfl)))
        have hsl : (setB (nextL p.lks x)).length ≤ 12 := Nat.le_trans setPick_len h12
        have FN := Lib.hid (fun Q j => fill_new (a := a) (R := R) (Q := Q) (j := j) (r := x) (ls := p.lks))
        have FH := Lib.hid (fun Q j => fill_has (a := a) (R := R) (Q := Q) (j := j) (X := setB (nextL p.lks x)) (ls := p.lks))
        generalize hX : setB (nextL p.lks x) = X at GX hsl FN FH FE FS S5 ⊢
        clear hX
        go_wp2
        go_simp
        go_loopw [7, 30] (fun u i wz => ∃ (j : Nat) (Q : List Int) (F : List Nat), j ≤ X.length ∧ i = .int .i64 j ∧ Fill p.lks a R X j Q ∧ Sn w wz [⟨trI Q, u, F⟩, ⟨trI X, .slice U5 X.length cu5, F5⟩, boxI w.heap.size 34 [.int .i64 p.dl, .slice A1 p.acts.length c1, .slice A2 p.lks.length c2, .slice A3 p.ress.length c3, .slice A4 p.stk.length c4]]) (fun _ i _ => X.length - (intOf i).toNat)
        case atStart => exact ⟨0, R, _, Nat.zero_le _, rfl, FS.out, S5.out⟩
        case round =>
          obtain ⟨j, Q, F8, hjl, rfl, hf, hS⟩ := hrel
          have S6 := Lib.hid hS
          have HF := Lib.hid hf
          have hQl := fill_len HOK.out hf
          clear hS S5 hf GX
          obtain ⟨UQ, cQ, rfl⟩ := slice_ints (S6.out.rd 0 rfl)
          by_cases hltj : j < X.length
          · have hltj' : (j : Int) < (X.length : Int) := by omega
            obtain ⟨_, AX, cX, heX, gX⟩ := rdI (rd_flat (S6.out.rd 1 rfl))
            injection heX with he1 _ he2
            subst he1 he2
            obtain ⟨b2, o2, rfl, hb2, hc2⟩ := gX j hltj
            have hy0 := hc2 j hltj
            clear hc2 gX
            have FN1 := Lib.hid (FN.out Q j HF.out HRA.out hltj)
            have FH1 := Lib.hid (FH.out Q j HF.out hltj)
            generalize X[j] = y at hy0 FN1 FH1
            go_wp2_with fail
            refine (implHas_any Q y _ _ (by exact rd_flat (S6.out.rd 0 rfl))).mono ?_
            rintro e w9 ⟨rfl, hw⟩
            subst hw
            rcases hh : hasB Q y with _ | _
            · have FR := Lib.hid (FN1.out hh)
              clear hh FN1 FH1
              have OW := Lib.hid S6.out.ownRI
              have hz := S6.out.1.size
              go_wp2_with (first | (at_builtin; refine wpList_append_own_at _ rfl (.tmp 38) (.tmp 40) 25 rfl w.heap.size 3 i0 (.int .i64 0) 1 8 Tryz.underlying25 hi0 hz0 hz1 hz2 rfl (by decide) (.slice UQ Q.length cQ) Q.length (Q.map (.int .i64)) rfl (by exact OW.out.alloc _) ⟨w9.heap.size, 0, none⟩ 1 1 [.int .i64 y] rfl rfl ?c1 ?c2 ?c3 ?c4 ?c5 ?_))
              try case c1 => exact one_cell _ _ _
              case c2 => simp [Value.oneCell']
              case c3 => unfold maxLen; omega
              case c4 => omega
              case c5 => first | omega | (simp; omega)
              intro v' w8 hown8 hg8 _ hat8
              obtain ⟨F9, h9⟩ := S6.out.appI2 hown8 hg8 (by simpa using hat8)
              have S9 := Lib.hid h9
              clear hown8 hg8 hat8 h9 OW S6
              go_wp2
              go_roundw
              case rel => exact ⟨j + 1, _, _, by omega, by go_num, FR.out, S9.out⟩
              case measure => simp [intOf]; omega
            · have FR := Lib.hid (FH1.out hh)
              clear hh FN1 FH1
              go_wp2
              go_roundw
              case rel => exact ⟨j + 1, _, _, by omega, by go_num, FR.out, S6.out⟩
              case measure => simp [intOf]; omega
          · have hgej : ¬ (j : Int) < (X.length : Int) := by omega
            obtain rfl : j = X.length := by omega
            obtain ⟨hw1, hl1⟩ := FE.out Q HF.out
            have HW := Lib.hid hw1
            have S7 := Lib.hid (S6.out.drop 1)
            clear S6 hw1
            go_wp2
            go_roundw
            case rel => exact ⟨m + 1, Q, _, hl1, by go_num, HW.out, S7.out⟩
            case measure => simp [intOf]; omega
    · have hge : ¬ (m : Int) < (R.length : Int) := by omega
      have HF := Lib.hid (work_done (b := q) HOK.out HE.out (by omega))
      go_wp2_with fail
      refine (implHas_any R q _ _ (by exact rd_flat (S3.out.rd 0 rfl))).mono ?_
      rintro e w9 ⟨rfl, hw⟩
      subst hw
      rw [HF.out]
      go_wp2
      go_ret
      exact ⟨rfl, S3.out.1⟩


end Go.Proofs.YtfdhoddooeedoaaGreat
