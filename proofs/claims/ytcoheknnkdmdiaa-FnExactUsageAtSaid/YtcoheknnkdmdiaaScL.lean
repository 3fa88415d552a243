/- DERIVED. CONTRACTS of chapter 10: the model's EndTime and Makespan; RunningAt of the program and of the model. -/
import Derived.Test.YtcoheknnkdmdiaaScK
namespace Go.Proofs.Ytcoheknnkdmdiaa
open Go.RowKit Go.Shelf
set_option linter.unusedVariables false

theorem maxSc_any (x y : Int) (w : World) : Calls Try.prog 47 #[.int .i64 x, .int .i64 y] w fun e w' => e = .returned (.int .i64 (max x y)) ∧ w = w' := by
  by_cases h : x > y
  · have H := Lib.hid (show max x y = x by omega)
    go_enter Try.func47, Try.ntmps47
    go_wp2
    go_ret
    exact ⟨by rw [H.out]; rfl, rfl⟩
  · have H := Lib.hid (show max x y = y by omega)
    go_enter Try.func47, Try.ntmps47
    go_wp2
    go_ret
    exact ⟨by rw [H.out]; rfl, rfl⟩

set_option maxRecDepth 100000 in
set_option maxHeartbeats 8000000 in
theorem specEndTime_any (p : Pj) (s : Sc) (a : Int) (v u : Value) (w : World) (hv : (trPj p).rd w v) (hk : (trPj p).ok) (hs : (trSc s).rd w u) :
    Calls Try.prog 16 #[v, u, .int .i64 a] w fun e w' => e = .returned (.int .i64 (endB p s a)) ∧ Below w.heap.size w w' := by
  have HK := Lib.hid hk
  clear hk
  have HV := Lib.hid hv
  obtain ⟨A1, c1, A2, c2, A3, c3, A4, c4, rfl, _⟩ := rdProject_t hv
  have HQ := Lib.hid hs
  obtain ⟨E1, f1, E2, f2, rfl, _⟩ := rdSchedule_t hs
  clear hv hs
  have S0 := Lib.hid (((Sn.start w).box 37 [.int .i64 p.dl, .slice A1 p.acts.length c1, .slice A2 p.lks.length c2, .slice A3 p.ress.length c3, .slice A4 p.stk.length c4]).box 39 [.slice E1 s.st.length f1, .slice E2 s.mo.length f2])
  simp only [World.size_alloc] at S0
  go_enter Try.func16, Try.ntmps16
  go_wp2_with fail
  refine (specForm_any p s _ _ _ (by exact S0.out.old HV.out) HK.out (by exact S0.out.old HQ.out)).mono ?_
  rintro e w1 ⟨rfl, b⟩
  have S1 := Lib.hid (S0.out.go b)
  clear S0 b
  rcases hok : formB p s with _ | _
  · have HR := Lib.hid (endB_bad (a := a) hok)
    clear hok
    go_wp2
    go_ret
    exact ⟨ret_numZ HR.out.symm, S1.out.1⟩
  have HF := Lib.hid (form_of hok)
  have h6 := HF.out.n6
  have h7 := HF.out.n1
  have hwr : IntKind.i64.wrap ((p.acts.length : Int) - 1) = (p.acts.length : Int) - 1 := by rw [IntKind.wrap_i64]; omega
  obtain ⟨e0, e1, e2, e3, e4, ef⟩ := (S1.out.bk 1 rfl).c5
  go_wp2_with fail
  clear e0 e1 e2 e3 e4 ef
  refine (in_any a 0 ((p.acts.length : Int) - 1) _).mono ?_
  rintro e w5 ⟨rfl, rfl⟩
  by_cases hin : 0 ≤ a ∧ a < (p.acts.length : Int)
  · obtain ⟨x, rfl⟩ : ∃ x : Nat, a = (x : Int) := ⟨a.toNat, by omega⟩
    have hx : x < p.acts.length := by omega
    have HR := Lib.hid (endB_yes hok hx)
    rw [inB_yes (show (0 : Int) ≤ (x : Int) ∧ (x : Int) ≤ (p.acts.length : Int) - 1 by omega)]
    obtain ⟨e0, e1, e2, e3, e4, ef⟩ := (S1.out.bk 1 rfl).c5
    obtain ⟨q0, q1, qf⟩ := (S1.out.bk 0 rfl).c2
    clear hok hin
    go_wp2_with fail
    clear e0 e1 e2 e3 e4 ef
    clear q0 q1 qf
    refine (specEnd_any p s x _ _ _ (by exact S1.out.old HV.out) (by exact S1.out.old HQ.out) HF.out hx).mono ?_
    rintro e w2 ⟨rfl, b⟩
    have S2 := Lib.hid (S1.out.go b)
    clear S1 b
    rw [← HR.out]
    go_wp2
    go_ret
    exact ⟨rfl, S2.out.1⟩
  · have HR := Lib.hid (endB_out (p := p) (s := s) hin)
    rw [inB_no (show ¬ ((0 : Int) ≤ a ∧ a ≤ (p.acts.length : Int) - 1) by omega)]
    clear hin hok
    go_wp2
    go_ret
    exact ⟨ret_numZ HR.out.symm, S1.out.1⟩

set_option maxRecDepth 100000 in
set_option maxHeartbeats 8000000 in
theorem specMakespan_any (p : Pj) (s : Sc) (v u : Value) (w : World) (hv : (trPj p).rd w v) (hk : (trPj p).ok) (hs : (trSc s).rd w u) :
    Calls Try.prog 18 #[v, u] w fun e w' => e = .returned (.int .i64 (mkspB p s)) ∧ Below w.heap.size w w' := by
  have HK := Lib.hid hk
  clear hk
  have HV := Lib.hid hv
  obtain ⟨A1, c1, A2, c2, A3, c3, A4, c4, rfl, _⟩ := rdProject_t hv
  have HQ := Lib.hid hs
  obtain ⟨E1, f1, E2, f2, rfl, _⟩ := rdSchedule_t hs
  clear hv hs
  have S0 := Lib.hid (((Sn.start w).box 37 [.int .i64 p.dl, .slice A1 p.acts.length c1, .slice A2 p.lks.length c2, .slice A3 p.ress.length c3, .slice A4 p.stk.length c4]).box 39 [.slice E1 s.st.length f1, .slice E2 s.mo.length f2])
  simp only [World.size_alloc] at S0
  go_enter Try.func18, Try.ntmps18
  go_wp2_with fail
  refine (specForm_any p s _ _ _ (by exact S0.out.old HV.out) HK.out (by exact S0.out.old HQ.out)).mono ?_
  rintro e w1 ⟨rfl, b⟩
  have S1 := Lib.hid (S0.out.go b)
  clear S0 b
  rcases hok : formB p s with _ | _
  · have HR := Lib.hid (span_bad hok)
    clear hok
    go_wp2
    go_ret
    exact ⟨ret_numZ HR.out.symm, S1.out.1⟩
  have HR := Lib.hid (span_spec hok)
  have HF := Lib.hid (form_of hok)
  have h6 := HF.out.n6
  obtain ⟨e0, e1, e2, e3, e4, ef⟩ := (S1.out.bk 1 rfl).c5
  clear hok
  go_wp2_with fail
  clear e0 e1 e2 e3 e4 ef
  go_loopw [5, 14] (fun q i wr => ∃ k : Nat, k ≤ p.acts.length ∧ i = .int .i64 k ∧ q = .int .i64 (lastK p s (-1) k) ∧ Sn w wr [boxI (w.heap.size + 1) 39 [.slice E1 s.st.length f1, .slice E2 s.mo.length f2], boxI w.heap.size 37 [.int .i64 p.dl, .slice A1 p.acts.length c1, .slice A2 p.lks.length c2, .slice A3 p.ress.length c3, .slice A4 p.stk.length c4]]) (fun _ i _ => p.acts.length - (intOf i).toNat)
  case atStart => exact ⟨0, Nat.zero_le _, rfl, rfl, S1.out⟩
  case round =>
    obtain ⟨k, hkl, rfl, rfl, hS⟩ := hrel
    have S2 := Lib.hid hS
    clear hS S1
    by_cases hlt : k < p.acts.length
    · have hlt' : (k : Int) < (p.acts.length : Int) := by omega
      obtain ⟨e0, e1, e2, e3, e4, ef⟩ := (S2.out.bk 1 rfl).c5
      obtain ⟨q0, q1, qf⟩ := (S2.out.bk 0 rfl).c2
      have HT := Lib.hid (show lastK p s (-1) (k + 1) = max (lastK p s (-1) k) (endA p s k) from rfl)
      generalize lastK p s (-1) k = la at HT ⊢
      go_wp2_with fail
      clear e0 e1 e2 e3 e4 ef
      clear q0 q1 qf
      refine (specEnd_any p s k _ _ _ (by exact S2.out.old HV.out) (by exact S2.out.old HQ.out) HF.out hlt).mono ?_
      rintro e w2 ⟨rfl, b⟩
      have S3 := Lib.hid (S2.out.go b)
      clear S2 b
      generalize endA p s k = en at HT ⊢
      go_wp2_with fail
      refine (maxSc_any la en _).mono ?_
      rintro e w6 ⟨rfl, rfl⟩
      rw [← HT.out]
      go_wp2
      go_roundw
      case rel => exact ⟨k + 1, by omega, by go_num, rfl, S3.out⟩
      case measure => simp [intOf]; omega
    · have hge : ¬ (k : Int) < (p.acts.length : Int) := by omega
      obtain rfl : k = p.acts.length := by omega
      go_wp2
      go_ret
      exact ⟨ret_numZ HR.out.symm, S2.out.1⟩

theorem runA_in {p : Pj} {s : Sc} {t : Int} {a : Nat} (h1 : stA s a ≤ t) (h2 : t < endA p s a) : runA p s t a = true := by simp [runA, h1, h2]
theorem runA_lo {p : Pj} {s : Sc} {t : Int} {a : Nat} (h1 : ¬ stA s a ≤ t) : runA p s t a = false := by simp [runA, h1]
theorem runA_hi {p : Pj} {s : Sc} {t : Int} {a : Nat} (h2 : endA p s a ≤ t) : runA p s t a = false := by
  rw [runA, decide_eq_false (p := t < endA p s a) (by omega)]
  simp

set_option maxRecDepth 100000 in
set_option maxHeartbeats 8000000 in
theorem implRunningAt_any (p : Pj) (s : Sc) (t : Int) (v u : Value) (w : World) (hv : (trPj p).rd w v) (hk : (trPj p).ok) (hs : (trSc s).rd w u) :
    Calls Try.prog 21 #[v, u, .int .i64 t] w fun e w' => ∃ u F, e = .returned u ∧ (trI (runL p s t)).own w' w.heap.size u F ∧ F.Nodup ∧ Below w.heap.size w w' := by
  have HK := Lib.hid hk
  clear hk
  have HV := Lib.hid hv
  obtain ⟨A1, c1, A2, c2, A3, c3, A4, c4, rfl, _⟩ := rdProject_t hv
  clear hv
  have HQ := Lib.hid hs
  obtain ⟨E1, f1, E2, f2, rfl, q1, q2⟩ := rdSchedule_t hs
  obtain ⟨ht1, B8, d8, he, x1⟩ := rdI (rd_flat q1)
  injection he with he _ he2
  subst he he2
  have X1 := Lib.hid x1
  obtain ⟨ht2, B9, d9, he, x2⟩ := rdI (rd_flat q2)
  injection he with he _ he2
  subst he he2
  have X2 := Lib.hid x2
  clear hs q1 q2 x1 x2
  have S0 := Lib.hid (((Sn.start w).box 37 [.int .i64 p.dl, .slice A1 p.acts.length c1, .slice A2 p.lks.length c2, .slice A3 p.ress.length c3, .slice A4 p.stk.length c4]).box 39 [.slice E1 s.st.length f1, .slice E2 s.mo.length f2])
  simp only [World.size_alloc] at S0
  go_enter Try.func21, Try.ntmps21
  go_wp2_with fail
  refine (implForm_any p s _ _ _ (by exact S0.out.old HV.out) HK.out (by exact S0.out.old HQ.out)).mono ?_
  rintro e w1 ⟨rfl, b⟩
  have S1 := Lib.hid (S0.out.go b)
  clear S0 b
  rcases hok : formB p s with _ | _
  · have HS := Lib.hid (runL_bad (t := t) hok)
    clear hok
    go_wp2
    go_ret
    have hnil : ∀ W : World, (trI (runL p s t)).own W w.heap.size (.slice none 0 0) [] := fun W => by rw [HS.out]; exact ⟨[], [], ⟨rfl, .inl ⟨rfl, rfl⟩⟩, ⟨rfl, rfl⟩, rfl⟩
    first
      | exact ⟨[], hnil _, List.nodup_nil, S1.out.1⟩
      | exact ⟨.slice none 0 0, [], rfl, hnil _, List.nodup_nil, S1.out.1⟩
      | exact ⟨.slice none 0 0, rfl, [], hnil _, List.nodup_nil, S1.out.1⟩
  have HR := Lib.hid (runL_yes (t := t) hok)
  have HF := Lib.hid (form_of hok)
  have h6 := HF.out.n6
  have H1 := Lib.hid HF.out.h1
  rw [H1.out] at HQ S1 ⊢
  obtain ⟨q0, q1, qf⟩ := (S1.out.bk 0 rfl).c2
  have S2 := Lib.hid S1.out.nilI
  clear hok S1
  obtain ⟨i0, hi0, hz0, hz1, hz2⟩ := info_parts infoInt
  go_wp2
  clear q0 q1 qf
  go_loopw [7, 17] (fun u i wr => ∃ (k : Nat) (F : List Nat), k ≤ p.acts.length ∧ i = .int .i64 k ∧ Sn w wr [⟨trI (runK p s t k), u, F⟩, boxI (w.heap.size + 1) 39 [.slice E1 p.acts.length f1, .slice E2 s.mo.length f2], boxI w.heap.size 37 [.int .i64 p.dl, .slice A1 p.acts.length c1, .slice A2 p.lks.length c2, .slice A3 p.ress.length c3, .slice A4 p.stk.length c4]]) (fun _ i _ => p.acts.length - (intOf i).toNat)
  case atStart => exact ⟨0, _, Nat.zero_le _, rfl, S2.out⟩
  case round =>
    obtain ⟨k, F, hkl, rfl, hS⟩ := hrel
    have S3 := Lib.hid hS
    clear hS S2
    obtain ⟨U, cu, rfl⟩ := slice_ints (S3.out.rd 0 rfl)
    by_cases hlt : k < p.acts.length
    · have hlt' : (k : Int) < (p.acts.length : Int) := by omega
      have k0 : (0 : Int) ≤ (k : Int) := by omega
      obtain ⟨b8, o8, rfl, hb8, hc8⟩ := X1.out k (by rw [H1.out]; exact hlt)
      have y8 := (S3.out.1.cell (p := ⟨b8, o8 + k, none⟩) hb8).trans (hc8 k (by rw [H1.out]; exact hlt))
      rw [← stA_at] at y8
      have RI := Lib.hid (fun h1 h2 => runK_yes (runA_in (p := p) (s := s) (t := t) (a := k) h1 h2))
      have RL := Lib.hid (fun h1 => runK_no (runA_lo (p := p) (s := s) (t := t) (a := k) h1))
      have RH := Lib.hid (fun h1 => runK_no (runA_hi (p := p) (s := s) (t := t) (a := k) h1))
      have hlen := runK_len p s t k
      generalize runK p s t k = us at S3 hlen RI RL RH ⊢
      generalize stA s k = st at y8 RI RL
      clear hc8
      by_cases ht1 : st ≤ t
      rotate_left
      · have HT := Lib.hid (RL.out ht1)
        clear RI RL RH
        go_wp2
        go_roundw
        case rel => exact ⟨k + 1, _, by omega, by go_num, by rw [HT.out]; exact S3.out⟩
        case measure => simp [intOf]; omega
      obtain ⟨e0, e1, e2, e3, e4, ef⟩ := (S3.out.bk 2 rfl).c5
      obtain ⟨q0, q1, qf⟩ := (S3.out.bk 1 rfl).c2
      go_wp2_with fail
      clear e0 e1 e2 e3 e4 ef
      clear q0 q1 qf
      clear y8
      refine (implEnd_any p s k _ _ _ (by exact S3.out.old HV.out) (by exact S3.out.old HQ.out) HF.out hlt).mono ?_
      rintro e w2 ⟨rfl, b⟩
      have S4 := Lib.hid (S3.out.go b)
      clear S3 b
      generalize endA p s k = en at RI RH ⊢
      by_cases ht2 : t < en
      rotate_left
      · have HT := Lib.hid (RH.out (by omega))
        clear RI RL RH
        go_wp2
        go_roundw
        case rel => exact ⟨k + 1, _, by omega, by go_num, by rw [HT.out]; exact S4.out⟩
        case measure => simp [intOf]; omega
      have HT := Lib.hid (RI.out ht1 ht2)
      clear RI RL RH
      have OW := Lib.hid S4.out.ownRI
      have hz := S4.out.1.size
      go_wp2_with (first | (at_builtin; refine wpList_append_own_at _ rfl (.tmp 33) (.tmp 35) 25 rfl w.heap.size 3 i0 (.int .i64 0) 1 8 Try.underlying25 hi0 hz0 hz1 hz2 rfl (by decide) (.slice U us.length cu) us.length ((us.map (.int .i64))) rfl (by exact OW.out.alloc _) ⟨w2.heap.size, 0, none⟩ 1 1 [.int .i64 (k : Int)] rfl rfl ?c1 ?c2 ?c3 ?c4 ?c5 ?_) | fail)
      try case c1 => exact one_cell _ _ _
      case c2 => simp [Value.oneCell']
      case c3 => unfold maxLen; omega
      case c4 => omega
      case c5 => first | omega | (simp; omega)
      intro v' w8 hown8 hg8 _ hat8
      obtain ⟨F9, h9⟩ := S4.out.appI2 hown8 hg8 (by simpa using hat8)
      have S9 := Lib.hid h9
      clear hown8 hg8 hat8 h9 OW S4
      go_wp2
      go_roundw
      case rel => exact ⟨k + 1, _, by omega, by go_num, by rw [HT.out]; exact S9.out⟩
      case measure => simp [intOf]; omega
    · have hge : ¬ (k : Int) < (p.acts.length : Int) := by omega
      obtain rfl : k = p.acts.length := by omega
      go_wp2
      go_ret
      first
        | exact ⟨_, rfl, F, by rw [HR.out]; exact (S3.out.own 0 rfl).1, (S3.out.own 0 rfl).2, S3.out.1⟩
        | exact ⟨_, by rw [HR.out]; exact (S3.out.own 0 rfl).1, (S3.out.own 0 rfl).2, S3.out.1⟩
        | exact ⟨_, _, rfl, by rw [HR.out]; exact (S3.out.own 0 rfl).1, (S3.out.own 0 rfl).2, S3.out.1⟩

set_option maxRecDepth 100000 in
set_option maxHeartbeats 8000000 in
theorem specRunningAt_any (p : Pj) (s : Sc) (t : Int) (v u : Value) (w : World) (hv : (trPj p).rd w v) (hk : (trPj p).ok) (hs : (trSc s).rd w u) :
    Calls Try.prog 20 #[v, u, .int .i64 t] w fun e w' => ∃ u F, e = .returned u ∧ (trI (runL p s t)).own w' w.heap.size u F ∧ F.Nodup ∧ Below w.heap.size w w' := by
  have HK := Lib.hid hk
  clear hk
  have HV := Lib.hid hv
  obtain ⟨A1, c1, A2, c2, A3, c3, A4, c4, rfl, _⟩ := rdProject_t hv
  clear hv
  have HQ := Lib.hid hs
  obtain ⟨E1, f1, E2, f2, rfl, q1, q2⟩ := rdSchedule_t hs
  obtain ⟨ht1, B8, d8, he, x1⟩ := rdI (rd_flat q1)
  injection he with he _ he2
  subst he he2
  have X1 := Lib.hid x1
  obtain ⟨ht2, B9, d9, he, x2⟩ := rdI (rd_flat q2)
  injection he with he _ he2
  subst he he2
  have X2 := Lib.hid x2
  clear hs q1 q2 x1 x2
  have S0 := Lib.hid (((Sn.start w).box 37 [.int .i64 p.dl, .slice A1 p.acts.length c1, .slice A2 p.lks.length c2, .slice A3 p.ress.length c3, .slice A4 p.stk.length c4]).box 39 [.slice E1 s.st.length f1, .slice E2 s.mo.length f2])
  simp only [World.size_alloc] at S0
  go_enter Try.func20, Try.ntmps20
  have S0' := Lib.hid S0.out.emptyI
  simp only [World.size_alloc] at S0'
  clear S0
  obtain ⟨e0, e1, e2, e3, e4, ef⟩ := (S0'.out.bk 2 rfl).c5
  obtain ⟨q0, q1, qf⟩ := (S0'.out.bk 1 rfl).c2
  go_wp2_with fail
  clear e0 e1 e2 e3 e4 ef
  clear q0 q1 qf
  refine (specForm_any p s _ _ _ (by exact S0'.out.old HV.out) HK.out (by exact S0'.out.old HQ.out)).mono ?_
  rintro e w1 ⟨rfl, b⟩
  have S1 := Lib.hid (S0'.out.go b)
  clear S0' b
  rcases hok : formB p s with _ | _
  · have HS := Lib.hid (runL_bad (t := t) hok)
    clear hok
    go_wp2
    go_ret
    have hnil : ∀ W : World, (trI (runL p s t)).own W w.heap.size (.slice none 0 0) [] := fun W => by rw [HS.out]; exact ⟨[], [], ⟨rfl, .inl ⟨rfl, rfl⟩⟩, ⟨rfl, rfl⟩, rfl⟩
    first
      | exact ⟨[], hnil _, List.nodup_nil, S1.out.1⟩
      | exact ⟨.slice none 0 0, [], rfl, hnil _, List.nodup_nil, S1.out.1⟩
      | exact ⟨.slice none 0 0, rfl, [], hnil _, List.nodup_nil, S1.out.1⟩
  have HR := Lib.hid (runL_yes (t := t) hok)
  have HF := Lib.hid (form_of hok)
  have h6 := HF.out.n6
  have H1 := Lib.hid HF.out.h1
  rw [H1.out] at HQ S1 ⊢
  obtain ⟨e0, e1, e2, e3, e4, ef⟩ := (S1.out.bk 2 rfl).c5
  have S2 := S1
  clear hok S1
  obtain ⟨i0, hi0, hz0, hz1, hz2⟩ := info_parts infoInt
  go_wp2
  clear e0 e1 e2 e3 e4 ef
  go_loopw [7, 17] (fun u i wr => ∃ (k : Nat) (F : List Nat), k ≤ p.acts.length ∧ i = .int .i64 k ∧ Sn w wr [⟨trI (runK p s t k), u, F⟩, boxI (w.heap.size + 1) 39 [.slice E1 p.acts.length f1, .slice E2 s.mo.length f2], boxI w.heap.size 37 [.int .i64 p.dl, .slice A1 p.acts.length c1, .slice A2 p.lks.length c2, .slice A3 p.ress.length c3, .slice A4 p.stk.length c4]]) (fun _ i _ => p.acts.length - (intOf i).toNat)
  case atStart => exact ⟨0, _, Nat.zero_le _, rfl, S2.out⟩
  case round =>
    obtain ⟨k, F, hkl, rfl, hS⟩ := hrel
    have S3 := Lib.hid hS
    clear hS S2
    obtain ⟨U, cu, rfl⟩ := slice_ints (S3.out.rd 0 rfl)
    by_cases hlt : k < p.acts.length
    · have hlt' : (k : Int) < (p.acts.length : Int) := by omega
      have k0 : (0 : Int) ≤ (k : Int) := by omega
      obtain ⟨b8, o8, rfl, hb8, hc8⟩ := X1.out k (by rw [H1.out]; exact hlt)
      have y8 := (S3.out.1.cell (p := ⟨b8, o8 + k, none⟩) hb8).trans (hc8 k (by rw [H1.out]; exact hlt))
      rw [← stA_at] at y8
      have RI := Lib.hid (fun h1 h2 => runK_yes (runA_in (p := p) (s := s) (t := t) (a := k) h1 h2))
      have RL := Lib.hid (fun h1 => runK_no (runA_lo (p := p) (s := s) (t := t) (a := k) h1))
      have RH := Lib.hid (fun h1 => runK_no (runA_hi (p := p) (s := s) (t := t) (a := k) h1))
      have hlen := runK_len p s t k
      generalize runK p s t k = us at S3 hlen RI RL RH ⊢
      generalize stA s k = st at y8 RI RL
      clear hc8
      obtain ⟨e0, e1, e2, e3, e4, ef⟩ := (S3.out.bk 2 rfl).c5
      obtain ⟨q0, q1, qf⟩ := (S3.out.bk 1 rfl).c2
      by_cases ht1 : st ≤ t
      rotate_left
      · have HT := Lib.hid (RL.out ht1)
        clear RI RL RH
        go_wp2
        go_roundw
        case rel => exact ⟨k + 1, _, by omega, by go_num, by rw [HT.out]; exact S3.out⟩
        case measure => simp [intOf]; omega
      go_wp2_with fail
      clear e0 e1 e2 e3 e4 ef
      clear q0 q1 qf
      clear y8
      refine (specEnd_any p s k _ _ _ (by exact S3.out.old HV.out) (by exact S3.out.old HQ.out) HF.out hlt).mono ?_
      rintro e w2 ⟨rfl, b⟩
      have S4 := Lib.hid (S3.out.go b)
      clear S3 b
      generalize endA p s k = en at RI RH ⊢
      by_cases ht2 : t < en
      rotate_left
      · have HT := Lib.hid (RH.out (by omega))
        clear RI RL RH
        go_wp2
        go_roundw
        case rel => exact ⟨k + 1, _, by omega, by go_num, by rw [HT.out]; exact S4.out⟩
        case measure => simp [intOf]; omega
      have HT := Lib.hid (RI.out ht1 ht2)
      clear RI RL RH
      have OW := Lib.hid S4.out.ownRI
      have hz := S4.out.1.size
      go_wp2_with (first | (at_builtin; refine wpList_append_own_at _ rfl (.tmp 35) (.tmp 37) 25 rfl w.heap.size 3 i0 (.int .i64 0) 1 8 Try.underlying25 hi0 hz0 hz1 hz2 rfl (by decide) (.slice U us.length cu) us.length ((us.map (.int .i64))) rfl (by exact OW.out.alloc _) ⟨w2.heap.size, 0, none⟩ 1 1 [.int .i64 (k : Int)] rfl rfl ?c1 ?c2 ?c3 ?c4 ?c5 ?_) | fail)
      try case c1 => exact one_cell _ _ _
      case c2 => simp [Value.oneCell']
      case c3 => unfold maxLen; omega
      case c4 => omega
      case c5 => first | omega | (simp; omega)
      intro v' w8 hown8 hg8 _ hat8
      obtain ⟨F9, h9⟩ := S4.out.appI2 hown8 hg8 (by simpa using hat8)
      have S9 := Lib.hid h9
      clear hown8 hg8 hat8 h9 OW S4
      go_wp2
      go_roundw
      case rel => exact ⟨k + 1, _, by omega, by go_num, by rw [HT.out]; exact S9.out⟩
      case measure => simp [intOf]; omega
    · have hge : ¬ (k : Int) < (p.acts.length : Int) := by omega
      obtain rfl : k = p.acts.length := by omega
      go_wp2
      go_ret
      first
        | exact ⟨_, rfl, F, by rw [HR.out]; exact (S3.out.own 0 rfl).1, (S3.out.own 0 rfl).2, S3.out.1⟩
        | exact ⟨_, by rw [HR.out]; exact (S3.out.own 0 rfl).1, (S3.out.own 0 rfl).2, S3.out.1⟩
        | exact ⟨_, _, rfl, by rw [HR.out]; exact (S3.out.own 0 rfl).1, (S3.out.own 0 rfl).2, S3.out.1⟩
end Go.Proofs.Ytcoheknnkdmdiaa
