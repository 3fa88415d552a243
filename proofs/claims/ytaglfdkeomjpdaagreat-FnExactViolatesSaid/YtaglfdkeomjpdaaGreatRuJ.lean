/- DERIVED. CONTRACTS of chapter 11, of the model: Violates, ViolatedRules, ScheduleOk. -/
import Derived.Test.YtaglfdkeomjpdaaGreatRuK
import Derived.Test.YtaglfdkeomjpdaaGreatRuR
namespace Go.Proofs.YtaglfdkeomjpdaaGreat
open Go.RowKit Go.Shelf
set_option linter.unusedVariables false

theorem fails_ru (r : Ru) (c : Cd) (h : c.ru = r) (p : Pj) (s : Sc) (v u : Value) (w : World) (hv : (trPj p).rd w v) (hk : (trPj p).ok) (hs : (trSc s).rd w u) (hf : formB p s = true) (ht : thereC p c = true) :
    Calls Tryz.prog 44 #[v, u, ruV r] w fun e w' => e = .returned (.bool (failC p s c)) ∧ Below w.heap.size w w' := by
  subst h
  exact fails_any c p s v u w hv hk hs hf ht

set_option maxRecDepth 100000 in
set_option maxHeartbeats 8000000 in
theorem specViolates_any (p : Pj) (s : Sc) (r : Ru) (v u : Value) (w : World) (hv : (trPj p).rd w v) (hk : (trPj p).ok) (hs : (trSc s).rd w u) :
    Calls Tryz.prog 14 #[v, u, ruV r] w fun e w' => e = .returned (.bool (violB p s r)) ∧ Below w.heap.size w w' := by
  have HK := Lib.hid hk
  obtain ⟨ki, a, b, c⟩ := r
  have HV := Lib.hid hv
  obtain ⟨A1, c1, A2, c2, A3, c3, A4, c4, rfl, _⟩ := rdProject_t hv
  have HQ := Lib.hid hs
  obtain ⟨E1, f1, E2, f2, rfl, _⟩ := rdSchedule_t hs
  clear hv hs hk
  have S0 := Lib.hid ((((Sn.start w).box 36 [.int .i64 p.dl, .slice A1 p.acts.length c1, .slice A2 p.lks.length c2, .slice A3 p.ress.length c3, .slice A4 p.stk.length c4]).box 46 [.slice E1 s.st.length f1, .slice E2 s.mo.length f2]).box 38 [.int .i64 ki, .int .i64 a, .int .i64 b, .int .i64 c])
  simp only [World.size_alloc] at S0
  unfold ruV
  generalize hres : violB p s ⟨ki, a, b, c⟩ = res
  have RES := Lib.hid hres
  clear hres
  go_enter Tryz.func14, Tryz.ntmps14
  go_wp2_with fail
  refine (specForm_any p s _ _ _ (by exact S0.out.old HV.out) HK.out (by exact S0.out.old HQ.out)).mono ?_
  rintro e w1 ⟨rfl, b⟩
  have S1 := Lib.hid (S0.out.go b)
  clear S0 b
  rcases hf : formB p s with _ | _
  · have HN := Lib.hid (viol_form (r := ⟨ki, a, b, c⟩) hf)
    clear hf
    go_wp2
    go_ret
    exact ⟨ret_bZ (by rw [← RES.out, HN.out]), S1.out.1⟩
  have HF := Lib.hid hf
  clear hf
  obtain ⟨e0, e1, e2, e3, e4, ef⟩ := (S1.out.bk 2 rfl).c5
  obtain ⟨q0, q1, q2, q3, qf⟩ := (S1.out.bk 0 rfl).c4
  go_wp2_with fail
  clear e0 e1 e2 e3 e4 ef
  clear q0 q1 q2 q3 qf
  refine (specRuleOk_any p ⟨ki, a, b, c⟩ _ _ (by exact S1.out.old HV.out) HK.out).mono ?_
  rintro e w2 ⟨rfl, b⟩
  have S2 := Lib.hid (S1.out.go b)
  clear S1 b
  rcases hok : ruOkB p ⟨ki, a, b, c⟩ with _ | _
  · have HN := Lib.hid (viol_not (s := s) hok)
    clear hok
    go_wp2
    go_ret
    exact ⟨ret_bZ (by rw [← RES.out, HN.out]), S2.out.1⟩
  obtain ⟨x, hc, ht, hv⟩ := viol_ok HF.out hok
  have HC := Lib.hid (cond_some hc)
  have HT := Lib.hid ht
  have HN := Lib.hid hv
  clear hok hc ht hv
  obtain ⟨e0, e1, e2, e3, e4, ef⟩ := (S2.out.bk 2 rfl).c5
  obtain ⟨q0, q1, qf⟩ := (S2.out.bk 1 rfl).c2
  obtain ⟨t0, t1, t2, t3, tf⟩ := (S2.out.bk 0 rfl).c4
  go_wp2_with fail
  clear e0 e1 e2 e3 e4 ef
  clear q0 q1 qf
  clear t0 t1 t2 t3 tf
  refine (fails_ru ⟨ki, a, b, c⟩ x HC.out p s _ _ _ (by exact S2.out.old HV.out) HK.out (by exact S2.out.old HQ.out) HF.out HT.out).mono ?_
  rintro e w3 ⟨rfl, b⟩
  have S3 := Lib.hid (S2.out.go b)
  clear S2 b
  go_wp2
  go_ret
  exact ⟨ret_bZ (by rw [← RES.out, HN.out]), S3.out.1⟩

set_option maxRecDepth 100000 in
set_option maxHeartbeats 8000000 in
theorem specViolated_any (p : Pj) (s : Sc) (v u : Value) (w : World) (hv : (trPj p).rd w v) (hk : (trPj p).ok) (hs : (trSc s).rd w u) :
    Calls Tryz.prog 18 #[v, u] w fun e w' => ∃ u F, e = .returned u ∧ (trRus (violsB p s)).own w' w.heap.size u F ∧ F.Nodup ∧ Below w.heap.size w w' := by
  have HK := Lib.hid hk
  clear hk
  have HV0 := Lib.hid (@viols_bad p s)
  have HV1 := Lib.hid (@viols_yes p s)
  generalize violsB p s = res at HV0 HV1 ⊢
  obtain ⟨i0, hi0, hz0, hz1, hz2⟩ := info_parts infoRule_t
  have HV := Lib.hid hv
  obtain ⟨A1, c1, A2, c2, A3, c3, A4, c4, rfl, _⟩ := rdProject_t hv
  have HQ := Lib.hid hs
  obtain ⟨E1, f1, E2, f2, rfl, _⟩ := rdSchedule_t hs
  clear hv hs
  have S0 := Lib.hid (((Sn.start w).box 36 [.int .i64 p.dl, .slice A1 p.acts.length c1, .slice A2 p.lks.length c2, .slice A3 p.ress.length c3, .slice A4 p.stk.length c4]).box 46 [.slice E1 s.st.length f1, .slice E2 s.mo.length f2]).emptyRu
  simp only [World.size_alloc] at S0
  go_enter Tryz.func18, Tryz.ntmps18
  go_wp2_with fail
  refine (specForm_any p s _ _ _ (by exact S0.out.old HV.out) HK.out (by exact S0.out.old HQ.out)).mono ?_
  rintro e w1 ⟨rfl, b⟩
  have S1 := Lib.hid (S0.out.go b)
  clear S0 b
  rcases hf : formB p s with _ | _
  · have HN := Lib.hid (show trRus res = rowR [] from by rw [HV0.out hf, rowR_tr]; rfl)
    have S2 := Lib.hid S1.out.nilRu
    clear hf
    go_wp2
    go_ret
    first
      | exact ⟨_, rfl, _, by rw [HN.out]; exact (S2.out.own 0 rfl).1, (S2.out.own 0 rfl).2, S2.out.1⟩
      | exact ⟨_, by rw [HN.out]; exact (S2.out.own 0 rfl).1, (S2.out.own 0 rfl).2, S2.out.1⟩
      | exact ⟨_, _, rfl, by rw [HN.out]; exact (S2.out.own 0 rfl).1, (S2.out.own 0 rfl).2, S2.out.1⟩
  have HF := Lib.hid hf
  have HP := Lib.hid (form_of hf).ok
  have HN := Lib.hid (show trRus res = rowR (violL p s (listC p)) from by rw [HV1.out hf, rowR_tr])
  clear hf HV0 HV1
  obtain ⟨e0, e1, e2, e3, e4, ef⟩ := (S1.out.bk 2 rfl).c5
  go_wp2_with fail
  clear e0 e1 e2 e3 e4 ef
  refine (rules_any p _ _ (by exact S1.out.old HV.out) HP.out).mono ?_
  rintro e w2 ⟨u2, F2, rfl, o, h, bb⟩
  have S2 := Lib.hid ((S1.out.new o h bb).pick 1 rfl)
  have HLL := Lib.hid (listC_len HP.out)
  have HT := Lib.hid (fun c hc => @mem_listC p c hc)
  generalize listC p = l at S2 HN HLL HT
  have hll : l.length ≤ 400 := HLL.out
  have hrr := S2.out.rd 1 rfl
  rw [rowR_tr] at hrr
  obtain ⟨hlm, U, cu, rfl, _⟩ := rdRuleS_t hrr
  rw [List.length_map] at S2 ⊢
  clear o h bb S1 hlm hrr
  go_wp2
  go_loopw [5, 16] (fun q i wr => ∃ (k : Nat) (F : List Nat), k ≤ l.length ∧ i = .int .i64 k ∧ Sn w wr [⟨rowR (violL p s (l.take k)), q, F⟩, ⟨rowR l, .slice U l.length cu, F2⟩, boxI (w.heap.size + 1) 46 [.slice E1 s.st.length f1, .slice E2 s.mo.length f2], boxI w.heap.size 36 [.int .i64 p.dl, .slice A1 p.acts.length c1, .slice A2 p.lks.length c2, .slice A3 p.ress.length c3, .slice A4 p.stk.length c4]]) (fun _ i _ => l.length - (intOf i).toNat)
  case atStart => exact ⟨0, _, Nat.zero_le _, rfl, by simpa [violL] using S2.out⟩
  case round =>
    obtain ⟨k, F, hkl, rfl, hS⟩ := hrel
    have S3 := Lib.hid hS
    clear hS S2
    by_cases hlt : k < l.length
    · have hlt' : (k : Int) < (l.length : Int) := by omega
      have hrr := S3.out.rd 1 rfl
      rw [rowR_tr] at hrr
      obtain ⟨_, U', cu', he, gg⟩ := rdRuleS_t hrr
      injection he with he hln he2
      clear hln
      subst he he2
      obtain ⟨b8, o8, rfl, hb8, hc8⟩ := gg k (by rw [List.length_map]; exact hlt)
      obtain ⟨y0, y1, y2, y3⟩ := hc8 k (by rw [List.length_map]; exact hlt)
      rw [List.getElem_map] at y0 y1 y2 y3
      have VY := Lib.hid (violL_yes (p := p) (s := s) hlt)
      have VN := Lib.hid (violL_no (p := p) (s := s) hlt)
      have TH := Lib.hid (HT.out _ (List.getElem_mem hlt))
      have hlen : (violL p s (l.take k)).length ≤ 400 := Nat.le_trans (violL_len _ _ _) (by rw [List.length_take]; omega)
      generalize l[k] = c at y0 y1 y2 y3 VY VN TH
      generalize violL p s (l.take k) = vs at S3 VY VN hlen
      clear hc8 gg hrr
      obtain ⟨e0, e1, e2, e3, e4, ef⟩ := (S3.out.bk 3 rfl).c5
      obtain ⟨q0, q1, qf⟩ := (S3.out.bk 2 rfl).c2
      have hl3 := (S3.out.bk 3 rfl).lt
      have hl2 := (S3.out.bk 2 rfl).lt
      have S4 := Lib.hid (S3.out.box 38 [.int .i64 c.ru.ki, .int .i64 c.ru.a, .int .i64 c.ru.b, .int .i64 c.ru.c])
      go_wp2_with fail
      clear e0 e1 e2 e3 e4 ef
      clear q0 q1 qf
      clear y0 y1 y2 y3 S3 hl2 hl3
      refine (fails_any c p s _ _ _ (by exact S4.out.old HV.out) HK.out (by exact S4.out.old HQ.out) HF.out TH.out).mono ?_
      rintro e w3 ⟨rfl, b⟩
      have S5 := Lib.hid (S4.out.go b)
      clear S4 b
      generalize failC p s c = fc at VY VN ⊢
      rcases fc with _ | _
      · have A2 := Lib.hid (VN.out rfl)
        have S6 := Lib.hid (S5.out.drop 0)
        clear VN VY
        go_wp2
        go_roundw
        case rel => exact ⟨k + 1, _, by omega, by go_num, by rw [A2.out]; exact S6.out⟩
        case measure => simp [intOf]; omega
      · have A2 := Lib.hid (VY.out rfl)
        clear VN VY
        obtain ⟨t0, t1, t2, t3, tf⟩ := (S5.out.bk 0 rfl).c4
        have S6 := Lib.hid (S5.out.pick 1 rfl)
        have OW := Lib.hid S6.out.ownR
        have hz := S6.out.1.size
        clear S5
        go_wp2_with (first | (at_builtin; refine wpList_append_own_at _ rfl (.tmp 24) (.tmp 26) 50 rfl w.heap.size 38 i0 (.agg #[.int .i64 0, .int .i64 0, .int .i64 0, .int .i64 0]) 4 32 Tryz.underlying50 hi0 hz0 hz1 hz2 rfl (by decide) _ vs.length (cells4 (vs.map Cd.ru)) rfl (by exact OW.out.alloc _) ⟨w3.heap.size, 0, none⟩ 1 1 [.int .i64 c.ru.ki, .int .i64 c.ru.a, .int .i64 c.ru.b, .int .i64 c.ru.c] rfl rfl ?c1 ?c2 ?c3 ?c4 ?c5 ?_) | fail)
        try case c1 => exact four_cells _ _ _ _ _ _
        case c2 => simp [Value.oneCell']
        case c3 => unfold maxLen; omega
        case c4 => omega
        case c5 => first | omega | (simp; omega)
        intro v' w8 hown8 hg8 _ hat8
        obtain ⟨F9, h9⟩ := S6.out.appR c ((Below.refl _ _).alloc (Nat.le_refl _) _) hown8 rfl hg8 (by simpa using hat8)
        have S9 := Lib.hid (h9.drop 1)
        clear t0 t1 t2 t3 tf
        clear hown8 hg8 hat8 h9 OW S6
        go_wp2
        go_roundw
        case rel => exact ⟨k + 1, F9, by omega, by go_num, by rw [A2.out]; exact S9.out⟩
        case measure => simp [intOf]; omega
    · have hge : ¬ (k : Int) < (l.length : Int) := by omega
      obtain rfl : k = l.length := by omega
      rw [List.take_length] at S3
      go_wp2
      go_ret
      first
        | exact ⟨_, rfl, _, by rw [HN.out]; exact (S3.out.own 0 rfl).1, (S3.out.own 0 rfl).2, S3.out.1⟩
        | exact ⟨_, by rw [HN.out]; exact (S3.out.own 0 rfl).1, (S3.out.own 0 rfl).2, S3.out.1⟩
        | exact ⟨_, _, rfl, by rw [HN.out]; exact (S3.out.own 0 rfl).1, (S3.out.own 0 rfl).2, S3.out.1⟩

set_option maxRecDepth 100000 in
set_option maxHeartbeats 8000000 in
theorem specSchedOk_any (p : Pj) (s : Sc) (v u : Value) (w : World) (hv : (trPj p).rd w v) (hk : (trPj p).ok) (hs : (trSc s).rd w u) :
    Calls Tryz.prog 25 #[v, u] w fun e w' => e = .returned (.bool (schedB p s)) ∧ Below w.heap.size w w' := by
  have HK := Lib.hid hk
  clear hk
  have HD := Lib.hid (show schedB p s = (formB p s && decide ((violsB p s).length = 0)) from rfl)
  generalize schedB p s = res at HD ⊢
  have HV := Lib.hid hv
  obtain ⟨A1, c1, A2, c2, A3, c3, A4, c4, rfl, _⟩ := rdProject_t hv
  have HQ := Lib.hid hs
  obtain ⟨E1, f1, E2, f2, rfl, _⟩ := rdSchedule_t hs
  clear hv hs
  have S0 := Lib.hid (((Sn.start w).box 36 [.int .i64 p.dl, .slice A1 p.acts.length c1, .slice A2 p.lks.length c2, .slice A3 p.ress.length c3, .slice A4 p.stk.length c4]).box 46 [.slice E1 s.st.length f1, .slice E2 s.mo.length f2])
  simp only [World.size_alloc] at S0
  go_enter Tryz.func25, Tryz.ntmps25
  go_wp2_with fail
  refine (specForm_any p s _ _ _ (by exact S0.out.old HV.out) HK.out (by exact S0.out.old HQ.out)).mono ?_
  rintro e w1 ⟨rfl, b⟩
  have S1 := Lib.hid (S0.out.go b)
  clear S0 b
  generalize formB p s = x at HD ⊢
  rcases x with _ | _
  · go_wp2
    go_ret
    exact ⟨ret_bZ (by rw [HD.out]; rfl), S1.out.1⟩
  obtain ⟨e0, e1, e2, e3, e4, ef⟩ := (S1.out.bk 1 rfl).c5
  obtain ⟨q0, q1, qf⟩ := (S1.out.bk 0 rfl).c2
  go_wp2_with fail
  clear e0 e1 e2 e3 e4 ef
  clear q0 q1 qf
  refine (specViolated_any p s _ _ _ (by exact S1.out.old HV.out) HK.out (by exact S1.out.old HQ.out)).mono ?_
  rintro e w2 ⟨u2, F2, rfl, o, h, bb⟩
  have S2 := Lib.hid (S1.out.new o h bb)
  obtain ⟨U, cu, rfl⟩ := rows_slice (S2.out.rd 0 rfl)
  clear o h bb S1
  by_cases hz : (violsB p s).length = 0
  · have HZ := Lib.hid (decide_eq_true hz)
    rw [hz]
    clear hz
    go_wp2
    go_ret
    exact ⟨ret_bZ (by rw [HD.out, HZ.out]; rfl), S2.out.1⟩
  · have HZ := Lib.hid (decide_eq_false hz)
    have tz : (((violsB p s).length : Int) == 0) = false := by simpa using hz
    clear hz
    generalize (violsB p s).length = n at HZ HD tz ⊢
    go_wp2
    go_ret
    exact ⟨ret_bZ (by rw [HD.out, HZ.out]; rfl), S2.out.1⟩
theorem viols_sz (p : Pj) (s : Sc) : (trRus (violsB p s)).sz ≤ 400 := by
  have h : (trRus (violsB p s)).sz = (violsB p s).length + szL ((violsB p s).flatMap cellsRu) := rfl
  rw [h, szL_Rule0]
  exact viols_len p s
end Go.Proofs.YtaglfdkeomjpdaaGreat
