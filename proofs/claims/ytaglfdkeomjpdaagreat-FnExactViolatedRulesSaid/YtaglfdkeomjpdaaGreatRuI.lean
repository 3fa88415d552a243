/- DERIVED. CONTRACTS of chapter 11: ViolatedRules and ScheduleOk of the program. -/
import Derived.Test.YtaglfdkeomjpdaaGreatRuL
import Derived.Test.YtaglfdkeomjpdaaGreatRuB
namespace Go.Proofs.YtaglfdkeomjpdaaGreat
open Go.RowKit Go.Shelf
set_option linter.unusedVariables false

theorem metAll_no {p : Pj} {s : Sc} {l : List Cd} {k : Nat} (hk : k < l.length) (h : failC p s l[k] = true) : l.all (fun c => !failC p s c) = false := by
  rw [List.all_eq_false]
  exact ⟨l[k], List.getElem_mem hk, by simp [h]⟩
theorem metAll_yes {p : Pj} {s : Sc} {l : List Cd} (h : ∀ j, (hj : j < l.length) → failC p s l[j] = false) : l.all (fun c => !failC p s c) = true := by
  rw [List.all_eq_true]
  intro c hc
  obtain ⟨j, hj, rfl⟩ := List.getElem_of_mem hc
  simp [h j hj]
theorem sched_all {p : Pj} {s : Sc} (h : formB p s = true) : schedB p s = (listC p).all (fun c => !failC p s c) := by
  rcases ha : (listC p).all (fun c => !failC p s c) with _ | _
  · rw [List.all_eq_false] at ha
    obtain ⟨c, hc, hf⟩ := ha
    exact sched_no h hc (by simpa using hf)
  · rw [List.all_eq_true] at ha
    exact sched_yes h fun c hc => by simpa using ha c hc

set_option maxRecDepth 100000 in
set_option maxHeartbeats 8000000 in
theorem areMet_any (l : List Cd) (p : Pj) (s : Sc) (x v u : Value) (w : World) (hx : Rd w x (l.map Cd.val)) (hv : (trPj p).rd w v) (hk : (trPj p).ok) (hs : (trSc s).rd w u) (hf : formB p s = true) (ht : ∀ c ∈ l, thereC p c = true) :
    Calls Tryz.prog 55 #[x, v, u] w fun e w' => e = .returned (.bool (l.all (fun c => !failC p s c))) ∧ Below w.heap.size w w' := by
  have HK := Lib.hid hk
  clear hk
  obtain ⟨hl, X, cx, rfl, _⟩ := id hx
  rw [List.length_map] at hl hx ⊢
  unfold maxLen at hl
  have HX := Lib.hid hx
  have HF := Lib.hid hf
  have HT := Lib.hid ht
  have MN := Lib.hid (fun k => @metAll_no p s l k)
  have MY := Lib.hid (@metAll_yes p s l)
  generalize l.all (fun c => !failC p s c) = res at MN MY ⊢
  clear hx hf ht
  have HV := Lib.hid hv
  obtain ⟨A1, c1, A2, c2, A3, c3, A4, c4, rfl, _⟩ := rdProject_t hv
  have HQ := Lib.hid hs
  obtain ⟨E1, f1, E2, f2, rfl, _⟩ := rdSchedule_t hs
  clear hv hs
  have S0 := Lib.hid (((Sn.start w).box 36 [.int .i64 p.dl, .slice A1 p.acts.length c1, .slice A2 p.lks.length c2, .slice A3 p.ress.length c3, .slice A4 p.stk.length c4]).box 46 [.slice E1 s.st.length f1, .slice E2 s.mo.length f2])
  simp only [World.size_alloc] at S0
  go_enter Tryz.func55, Tryz.ntmps55
  go_wp2
  go_loopw [11] (fun i wr => ∃ (k : Nat), k ≤ l.length ∧ i = .int .i64 k ∧ Hid (∀ j, (hj : j < l.length) → j < k → failC p s l[j] = false) ∧ Sn w wr [boxI (w.heap.size + 1) 46 [.slice E1 s.st.length f1, .slice E2 s.mo.length f2], boxI w.heap.size 36 [.int .i64 p.dl, .slice A1 p.acts.length c1, .slice A2 p.lks.length c2, .slice A3 p.ress.length c3, .slice A4 p.stk.length c4]]) (fun i _ => l.length - (intOf i).toNat)
  case atStart => exact ⟨0, Nat.zero_le _, rfl, Lib.hid (fun j _ h => by omega), S0.out⟩
  case round =>
    obtain ⟨k, hkl, rfl, hall, hS⟩ := hrel
    have S1 := Lib.hid hS
    clear hS S0
    by_cases hlt : k < l.length
    · have hlt' : (k : Int) < (l.length : Int) := by omega
      obtain ⟨b8, o8, rfl, hb8, hc8⟩ := (rdV HX.out).2 k hlt
      have y8 := (S1.out.1.cell (p := ⟨b8, o8 + k, none⟩) hb8).trans (hc8 k hlt)
      have M1 := Lib.hid (MN.out k hlt)
      have TH := Lib.hid (HT.out _ (List.getElem_mem hlt))
      have AN := Lib.hid (fun (h : failC p s l[k] = false) => show ∀ j, (hj : j < l.length) → j < k + 1 → failC p s l[j] = false from fun j hj hjk => by
        by_cases e : j = k
        · subst e; exact h
        · exact hall.out j hj (by omega))
      generalize l[k] = c at y8 M1 TH AN
      have y9 : wr.cell? ⟨b8, o8 + k, none⟩ = some (.iface c.ty (.agg ⟨c.cs⟩)) := y8
      clear hc8 y8 hall MN
      have hm := metF_method c
      have hn := metF_enter c
      obtain ⟨e0, e1, e2, e3, e4, ef⟩ := (S1.out.bk 1 rfl).c5
      obtain ⟨q0, q1, qf⟩ := (S1.out.bk 0 rfl).c2
      go_wp2_with fail
      clear e0 e1 e2 e3 e4 ef
      clear q0 q1 qf
      clear hm hn y9
      refine (met_any c p s _ _ _ (by exact S1.out.old HV.out) HK.out (by exact S1.out.old HQ.out) HF.out TH.out).mono ?_
      rintro e w2 ⟨rfl, b⟩
      have S2 := Lib.hid (S1.out.go b)
      clear S1 b
      generalize failC p s c = fc at M1 AN ⊢
      rcases fc with _ | _
      · have A2 := Lib.hid (AN.out rfl)
        go_wp2
        go_roundw
        case rel => exact ⟨k + 1, by omega, by go_num, A2, S2.out⟩
        case measure => simp [intOf]; omega
      · have A2 := Lib.hid (M1.out rfl)
        go_wp2
        go_ret
        exact ⟨ret_bZ A2.out.symm, S2.out.1⟩
    · have hge : ¬ (k : Int) < (l.length : Int) := by omega
      obtain rfl : k = l.length := by omega
      have A2 := Lib.hid (MY.out fun j hj => hall.out j hj hj)
      go_wp2
      go_ret
      exact ⟨ret_bZ A2.out.symm, S1.out.1⟩

set_option maxRecDepth 100000 in
set_option maxHeartbeats 8000000 in
theorem implSchedOk_any (p : Pj) (s : Sc) (v u : Value) (w : World) (hv : (trPj p).rd w v) (hk : (trPj p).ok) (hs : (trSc s).rd w u) :
    Calls Tryz.prog 26 #[v, u] w fun e w' => e = .returned (.bool (schedB p s)) ∧ Below w.heap.size w w' := by
  have HK := Lib.hid hk
  clear hk
  generalize hres : schedB p s = res
  have RES := Lib.hid hres
  clear hres
  have HV := Lib.hid hv
  obtain ⟨A1, c1, A2, c2, A3, c3, A4, c4, rfl, _⟩ := rdProject_t hv
  have HQ := Lib.hid hs
  obtain ⟨E1, f1, E2, f2, rfl, _⟩ := rdSchedule_t hs
  clear hv hs
  have S0 := Lib.hid (((Sn.start w).box 36 [.int .i64 p.dl, .slice A1 p.acts.length c1, .slice A2 p.lks.length c2, .slice A3 p.ress.length c3, .slice A4 p.stk.length c4]).box 46 [.slice E1 s.st.length f1, .slice E2 s.mo.length f2])
  simp only [World.size_alloc] at S0
  go_enter Tryz.func26, Tryz.ntmps26
  go_wp2_with fail
  generalize World.alloc (World.alloc w _) _ = wv at S0 ⊢
  obtain ⟨p0, p1, p2, p3, p4, pf⟩ := (S0.out.bk 1 rfl).c5
  obtain ⟨q0, q1, qf⟩ := (S0.out.bk 0 rfl).c2
  have hl0 := (S0.out.bk 0 rfl).lt
  have hl1 := (S0.out.bk 1 rfl).lt
  have S1 := Lib.hid S0.out.drew1
  have CE := Lib.hid (fun (W : World) (h : Wr [] wv.drew W) => show Hid (Wr [] wv.drew W) ∧ W.cell? ⟨w.heap.size, 0, none⟩ = some (.int .i64 p.dl) ∧ W.cell? ⟨w.heap.size, 1, none⟩ = some (.slice A1 p.acts.length c1) ∧ W.cell? ⟨w.heap.size, 2, none⟩ = some (.slice A2 p.lks.length c2) ∧ W.cell? ⟨w.heap.size, 3, none⟩ = some (.slice A3 p.ress.length c3) ∧ W.cell? ⟨w.heap.size, 4, none⟩ = some (.slice A4 p.stk.length c4) ∧ W.cell? ⟨w.heap.size + 1, 0, none⟩ = some (.slice E1 s.st.length f1) ∧ W.cell? ⟨w.heap.size + 1, 1, none⟩ = some (.slice E2 s.mo.length f2) from ⟨Lib.hid h, (wr_cell h (p := ⟨w.heap.size, 0, none⟩) hl1 (by simp)).trans (by simpa using p0), (wr_cell h (p := ⟨w.heap.size, 1, none⟩) hl1 (by simp)).trans (by simpa using p1), (wr_cell h (p := ⟨w.heap.size, 2, none⟩) hl1 (by simp)).trans (by simpa using p2), (wr_cell h (p := ⟨w.heap.size, 3, none⟩) hl1 (by simp)).trans (by simpa using p3), (wr_cell h (p := ⟨w.heap.size, 4, none⟩) hl1 (by simp)).trans (by simpa using p4), (wr_cell h (p := ⟨w.heap.size + 1, 0, none⟩) hl0 (by simp)).trans (by simpa using q0), (wr_cell h (p := ⟨w.heap.size + 1, 1, none⟩) hl0 (by simp)).trans (by simpa using q1)⟩)
  have INIT := Lib.hid (CE.out _ (Wr.refl _ _))
  have KW := Lib.hid (fun (W2 W : World) (hb : Below W.heap.size W W2) (h : Hid (Wr [] wv.drew W) ∧ W.cell? ⟨w.heap.size, 0, none⟩ = some (.int .i64 p.dl) ∧ W.cell? ⟨w.heap.size, 1, none⟩ = some (.slice A1 p.acts.length c1) ∧ W.cell? ⟨w.heap.size, 2, none⟩ = some (.slice A2 p.lks.length c2) ∧ W.cell? ⟨w.heap.size, 3, none⟩ = some (.slice A3 p.ress.length c3) ∧ W.cell? ⟨w.heap.size, 4, none⟩ = some (.slice A4 p.stk.length c4) ∧ W.cell? ⟨w.heap.size + 1, 0, none⟩ = some (.slice E1 s.st.length f1) ∧ W.cell? ⟨w.heap.size + 1, 1, none⟩ = some (.slice E2 s.mo.length f2)) => CE.out W2 (h.1.out.trans (Wr.of_below hb (Nat.le_refl _))))
  clear p0 p1 p2 p3 p4 pf q0 q1 qf hl0 hl1
  refine wp_region_held_drew (S := fun W => Hid (Wr [] wv.drew W) ∧ W.cell? ⟨w.heap.size, 0, none⟩ = some (.int .i64 p.dl) ∧ W.cell? ⟨w.heap.size, 1, none⟩ = some (.slice A1 p.acts.length c1) ∧ W.cell? ⟨w.heap.size, 2, none⟩ = some (.slice A2 p.lks.length c2) ∧ W.cell? ⟨w.heap.size, 3, none⟩ = some (.slice A3 p.ress.length c3) ∧ W.cell? ⟨w.heap.size, 4, none⟩ = some (.slice A4 p.stk.length c4) ∧ W.cell? ⟨w.heap.size + 1, 0, none⟩ = some (.slice E1 s.st.length f1) ∧ W.cell? ⟨w.heap.size + 1, 1, none⟩ = some (.slice E2 s.mo.length f2)) (by kernel_rfl) INIT.out (fun hHeld => ?_)
  refine wpAnyH_take (i := 0) (v := ?_) rfl (by kernel_rfl) (by kernel_rfl) (by kernel_rfl) (fun _ _ _ h => h) (Or.inl ⟨by rfl, ?_⟩) (by assumption) ?_
  rotate_left
  · (intro W hSw; (try dsimp only at hSw); go_simp <;> with_reducible rfl)
  (try simp only [Act.put, List.getElem_toArray, List.getElem_cons_zero, List.setIfInBounds_toArray, List.set_cons_succ, List.set_cons_zero])
  refine wpAnyH_take (i := 1) (v := ?_) rfl (by kernel_rfl) (by kernel_rfl) (by kernel_rfl) (fun _ _ _ h => h) (Or.inl ⟨by rfl, ?_⟩) (by assumption) ?_
  rotate_left
  · (intro W hSw; (try dsimp only at hSw); go_simp <;> with_reducible rfl)
  (try simp only [Act.put, List.getElem_toArray, List.getElem_cons_succ, List.getElem_cons_zero, List.setIfInBounds_toArray, List.set_cons_succ, List.set_cons_zero])
  refine wpAnyH_ready (rs := [2]) (by kernel_rfl) (by simp) ?_
  refine AllReadyH.cons rfl (fun K hK => ?_) AllReadyH.nil
  go_simp
  go_at_call 46
  refine (implForm_any p s _ _ _ (by exact S1.out.old HV.out) HK.out (by exact S1.out.old HQ.out)).mono ?_
  rintro e w2 ⟨rfl, bb⟩
  have S2 := Lib.hid (S1.out.go bb)
  (first | done | go_wp2_with fail)
  refine hK.out _ _ (KW.out _ _ bb (by assumption)) (fun hHeld2 => ?_)
  clear hK K bb S1
  rcases hf : formB p s with _ | _
  · have HN := Lib.hid (sched_bad hf)
    clear hf
    refine wpAnyH_take (i := 3) (v := ?_) rfl (by kernel_rfl) (by kernel_rfl) (by kernel_rfl) (fun _ _ _ h => h) (Or.inl ⟨by rfl, ?_⟩) (by assumption) ?_
    rotate_left
    · (intro W hSw; (try dsimp only at hSw); go_simp <;> with_reducible rfl)
    (try simp only [Act.put, List.getElem_toArray, List.getElem_cons_succ, List.getElem_cons_zero, List.setIfInBounds_toArray, List.set_cons_succ, List.set_cons_zero])
    refine wpAnyH_take (i := 4) (v := undef) rfl (by kernel_rfl) (by kernel_rfl) (by kernel_rfl) (fun _ _ _ h => h) (Or.inr ⟨by rfl, rfl⟩) (by assumption) ?_
    (try simp only [Act.put, List.getElem_toArray, List.getElem_cons_succ, List.getElem_cons_zero, List.setIfInBounds_toArray, List.set_cons_succ, List.set_cons_zero])
    refine wpAnyH_take (i := 5) (v := undef) rfl (by kernel_rfl) (by kernel_rfl) (by kernel_rfl) (fun _ _ _ h => h) (Or.inr ⟨by rfl, rfl⟩) (by assumption) ?_
    (try simp only [Act.put, List.getElem_toArray, List.getElem_cons_succ, List.getElem_cons_zero, List.setIfInBounds_toArray, List.set_cons_succ, List.set_cons_zero])
    refine wpAnyH_take (i := 6) (v := undef) rfl (by kernel_rfl) (by kernel_rfl) (by kernel_rfl) (fun _ _ _ h => h) (Or.inr ⟨by rfl, rfl⟩) (by assumption) ?_
    (try simp only [Act.put, List.getElem_toArray, List.getElem_cons_succ, List.getElem_cons_zero, List.setIfInBounds_toArray, List.set_cons_succ, List.set_cons_zero])
    refine wpAnyH_take (i := 7) (v := undef) rfl (by kernel_rfl) (by kernel_rfl) (by kernel_rfl) (fun _ _ _ h => h) (Or.inr ⟨by rfl, rfl⟩) (by assumption) ?_
    (try simp only [Act.put, List.getElem_toArray, List.getElem_cons_succ, List.getElem_cons_zero, List.setIfInBounds_toArray, List.set_cons_succ, List.set_cons_zero])
    refine wpAnyH_take (i := 8) (v := undef) rfl (by kernel_rfl) (by kernel_rfl) (by kernel_rfl) (fun _ _ _ h => h) (Or.inr ⟨by rfl, rfl⟩) (by assumption) ?_
    (try simp only [Act.put, List.getElem_toArray, List.getElem_cons_succ, List.getElem_cons_zero, List.setIfInBounds_toArray, List.set_cons_succ, List.set_cons_zero])
    refine wpAnyH_take (i := 9) (v := ?_) rfl (by kernel_rfl) (by kernel_rfl) (by kernel_rfl) (fun _ _ _ h => h) (Or.inl ⟨by rfl, ?_⟩) (by assumption) ?_
    rotate_left
    · (intro W hSw; (try dsimp only at hSw); go_simp <;> with_reducible rfl)
    (try simp only [Act.put, List.getElem_toArray, List.getElem_cons_succ, List.getElem_cons_zero, List.setIfInBounds_toArray, List.set_cons_succ, List.set_cons_zero])
    refine wpAnyH_take (i := 10) (v := ?_) rfl (by kernel_rfl) (by kernel_rfl) (by kernel_rfl) (fun _ _ _ h => h) (Or.inl ⟨by rfl, ?_⟩) (by assumption) ?_
    rotate_left
    · (intro W hSw; (try dsimp only at hSw); go_simp <;> with_reducible rfl)
    (try simp only [Act.put, List.getElem_toArray, List.getElem_cons_succ, List.getElem_cons_zero, List.setIfInBounds_toArray, List.set_cons_succ, List.set_cons_zero])
    refine wpAnyH_done (by kernel_rfl) ?_ _
    clear hHeld hHeld2 CE INIT KW
    go_wp2
    go_ret
    exact ⟨by rw [← RES.out, HN.out]; rfl, S2.out.1⟩
  · have HN := Lib.hid (sched_all hf)
    have HF := Lib.hid hf
    have HP := Lib.hid (form_of hf).ok
    clear hf
    refine wpAnyH_take (i := 3) (v := ?_) rfl (by kernel_rfl) (by kernel_rfl) (by kernel_rfl) (fun _ _ _ h => h) (Or.inl ⟨by rfl, ?_⟩) (by assumption) ?_
    rotate_left
    · (intro W hSw; (try dsimp only at hSw); go_simp <;> with_reducible rfl)
    (try simp only [Act.put, List.getElem_toArray, List.getElem_cons_succ, List.getElem_cons_zero, List.setIfInBounds_toArray, List.set_cons_succ, List.set_cons_zero])
    refine wpAnyH_take (i := 4) (v := ?_) rfl (by kernel_rfl) (by kernel_rfl) (by kernel_rfl) (fun _ _ _ h => h) (Or.inl ⟨by rfl, ?_⟩) (by assumption) ?_
    rotate_left
    · (intro W hSw; (try dsimp only at hSw); go_simp <;> with_reducible rfl)
    (try simp only [Act.put, List.getElem_toArray, List.getElem_cons_succ, List.getElem_cons_zero, List.setIfInBounds_toArray, List.set_cons_succ, List.set_cons_zero])
    refine wpAnyH_take (i := 6) (v := ?_) rfl (by kernel_rfl) (by kernel_rfl) (by kernel_rfl) (fun _ _ _ h => h) (Or.inl ⟨by rfl, ?_⟩) (by assumption) ?_
    rotate_left
    · (intro W hSw; (try dsimp only at hSw); go_simp <;> with_reducible rfl)
    (try simp only [Act.put, List.getElem_toArray, List.getElem_cons_succ, List.getElem_cons_zero, List.setIfInBounds_toArray, List.set_cons_succ, List.set_cons_zero])
    refine wpAnyH_take (i := 7) (v := ?_) rfl (by kernel_rfl) (by kernel_rfl) (by kernel_rfl) (fun _ _ _ h => h) (Or.inl ⟨by rfl, ?_⟩) (by assumption) ?_
    rotate_left
    · (intro W hSw; (try dsimp only at hSw); go_simp <;> with_reducible rfl)
    (try simp only [Act.put, List.getElem_toArray, List.getElem_cons_succ, List.getElem_cons_zero, List.setIfInBounds_toArray, List.set_cons_succ, List.set_cons_zero])
    refine wpAnyH_ready (rs := [5]) (by kernel_rfl) (by simp) ?_
    refine AllReadyH.cons rfl (fun K hK => ?_) AllReadyH.nil
    go_simp
    go_at_call 48
    refine (listed_any p _ _ (by exact S2.out.old HV.out) HP.out).mono ?_
    rintro e w3 ⟨u3, F3, rfl, o, h, bb⟩
    have S3 := Lib.hid (S2.out.new o h bb)
    (first | done | go_wp2_with fail)
    refine hK.out _ _ (KW.out _ _ bb (by assumption)) (fun hHeld3 => ?_)
    clear hK K bb S2 o h
    refine wpAnyH_ready (rs := [8]) (by kernel_rfl) (by simp) ?_
    refine AllReadyH.cons rfl (fun K hK => ?_) AllReadyH.nil
    go_simp
    go_at_call 55
    refine (areMet_any (listC p) p s _ _ _ _ (rd_flat (by exact S3.out.rd 0 rfl)) (by exact S3.out.old HV.out) HK.out (by exact S3.out.old HQ.out) HF.out (fun c hc => mem_listC hc)).mono ?_
    rintro e w4 ⟨rfl, bb⟩
    have S4 := Lib.hid (S3.out.go bb)
    (first | done | go_wp2_with fail)
    refine hK.out _ _ (KW.out _ _ bb (by assumption)) (fun hHeld4 => ?_)
    clear hK K bb S3
    refine wpAnyH_take (i := 9) (v := ?_) rfl (by kernel_rfl) (by kernel_rfl) (by kernel_rfl) (fun _ _ _ h => h) (Or.inl ⟨by rfl, ?_⟩) (by assumption) ?_
    rotate_left
    · (intro W hSw; (try dsimp only at hSw); go_simp <;> with_reducible rfl)
    (try simp only [Act.put, List.getElem_toArray, List.getElem_cons_succ, List.getElem_cons_zero, List.setIfInBounds_toArray, List.set_cons_succ, List.set_cons_zero])
    refine wpAnyH_take (i := 10) (v := ?_) rfl (by kernel_rfl) (by kernel_rfl) (by kernel_rfl) (fun _ _ _ h => h) (Or.inl ⟨by rfl, ?_⟩) (by assumption) ?_
    rotate_left
    · (intro W hSw; (try dsimp only at hSw); go_simp <;> with_reducible rfl)
    (try simp only [Act.put, List.getElem_toArray, List.getElem_cons_succ, List.getElem_cons_zero, List.setIfInBounds_toArray, List.set_cons_succ, List.set_cons_zero])
    refine wpAnyH_done (by kernel_rfl) ?_ _
    clear hHeld hHeld2 hHeld3 hHeld4 CE INIT KW
    go_wp2
    go_ret
    exact ⟨by rw [← RES.out, HN.out]; rfl, S4.out.1⟩

set_option maxRecDepth 100000 in
set_option maxHeartbeats 8000000 in
theorem implViolated_any (p : Pj) (s : Sc) (v u : Value) (w : World) (hv : (trPj p).rd w v) (hk : (trPj p).ok) (hs : (trSc s).rd w u) :
    Calls Tryz.prog 19 #[v, u] w fun e w' => ∃ u F, e = .returned u ∧ (trRus (violsB p s)).own w' w.heap.size u F ∧ F.Nodup ∧ Below w.heap.size w w' := by
  have HK := Lib.hid hk
  clear hk
  have HV0 := Lib.hid (@viols_bad p s)
  have HV1 := Lib.hid (@viols_yes p s)
  generalize violsB p s = res at HV0 HV1 ⊢
  obtain ⟨i0, hi0, hz0, hz1, hz2⟩ := info_parts infoRule_t
  have HV := Lib.hid hv
  obtain ⟨A1, c1, A2, c2, A3, c3, A4, c4, rfl, _⟩ := rdProject_t hv
  have HQ := Lib.hid hs
  obtain ⟨E1, f1, E2, f2, rfl, _⟩ := rdSchedule_t hs
  clear hv hs
  have S0 := Lib.hid (((Sn.start w).box 36 [.int .i64 p.dl, .slice A1 p.acts.length c1, .slice A2 p.lks.length c2, .slice A3 p.ress.length c3, .slice A4 p.stk.length c4]).box 46 [.slice E1 s.st.length f1, .slice E2 s.mo.length f2])
  simp only [World.size_alloc] at S0
  go_enter Tryz.func19, Tryz.ntmps19
  go_wp2_with fail
  refine (implForm_any p s _ _ _ (by exact S0.out.old HV.out) HK.out (by exact S0.out.old HQ.out)).mono ?_
  rintro e w1 ⟨rfl, b⟩
  have S1 := Lib.hid (S0.out.go b)
  clear S0 b
  rcases hf : formB p s with _ | _
  · have HN := Lib.hid (show trRus res = rowR [] from by rw [HV0.out hf, rowR_tr]; rfl)
    have S2 := Lib.hid S1.out.nilRu
    clear hf
    go_wp2
    go_ret
    first
      | exact ⟨_, rfl, _, by rw [HN.out]; exact (S2.out.own 0 rfl).1, (S2.out.own 0 rfl).2, S2.out.1⟩
      | exact ⟨_, by rw [HN.out]; exact (S2.out.own 0 rfl).1, (S2.out.own 0 rfl).2, S2.out.1⟩
      | exact ⟨_, _, rfl, by rw [HN.out]; exact (S2.out.own 0 rfl).1, (S2.out.own 0 rfl).2, S2.out.1⟩
  have HF := Lib.hid hf
  have HP := Lib.hid (form_of hf).ok
  have HN := Lib.hid (show trRus res = rowR (violL p s (listC p)) from by rw [HV1.out hf, rowR_tr])
  clear hf HV0 HV1
  obtain ⟨e0, e1, e2, e3, e4, ef⟩ := (S1.out.bk 1 rfl).c5
  go_wp2_with fail
  clear e0 e1 e2 e3 e4 ef
  refine (listed_any p _ _ (by exact S1.out.old HV.out) HP.out).mono ?_
  rintro e w2 ⟨u2, F2, rfl, o, h, bb⟩
  have S2 := Lib.hid ((S1.out.new o h bb).nilRu)
  have HLL := Lib.hid (listC_len HP.out)
  have HT := Lib.hid (fun c hc => @mem_listC p c hc)
  generalize listC p = l at S2 HN HLL HT
  have hll : l.length ≤ 400 := HLL.out
  obtain ⟨hlm, U, cu, rfl, _⟩ := rd_flat (S2.out.rd 1 rfl)
  rw [List.length_map] at S2 ⊢
  clear o h bb S1 hlm
  go_wp2
  go_loopw [5, 15] (fun q i wr => ∃ (k : Nat) (F : List Nat), k ≤ l.length ∧ i = .int .i64 k ∧ Sn w wr [⟨rowR (violL p s (l.take k)), q, F⟩, ⟨rowC l, .slice U l.length cu, F2⟩, boxI (w.heap.size + 1) 46 [.slice E1 s.st.length f1, .slice E2 s.mo.length f2], boxI w.heap.size 36 [.int .i64 p.dl, .slice A1 p.acts.length c1, .slice A2 p.lks.length c2, .slice A3 p.ress.length c3, .slice A4 p.stk.length c4]]) (fun _ i _ => l.length - (intOf i).toNat)
  case atStart => exact ⟨0, _, Nat.zero_le _, rfl, by simpa [violL] using S2.out⟩
  case round =>
    obtain ⟨k, F, hkl, rfl, hS⟩ := hrel
    have S3 := Lib.hid hS
    clear hS S2
    by_cases hlt : k < l.length
    · have hlt' : (k : Int) < (l.length : Int) := by omega
      obtain ⟨b8, o8, rfl, hb8, hc8⟩ := (rdV (rd_flat (S3.out.rd 1 rfl))).2 k hlt
      have y8 := hc8 k hlt
      have VY := Lib.hid (violL_yes (p := p) (s := s) hlt)
      have VN := Lib.hid (violL_no (p := p) (s := s) hlt)
      have TH := Lib.hid (HT.out _ (List.getElem_mem hlt))
      have hlen : (violL p s (l.take k)).length ≤ 400 := Nat.le_trans (violL_len _ _ _) (by rw [List.length_take]; omega)
      generalize l[k] = c at y8 VY VN TH
      generalize violL p s (l.take k) = vs at S3 VY VN hlen
      have y9 : wr.cell? ⟨b8, o8 + k, none⟩ = some (.iface c.ty (.agg ⟨c.cs⟩)) := y8
      clear hc8 y8
      have hm := metF_method c
      have hn := metF_enter c
      obtain ⟨e0, e1, e2, e3, e4, ef⟩ := (S3.out.bk 3 rfl).c5
      obtain ⟨q0, q1, qf⟩ := (S3.out.bk 2 rfl).c2
      go_wp2_with fail
      clear e0 e1 e2 e3 e4 ef
      clear q0 q1 qf
      clear hm hn y9
      refine (met_any c p s _ _ _ (by exact S3.out.old HV.out) HK.out (by exact S3.out.old HQ.out) HF.out TH.out).mono ?_
      rintro e w3 ⟨rfl, b⟩
      have S4 := Lib.hid (S3.out.go b)
      clear S3 b
      generalize failC p s c = fc at VY VN ⊢
      rcases fc with _ | _
      · have A2 := Lib.hid (VN.out rfl)
        clear VN VY
        go_wp2
        go_roundw
        case rel => exact ⟨k + 1, _, by omega, by go_num, by rw [A2.out]; exact S4.out⟩
        case measure => simp [intOf]; omega
      · have A2 := Lib.hid (VY.out rfl)
        clear VN VY
        go_wp2_with fail
        refine (ruleOf_any c _).mono ?_
        rintro e w4 ⟨rfl, bb⟩
        have S5 := Lib.hid (S4.out.go bb)
        clear S4 bb
        unfold ruV
        have OW := Lib.hid S5.out.ownR
        have hz := S5.out.1.size
        go_wp2_with (first | (at_builtin; refine wpList_append_own_at _ rfl (.tmp 24) (.tmp 27) 50 rfl w.heap.size 38 i0 (.agg #[.int .i64 0, .int .i64 0, .int .i64 0, .int .i64 0]) 4 32 Tryz.underlying50 hi0 hz0 hz1 hz2 rfl (by decide) _ vs.length (cells4 (vs.map Cd.ru)) rfl (by exact OW.out.alloc _) ⟨w4.heap.size, 0, none⟩ 1 1 [.int .i64 c.ru.ki, .int .i64 c.ru.a, .int .i64 c.ru.b, .int .i64 c.ru.c] rfl rfl ?c1 ?c2 ?c3 ?c4 ?c5 ?_) | fail)
        try case c1 => exact four_cells _ _ _ _ _ _
        case c2 => simp [Value.oneCell']
        case c3 => unfold maxLen; omega
        case c4 => omega
        case c5 => first | omega | (simp; omega)
        intro v' w8 hown8 hg8 _ hat8
        obtain ⟨F9, h9⟩ := S5.out.appR c ((Below.refl _ _).alloc (Nat.le_refl _) _) hown8 rfl hg8 (by simpa using hat8)
        have S9 := Lib.hid h9
        clear hown8 hg8 hat8 h9 OW S5
        go_wp2
        go_roundw
        case rel => exact ⟨k + 1, F9, by omega, by go_num, by rw [A2.out]; exact S9.out⟩
        case measure => simp [intOf]; omega
    · have hge : ¬ (k : Int) < (l.length : Int) := by omega
      obtain rfl : k = l.length := by omega
      rw [List.take_length] at S3
      go_wp2
      go_ret
      first
        | exact ⟨_, rfl, _, by rw [HN.out]; exact (S3.out.own 0 rfl).1, (S3.out.own 0 rfl).2, S3.out.1⟩
        | exact ⟨_, by rw [HN.out]; exact (S3.out.own 0 rfl).1, (S3.out.own 0 rfl).2, S3.out.1⟩
        | exact ⟨_, _, rfl, by rw [HN.out]; exact (S3.out.own 0 rfl).1, (S3.out.own 0 rfl).2, S3.out.1⟩
end Go.Proofs.YtaglfdkeomjpdaaGreat
