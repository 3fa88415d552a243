/- DERIVED. CONTRACT: the program's CriticalActivities. -/
import Derived.Test.YtoggakfkpeloiaaGreatDsJ
namespace Go.Proofs.YtoggakfkpeloiaaGreat
open Go.RowKit Go.Shelf
set_option linter.unusedVariables false

set_option maxRecDepth 100000 in
set_option maxHeartbeats 8000000 in
theorem implCritical_any (p : Pj) (v : Value) (w : World) (hv : (trPj p).rd w v) (hk : (trPj p).ok) :
    Calls Tryz.prog 29 #[v] w fun e w' => ∃ u F, e = .returned u ∧ (trI (critL p)).own w' w.heap.size u F ∧ F.Nodup ∧ Below w.heap.size w w' := by
  have HV := Lib.hid hv
  obtain ⟨A1, c1, A2, c2, A3, c3, A4, c4, rfl, r1, r2, r3, r4⟩ := rdProject_t hv
  clear hv r1 r2 r3 r4
  have HK := Lib.hid hk
  clear hk
  have S0 := Lib.hid ((Sn.start w).box 35 [.int .i64 p.dl, .slice A1 p.acts.length c1, .slice A2 p.lks.length c2, .slice A3 p.ress.length c3, .slice A4 p.stk.length c4])
  go_enter Tryz.func29, Tryz.ntmps29
  obtain ⟨e0, e1, e2, e3, e4, ef⟩ := (S0.out.bk 0 rfl).c5
  go_wp2_with fail
  clear e0 e1 e2 e3 e4 ef
  refine (timing_any p _ _ (by exact S0.out.old HV.out) HK.out).mono ?_
  rintro e w1 ⟨N, T, d, rfl, hN, b⟩
  have S1 := Lib.hid (S0.out.go b)
  have HN := Lib.hid hN
  have hW := bk_whole (vs := timC N T d) (Bk.new w1 59 ⟨timC 0 zT zD⟩) (by simp only [timC_len])
  have S2 := Lib.hid ((S1.out.box 59 (timC 0 zT zD)).boxWr 0 rfl hW.1 hW.2)
  simp only [List.set_cons_zero] at S2
  clear hW S0 S1 b hN
  rcases hok : okD p with _ | _
  · have HS := Lib.hid (crit_no hok)
    clear hok
    go_wp2_with (first | ((refine wpList_store_mid rfl 59 _ _ rfl (w1.heap.size) 0 ⟨timC N T d⟩ rfl rfl (bk_there (Bk.new w1 59 ⟨timC 0 zT zD⟩) (by simp [timC_len])) (timC_info N T d) (oneAll N T d) ?_); change wpList _ _ _ _ _ ((w1.alloc (.cells ⟨timC 0 zT zD⟩ 59)).setCells w1.heap.size 0 (timC N T d)); generalize (w1.alloc (.cells ⟨timC 0 zT zD⟩ 59)).setCells w1.heap.size 0 (timC N T d) = w2 at S2 ⊢; generalize w1.heap.size = g at S2 ⊢; have x0 := (S2.out.bk 0 rfl).tim.1) | (refine wpList_load_mid rfl 59 _ rfl (g) 0 rfl (timC N T d) _ (bk_range (S2.out.bk 0 rfl)) Tryz.underlying59 rfl (timC_info N T d) ?_) | fail)
    go_ret
    have hnil : ∀ W : World, (trI (critL p)).own W w.heap.size (.slice none 0 0) [] := fun W => by rw [HS.out]; exact ⟨[], [], ⟨rfl, .inl ⟨rfl, rfl⟩⟩, ⟨rfl, rfl⟩, rfl⟩
    first
      | exact ⟨[], hnil _, List.nodup_nil, S2.out.1⟩
      | exact ⟨.slice none 0 0, [], rfl, hnil _, List.nodup_nil, S2.out.1⟩
      | exact ⟨.slice none 0 0, rfl, [], hnil _, List.nodup_nil, S2.out.1⟩
  obtain ⟨rfl, rfl, rfl⟩ := HN.out hok
  have HS := Lib.hid (crit_yes hok)
  have h6 := (pok_acts (okD_pok hok)).1
  obtain ⟨i0, hi0, hz0, hz1, hz2⟩ := info_parts infoInt
  clear hok HN
  go_wp2_with (first | ((refine wpList_store_mid rfl 59 _ _ rfl (w1.heap.size) 0 ⟨timC p.acts.length (distT p) (shortA p)⟩ rfl rfl (bk_there (Bk.new w1 59 ⟨timC 0 zT zD⟩) (by simp [timC_len])) (timC_info p.acts.length (distT p) (shortA p)) (oneAll p.acts.length (distT p) (shortA p)) ?_); change wpList _ _ _ _ _ ((w1.alloc (.cells ⟨timC 0 zT zD⟩ 59)).setCells w1.heap.size 0 (timC p.acts.length (distT p) (shortA p))); generalize (w1.alloc (.cells ⟨timC 0 zT zD⟩ 59)).setCells w1.heap.size 0 (timC p.acts.length (distT p) (shortA p)) = w2 at S2 ⊢; generalize w1.heap.size = g at S2 ⊢; have x0 := (S2.out.bk 0 rfl).tim.1) | (refine wpList_load_mid rfl 59 _ rfl (g) 0 rfl (timC p.acts.length (distT p) (shortA p)) _ (bk_range (S2.out.bk 0 rfl)) Tryz.underlying59 rfl (timC_info p.acts.length (distT p) (shortA p)) ?_) | fail)
  clear x0
  have S3 := Lib.hid S2.out.nilI
  clear S2
  go_loopw [5, 16] (fun u i wr => ∃ (k : Nat) (F : List Nat), k ≤ p.acts.length ∧ i = .int .i64 k ∧ Sn w wr [⟨trI (critK (critP p) k), u, F⟩, boxI g 59 (timC p.acts.length (distT p) (shortA p)), boxI w.heap.size 35 [.int .i64 p.dl, .slice A1 p.acts.length c1, .slice A2 p.lks.length c2, .slice A3 p.ress.length c3, .slice A4 p.stk.length c4]]) (fun _ i _ => p.acts.length - (intOf i).toNat)
  case atStart => exact ⟨0, _, Nat.zero_le _, rfl, S3.out⟩
  case round =>
    obtain ⟨k, F, hkl, rfl, hS⟩ := hrel
    have S4 := Lib.hid hS
    clear hS S3
    obtain ⟨U, cu, rfl⟩ := slice_ints (S4.out.rd 0 rfl)
    by_cases hlt : k < p.acts.length
    · have hlt' : (k : Int) < (p.acts.length : Int) := by omega
      have TY := Lib.hid (critK_yes (P := critP p) (k := k))
      have TN := Lib.hid (critK_no (P := critP p) (k := k))
      have hlen := critK_len (critP p) k
      generalize critK (critP p) k = us at S4 hlen TY TN ⊢
      have BR := Lib.hid (S4.out.bk 1 rfl)
      go_wp2_with fail
      have CE := Lib.hid (fun (W : World) (h : Below wr.heap.size wr W) => show Hid (Below wr.heap.size wr W) ∧ W.rangeAt g 0 (timC p.acts.length (distT p) (shortA p)) from ⟨Lib.hid h, bk_range (BR.out.below h (Nat.le_refl _))⟩)
      have INIT := Lib.hid (CE.out _ (Below.refl _ _).drew)
      have KEEP := Lib.hid (fun (W2 W : World) (hb2 : Below W.heap.size W W2) (h : Hid (Below wr.heap.size wr W) ∧ W.rangeAt g 0 (timC p.acts.length (distT p) (shortA p))) => CE.out W2 (h.1.out.trans (hb2.mono h.1.out.size)))
      have HE := Lib.hid (show critP p k = decide (earlyT (distT p) p.acts.length k = lateT (distT p) (shortA p) p.acts.length (boundT (distT p) (shortA p) p.acts.length) k) from rfl)
      refine wp_region_held_drew (S := fun W => Hid (Below wr.heap.size wr W) ∧ W.rangeAt g 0 (timC p.acts.length (distT p) (shortA p))) (by kernel_rfl) INIT.out (fun hHeld => ?_)
      refine wpAnyH_take (i := 1) (v := ?_) rfl (by kernel_rfl) (by kernel_rfl) (by kernel_rfl) (fun _ _ _ h => h) (Or.inl ⟨by rfl, ?_⟩) (by assumption) ?_
      rotate_left
      · (intro W hSw; (try dsimp only at hSw); go_simp <;> with_reducible rfl)
      (try simp only [Act.put])
      refine wpAnyH_take (i := 4) (v := ?_) rfl (by kernel_rfl) (by kernel_rfl) (by kernel_rfl) (fun _ _ _ h => h) (Or.inl ⟨by rfl, ?_⟩) (by assumption) ?_
      rotate_left
      · (intro W hSw; (try dsimp only at hSw); go_simp <;> with_reducible rfl)
      (try simp only [Act.put])
      refine wpAnyH_take (i := 0) (v := .agg ⟨timC p.acts.length (distT p) (shortA p)⟩) rfl (by kernel_rfl) (by kernel_rfl) (by kernel_rfl) (fun _ _ _ h => h) (yieldsIf_load_mid (by rfl) 59 _ rfl _ _ rfl (timC p.acts.length (distT p) (shortA p)) _ (fun W h => h.2) Tryz.underlying59 rfl (timC_info p.acts.length (distT p) (shortA p))) (by assumption) ?_
      (try simp only [Act.put])
      refine wpAnyH_take (i := 3) (v := .agg ⟨timC p.acts.length (distT p) (shortA p)⟩) rfl (by kernel_rfl) (by kernel_rfl) (by kernel_rfl) (fun _ _ _ h => h) (yieldsIf_load_mid (by rfl) 59 _ rfl _ _ rfl (timC p.acts.length (distT p) (shortA p)) _ (fun W h => h.2) Tryz.underlying59 rfl (timC_info p.acts.length (distT p) (shortA p))) (by assumption) ?_
      (try simp only [Act.put])
      refine wpAnyH_take (i := 5) (v := .agg ⟨timC p.acts.length (distT p) (shortA p)⟩) rfl (by kernel_rfl) (by kernel_rfl) (by kernel_rfl) (fun _ _ _ h => h) (yieldsIf_load_mid (by rfl) 59 _ rfl _ _ rfl (timC p.acts.length (distT p) (shortA p)) _ (fun W h => h.2) Tryz.underlying59 rfl (timC_info p.acts.length (distT p) (shortA p))) (by assumption) ?_
      (try simp only [Act.put])
      refine wpAnyH_ready (rs := [2]) (by kernel_rfl) (by simp) ?_
      refine AllReadyH.cons rfl (fun K hK => ?_) AllReadyH.nil
      go_simp
      go_at_call 55
      refine (earliest_any p.acts.length (distT p) (shortA p) k _ h6 hlt).mono ?_
      rintro e w5 ⟨rfl, bb⟩
      (first | done | go_wp2_with fail)
      refine hK.out _ _ (KEEP.out _ _ bb (by assumption)) (fun hHeld5 => ?_)
      clear hK K bb
      refine wpAnyH_ready (rs := [6]) (by kernel_rfl) (by simp) ?_
      refine AllReadyH.cons rfl (fun K hK => ?_) AllReadyH.nil
      go_simp
      go_at_call 60
      refine (bound_any p.acts.length (distT p) (shortA p) _ h6).mono ?_
      rintro e w6 ⟨rfl, bb⟩
      (first | done | go_wp2_with fail)
      refine hK.out _ _ (KEEP.out _ _ bb (by assumption)) (fun hHeld6 => ?_)
      clear hK K bb
      refine wpAnyH_ready (rs := [7]) (by kernel_rfl) (by simp) ?_
      refine AllReadyH.cons rfl (fun K hK => ?_) AllReadyH.nil
      go_simp
      go_at_call 59
      refine (latest_any p.acts.length (distT p) (shortA p) k (boundT (distT p) (shortA p) p.acts.length) _ h6 hlt).mono ?_
      rintro e w7 ⟨rfl, bb⟩
      (first | done | go_wp2_with fail)
      refine hK.out _ _ (KEEP.out _ _ bb (by assumption)) (fun hHeld7 => ?_)
      clear hK K bb
      refine wpAnyH_take (i := 8) (v := ?_) rfl (by kernel_rfl) (by kernel_rfl) (by kernel_rfl) (fun _ _ _ h => h) (Or.inl ⟨by rfl, ?_⟩) (by assumption) ?_
      rotate_left
      · (intro W hSw; (try dsimp only at hSw); go_simp <;> with_reducible rfl)
      (try simp only [Act.put])
      refine wpAnyH_done (by kernel_rfl) ?_ _
      have HB7 : Hid (Below wr.heap.size wr w7) := And.left (by assumption)
      have S5 := Lib.hid (S4.out.go HB7.out)
      clear HB7 CE INIT KEEP BR S4
      clear hHeld hHeld5 hHeld6 hHeld7
      generalize earlyT (distT p) p.acts.length k = E at HE ⊢
      generalize lateT (distT p) (shortA p) p.acts.length (boundT (distT p) (shortA p) p.acts.length) k = L at HE ⊢
      by_cases hEL : E = L
      · have HT := Lib.hid (TY.out (HE.out.trans (decide_eq_true hEL)))
        have hb : (E == L) = true := by simp [hEL]
        clear TY TN HE hEL
        have OW := Lib.hid S5.out.ownRI
        have hz := S5.out.1.size
        go_wp2_with (first | (at_builtin; refine wpList_append_own_at _ rfl (.tmp 28) (.tmp 30) 25 rfl w.heap.size 3 i0 (.int .i64 0) 1 8 Tryz.underlying25 hi0 hz0 hz1 hz2 rfl (by decide) (.slice U us.length cu) us.length (us.map (.int .i64)) rfl (by exact OW.out.alloc _) ⟨w7.heap.size, 0, none⟩ 1 1 [.int .i64 (k : Int)] rfl rfl ?c1 ?c2 ?c3 ?c4 ?c5 ?_))
        try case c1 => exact one_cell _ _ _
        case c2 => simp [Value.oneCell']
        case c3 => unfold maxLen; omega
        case c4 => omega
        case c5 => first | omega | (simp; omega)
        intro v' w8 hown8 hg8 _ hat8
        obtain ⟨F9, h9⟩ := S5.out.appI2 hown8 hg8 (by simpa using hat8)
        have S9 := Lib.hid h9
        clear hown8 hg8 hat8 h9 OW S5
        go_wp2
        go_roundw
        case rel => exact ⟨k + 1, F9, by omega, by go_num, by rw [HT.out]; exact S9.out⟩
        case measure => simp [intOf]; omega
      · have HT := Lib.hid (TN.out (HE.out.trans (decide_eq_false hEL)))
        have hb : (E == L) = false := by simp [hEL]
        clear TY TN HE hEL
        go_wp2
        go_roundw
        case rel => exact ⟨k + 1, F, by omega, by go_num, by rw [HT.out]; exact S5.out⟩
        case measure => simp [intOf]; omega
    · have hge : ¬ (k : Int) < (p.acts.length : Int) := by omega
      obtain rfl : k = p.acts.length := by omega
      go_wp2
      go_ret
      first
        | exact ⟨_, rfl, _, by rw [HS.out]; exact (S4.out.own 0 rfl).1, (S4.out.own 0 rfl).2, S4.out.1⟩
        | exact ⟨_, _, rfl, by rw [HS.out]; exact (S4.out.own 0 rfl).1, (S4.out.own 0 rfl).2, S4.out.1⟩
        | exact ⟨_, by rw [HS.out]; exact (S4.out.own 0 rfl).1, (S4.out.own 0 rfl).2, S4.out.1⟩
end Go.Proofs.YtoggakfkpeloiaaGreat
