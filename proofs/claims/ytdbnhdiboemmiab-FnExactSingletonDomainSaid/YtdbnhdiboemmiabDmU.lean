/- DERIVED. CONTRACTS of chapter 13: a domain copied, and that of one schedule, by the model. -/
import Derived.Test.YtdbnhdiboemmiabDmA
import Derived.Test.YtdbnhdiboemmiabDmP
import Derived.Test.YtdbnhdiboemmiabRegZ
import Derived.Test.YtdbnhdiboemmiabTPj
import Derived.Deep.AppendLies
import Derived.Deep.CutRange
namespace Go.Proofs.Ytdbnhdiboemmiab
open Go.RowKit Go.Shelf
set_option linter.unusedVariables false

theorem su_ones : ∀ (l : List Int), (trSu (l.map fun m => [m])).sz = l.length + l.length
  | [] => by simp [su_sz, szL]
  | x :: l => by
    have h := su_ones l
    rw [su_sz] at h ⊢
    simp only [List.map_cons, List.flatMap_cons, szL_app, List.length_cons, List.length_map] at h ⊢
    simp only [cellsI1, szL, trI_sz, List.length_cons, List.length_nil]
    omega
theorem sing_sz (s : Sc) : (trDm (singD s)).sz ≤ 2 * (trSc s).sz := by
  have h : (trSc s).sz = s.st.length + (s.mo.length + 0) := by { show szL (cellsSc s) = _; simp only [cellsSc, szL, trI_sz] }
  rw [dm_sz, h]
  show s.st.length + (s.st.length + ((trSu (s.mo.map fun m => [m])).sz + 0)) ≤ _
  rw [su_ones]
  omega
set_option maxRecDepth 100000 in
set_option maxHeartbeats 8000000 in
theorem specSingleton_any (s : Sc) (v : Value) (w : World) {BB : Nat} {GG : List Nat} (ho : (trSc s).own w BB v GG) (hsz : (trSc s).sz ≤ 1048576) :
    Calls Try.prog 14 #[v] w fun e w' => ∃ u F, e = .returned u ∧ (trDm (singD s)).own w' w.heap.size u F ∧ F.Nodup ∧ Below w.heap.size w w' := by
  have hsz2 : s.st.length + (s.mo.length + 0) ≤ 1048576 := by have h : (trSc s).sz = s.st.length + (s.mo.length + 0) := by { show szL (cellsSc s) = _; simp only [cellsSc, szL, trI_sz] }; omega
  obtain ⟨v1, v2, G1, G2, rfl, o1, o2⟩ : ∃ v1 v2 F1 F2, v = .agg #[v1, v2] ∧ (trI s.st).own w BB v1 F1 ∧ (trI s.mo).own w BB v2 F2 := by
    obtain ⟨vs, rfl, v1, us, F1, G1, rfl, o1, ⟨v2, us, F2, G2, rfl, o2, ⟨rfl, rfl⟩, rfl⟩, rfl⟩ := ho
    exact ⟨v1, v2, F1, F2, rfl, o1, o2⟩
  obtain ⟨E1, f1, rfl⟩ := slice_ints (Tr.own_rd _ _ _ o1)
  obtain ⟨ht2, E2, f2, rfl, x2⟩ := rdI (rd_flat (Tr.own_rd _ _ _ o2))
  have Q1 := Lib.hid (rd_flat (Tr.own_rd _ _ _ o1))
  have N1 := Lib.hid (nil_int o1)
  have X2 := Lib.hid x2
  clear ho o1 o2 x2
  obtain ⟨ii, hj0, hjz, hjs, hjb⟩ := info_parts infoInt_t
  have S0 := Lib.hid ((((Sn.start w).box 40 [.slice E1 s.st.length f1, .slice E2 s.mo.length f2]).box 30 [.slice none 0 0, .slice none 0 0, .slice none 0 0]))
  simp only [World.size_alloc] at S0
  go_enter Try.func14, Try.ntmps14
  go_wp2_with fail
  generalize hwq : World.alloc (World.alloc w _) _ = wq
  have hS : Sn w wq [boxI (w.heap.size + 1) 30 [.slice none 0 0, .slice none 0 0, .slice none 0 0], boxI w.heap.size 40 [.slice E1 s.st.length f1, .slice E2 s.mo.length f2]] := hwq ▸ S0.out
  have S1z := Lib.hid (hS.bk 1 rfl).lt
  have hlw := S1z.out
  have S0q := Lib.hid hS
  clear hwq S0 hS
  go_cut [3] from 6 to 14 (fun c wx => ∃ (gb : Nat) (A1 A2 : Option Addr) (a1 a2 : Nat) (F1 F2 : List Nat), c = .pointer (some ⟨gb, 0, none⟩) ∧ Sn w wx [boxI gb 30 [.slice A1 s.st.length a1, .slice A2 s.st.length a2, .slice none 0 0], ⟨trI s.st, .slice A2 s.st.length a2, F2⟩, ⟨trI s.st, .slice A1 s.st.length a1, F1⟩, boxI (w.heap.size + 1) 30 [.slice none 0 0, .slice none 0 0, .slice none 0 0], boxI w.heap.size 40 [.slice E1 s.st.length f1, .slice E2 s.mo.length f2]])
  case first =>
    obtain ⟨z0, z1, zf⟩ := (S0q.out.bk 1 rfl).c2
    have S1 := Lib.hid S0q.out.drew1
    have B0 := Lib.hid ((Below.refl wq.heap.size wq).drew)
    clear S0q
    have CE := Lib.hid (fun (W : World) (h : Below wq.heap.size wq W) => show Hid (Below wq.heap.size wq W) ∧ W.cell? ⟨w.heap.size, 0, none⟩ = some (.slice E1 s.st.length f1) from ⟨Lib.hid h, (h.cell (p := ⟨w.heap.size, 0, none⟩) hlw).trans (by exact by simpa using z0)⟩)
    refine wp_region_held_drew (S := fun W => Hid (Below wq.heap.size wq W) ∧ W.cell? ⟨w.heap.size, 0, none⟩ = some (.slice E1 s.st.length f1)) (by kernel_rfl) (CE.out _ (Below.refl _ _).drew) (fun hHeld => ?_)
    clear z0 z1 zf
    generalize hwd : wq.drew = wd at S1 B0 hHeld ⊢
    clear hwd
    refine wpAnyH_take (i := 1) (v := ?_) rfl (by kernel_rfl) (by kernel_rfl) (by kernel_rfl) (fun _ _ _ h => h) (Or.inl ⟨by rfl, ?_⟩) (by assumption) ?_
    rotate_left
    · (intro W hSw; (try dsimp only at hSw); go_simp <;> with_reducible rfl)
    (try simp only [Act.put, List.getElem_toArray, List.getElem_cons_succ, List.getElem_cons_zero, List.setIfInBounds_toArray, List.set_cons_succ, List.set_cons_zero])
    refine wpAnyH_take (i := 2) (v := ?_) rfl (by kernel_rfl) (by kernel_rfl) (by kernel_rfl) (fun _ _ _ h => h) (Or.inl ⟨by rfl, ?_⟩) (by assumption) ?_
    rotate_left
    · (intro W hSw; (try dsimp only at hSw); go_simp <;> with_reducible rfl)
    (try simp only [Act.put, List.getElem_toArray, List.getElem_cons_succ, List.getElem_cons_zero, List.setIfInBounds_toArray, List.set_cons_succ, List.set_cons_zero])
    refine wpAnyH_take (i := 5) (v := ?_) rfl (by kernel_rfl) (by kernel_rfl) (by kernel_rfl) (fun _ _ _ h => h) (Or.inl ⟨by rfl, ?_⟩) (by assumption) ?_
    rotate_left
    · (intro W hSw; (try dsimp only at hSw); go_simp <;> with_reducible rfl)
    (try simp only [Act.put, List.getElem_toArray, List.getElem_cons_succ, List.getElem_cons_zero, List.setIfInBounds_toArray, List.set_cons_succ, List.set_cons_zero])
    refine wpAnyH_take (i := 6) (v := ?_) rfl (by kernel_rfl) (by kernel_rfl) (by kernel_rfl) (fun _ _ _ h => h) (Or.inl ⟨by rfl, ?_⟩) (by assumption) ?_
    rotate_left
    · (intro W hSw; (try dsimp only at hSw); go_simp <;> with_reducible rfl)
    (try simp only [Act.put, List.getElem_toArray, List.getElem_cons_succ, List.getElem_cons_zero, List.setIfInBounds_toArray, List.set_cons_succ, List.set_cons_zero])
    refine wpAnyH_ready (rs := [0, 4, 9]) (by kernel_rfl) (by simp) ?_
    refine AllReadyH.cons rfl (fun K hK => ?_) ?_
    · go_simp
      have S2 := Lib.hid (S1.out.emptyI)
      have B2 := Lib.hid (B0.out.alloc B0.out.size (.cells #[] 3))
      have he2 : wq.heap.size ≤ wd.heap.size := B0.out.size
      refine hK.out _ _ (CE.out _ B2.out) (fun hHeld2 => ?_)
      generalize hge : wd.heap.size = e2 at S2 B2 he2 hHeld2 ⊢
      generalize World.alloc wd _ = w2 at S2 B2 hHeld2 ⊢
      clear hK K hge S1 B0
      refine wpAnyH_ready (rs := [3, 4, 9]) (by kernel_rfl) (by simp) ?_
      refine AllReadyH.cons rfl (fun K hK => ?_) ?_
      · have SP := Lib.hid (S2.out.pick 0 rfl)
        simp only [List.eraseIdx_cons_zero] at SP
        have OW := Lib.hid (own_flat (SP.out.own 0 rfl).1).1
        refine step_app_rd rfl (.tmp 6) (.tmp 8) 22 (by rfl) Try.underlying22 w.heap.size (.slice (some ⟨e2, 0, none⟩) 0 0) [] s.st (by rfl) (by exact OW.out) _ (by rfl) (by exact Q1.out.below S2.out.1 (Nat.le_refl _)) N1.out (by simp only [List.length_nil]; omega) S2.out.1.size ?_
        intro v3 w3 hown hg hat
        have S3 := Lib.hid (SP.out.appRow (by exact hown) hg hat)
        obtain ⟨A3, a3, rfl⟩ : ∃ A c, v3 = .slice A s.st.length c := slice_ints (S3.out.rd 0 rfl)
        have B3 := Lib.hid (B2.out.grown hg B2.out.size (fun k hk => by simp [Value.ownBlock] at hk; have := he2; omega))
        refine hK.out _ _ (CE.out _ B3.out) (fun hHeld3 => ?_)
        clear hK K hown hg hat SP OW S2 B2
        refine wpAnyH_ready (rs := [4, 9]) (by kernel_rfl) (by simp) ?_
        refine AllReadyH.cons rfl (fun K hK => ?_) ?_
        · go_simp
          have S4 := Lib.hid (S3.out.emptyI)
          have B4 := Lib.hid (B3.out.alloc B3.out.size (.cells #[] 3))
          have he4 : wq.heap.size ≤ w3.heap.size := B3.out.size
          refine hK.out _ _ (CE.out _ B4.out) (fun hHeld4 => ?_)
          generalize hge : w3.heap.size = e4 at S4 B4 he4 hHeld4 ⊢
          generalize World.alloc w3 _ = w4 at S4 B4 hHeld4 ⊢
          clear hK K hge S3 B3
          refine wpAnyH_ready (rs := [7, 9]) (by kernel_rfl) (by simp) ?_
          refine AllReadyH.cons rfl (fun K hK => ?_) ?_
          · have SP := Lib.hid (S4.out.pick 0 rfl)
            simp only [List.eraseIdx_cons_zero] at SP
            have OW := Lib.hid (own_flat (SP.out.own 0 rfl).1).1
            refine step_app_rd rfl (.tmp 10) (.tmp 12) 22 (by rfl) Try.underlying22 w.heap.size (.slice (some ⟨e4, 0, none⟩) 0 0) [] s.st (by rfl) (by exact OW.out) _ (by rfl) (by exact Q1.out.below S4.out.1 (Nat.le_refl _)) N1.out (by simp only [List.length_nil]; omega) S4.out.1.size ?_
            intro v5 w5 hown hg hat
            have S5 := Lib.hid (SP.out.appRow (by exact hown) hg hat)
            obtain ⟨A5, a5, rfl⟩ : ∃ A c, v5 = .slice A s.st.length c := slice_ints (S5.out.rd 0 rfl)
            have B5 := Lib.hid (B4.out.grown hg B4.out.size (fun k hk => by simp [Value.ownBlock] at hk; have := he4; omega))
            refine hK.out _ _ (CE.out _ B5.out) (fun hHeld5 => ?_)
            clear hK K hown hg hat SP OW S4 B4
            refine wpAnyH_take (i := 8) (v := ?_) rfl (by kernel_rfl) (by kernel_rfl) (by kernel_rfl) (fun _ _ _ h => h) (Or.inl ⟨by rfl, ?_⟩) (by assumption) ?_
            rotate_left
            · (intro W hSw; (try dsimp only at hSw); go_simp <;> with_reducible rfl)
            (try simp only [Act.put, List.getElem_toArray, List.getElem_cons_succ, List.getElem_cons_zero, List.setIfInBounds_toArray, List.set_cons_succ, List.set_cons_zero])
            refine wpAnyH_ready (rs := [9]) (by kernel_rfl) (by simp) ?_
            refine AllReadyH.cons rfl (fun K hK => ?_) AllReadyH.nil
            go_simp
            have S6 := Lib.hid (S5.out.box 30 [.slice none 0 0, .slice none 0 0, .slice none 0 0])
            have B6 := Lib.hid (B5.out.alloc B5.out.size (.cells #[.slice none 0 0, .slice none 0 0, .slice none 0 0] 30))
            have hg0 : wq.heap.size ≤ w5.heap.size := B5.out.size
            refine hK.out _ _ (CE.out _ B6.out) (fun hHeld6 => ?_)
            generalize hgg : w5.heap.size = gb at S6 B6 hg0 hHeld6 ⊢
            generalize World.alloc w5 _ = w6 at S6 B6 hHeld6 ⊢
            clear hK K hgg S5 B5
            obtain ⟨y0, y1, y2, yf⟩ := (S6.out.bk 0 rfl).c3
            refine wpAnyH_ready (rs := [10]) (by kernel_rfl) (by simp) ?_
            refine AllReadyH.cons rfl (fun K hK => ?_) AllReadyH.nil
            go_simp
            have S7 := Lib.hid (((S6.out.boxSet 0 rfl 0 (.slice A3 s.st.length a3)).boxSet 0 rfl 1 (.slice A5 s.st.length a5)).boxSet 0 rfl 2 (.slice none 0 0))
            simp only [List.set_cons_zero, List.set_cons_succ] at S7
            refine hK.out _ _ (CE.out _ (((B6.out.setCell (by exact hg0) _).setCell (by exact hg0) _).setCell (by exact hg0) _)) (fun hHeld7 => ?_)
            clear hK K y0 y1 y2 yf S6
            refine wpAnyH_done (by kernel_rfl) ?_ _
            go_wp2_with fail
            go_meet
            case rel => exact ⟨_, _, _, _, _, _, _, rfl, (((S7.out.pick 2 rfl).pick 2 rfl).pick 2 rfl)⟩
          refine AllReadyH.cons rfl (fun K hK => ?_) AllReadyH.nil
          go_simp
          have S5 := Lib.hid (S4.out.box 30 [.slice none 0 0, .slice none 0 0, .slice none 0 0])
          have B5 := Lib.hid (B4.out.alloc B4.out.size (.cells #[.slice none 0 0, .slice none 0 0, .slice none 0 0] 30))
          have hg0 : wq.heap.size ≤ w4.heap.size := B4.out.size
          refine hK.out _ _ (CE.out _ B5.out) (fun hHeld5 => ?_)
          generalize hgg : w4.heap.size = gb at S5 B5 hg0 hHeld5 ⊢
          generalize World.alloc w4 _ = w5 at S5 B5 hHeld5 ⊢
          clear hK K hgg S4 B4
          refine wpAnyH_ready (rs := [7]) (by kernel_rfl) (by simp) ?_
          refine AllReadyH.cons rfl (fun K hK => ?_) AllReadyH.nil
          have SP := Lib.hid (S5.out.pick 1 rfl)
          simp only [List.eraseIdx_cons_succ, List.eraseIdx_cons_zero] at SP
          have OW := Lib.hid (own_flat (SP.out.own 0 rfl).1).1
          refine step_app_rd rfl (.tmp 10) (.tmp 12) 22 (by rfl) Try.underlying22 w.heap.size (.slice (some ⟨e4, 0, none⟩) 0 0) [] s.st (by rfl) (by exact OW.out) _ (by rfl) (by exact Q1.out.below S5.out.1 (Nat.le_refl _)) N1.out (by simp only [List.length_nil]; omega) S5.out.1.size ?_
          intro v6 w6 hown hg hat
          have S6 := Lib.hid (SP.out.appRow (by exact hown) hg hat)
          obtain ⟨A6, a6, rfl⟩ : ∃ A c, v6 = .slice A s.st.length c := slice_ints (S6.out.rd 0 rfl)
          have B6 := Lib.hid (B5.out.grown hg B5.out.size (fun k hk => by simp [Value.ownBlock] at hk; have := he4; omega))
          refine hK.out _ _ (CE.out _ B6.out) (fun hHeld6 => ?_)
          clear hK K hown hg hat SP OW S5 B5
          refine wpAnyH_take (i := 8) (v := ?_) rfl (by kernel_rfl) (by kernel_rfl) (by kernel_rfl) (fun _ _ _ h => h) (Or.inl ⟨by rfl, ?_⟩) (by assumption) ?_
          rotate_left
          · (intro W hSw; (try dsimp only at hSw); go_simp <;> with_reducible rfl)
          (try simp only [Act.put, List.getElem_toArray, List.getElem_cons_succ, List.getElem_cons_zero, List.setIfInBounds_toArray, List.set_cons_succ, List.set_cons_zero])
          obtain ⟨y0, y1, y2, yf⟩ := (S6.out.bk 1 rfl).c3
          refine wpAnyH_ready (rs := [10]) (by kernel_rfl) (by simp) ?_
          refine AllReadyH.cons rfl (fun K hK => ?_) AllReadyH.nil
          go_simp
          have S7 := Lib.hid (((S6.out.boxSet 1 rfl 0 (.slice A3 s.st.length a3)).boxSet 1 rfl 1 (.slice A6 s.st.length a6)).boxSet 1 rfl 2 (.slice none 0 0))
          simp only [List.set_cons_zero, List.set_cons_succ] at S7
          refine hK.out _ _ (CE.out _ (((B6.out.setCell (by exact hg0) _).setCell (by exact hg0) _).setCell (by exact hg0) _)) (fun hHeld7 => ?_)
          clear hK K y0 y1 y2 yf S6
          refine wpAnyH_done (by kernel_rfl) ?_ _
          go_wp2_with fail
          go_meet
          case rel => exact ⟨_, _, _, _, _, _, _, rfl, (((S7.out.pick 2 rfl).pick 1 rfl).pick 2 rfl)⟩
        refine AllReadyH.cons rfl (fun K hK => ?_) AllReadyH.nil
        go_simp
        have S4 := Lib.hid (S3.out.box 30 [.slice none 0 0, .slice none 0 0, .slice none 0 0])
        have B4 := Lib.hid (B3.out.alloc B3.out.size (.cells #[.slice none 0 0, .slice none 0 0, .slice none 0 0] 30))
        have hg0 : wq.heap.size ≤ w3.heap.size := B3.out.size
        refine hK.out _ _ (CE.out _ B4.out) (fun hHeld4 => ?_)
        generalize hgg : w3.heap.size = gb at S4 B4 hg0 hHeld4 ⊢
        generalize World.alloc w3 _ = w4 at S4 B4 hHeld4 ⊢
        clear hK K hgg S3 B3
        refine wpAnyH_ready (rs := [4]) (by kernel_rfl) (by simp) ?_
        refine AllReadyH.cons rfl (fun K hK => ?_) AllReadyH.nil
        go_simp
        have S5 := Lib.hid (S4.out.emptyI)
        have B5 := Lib.hid (B4.out.alloc B4.out.size (.cells #[] 3))
        have he5 : wq.heap.size ≤ w4.heap.size := B4.out.size
        refine hK.out _ _ (CE.out _ B5.out) (fun hHeld5 => ?_)
        generalize hge : w4.heap.size = e5 at S5 B5 he5 hHeld5 ⊢
        generalize World.alloc w4 _ = w5 at S5 B5 hHeld5 ⊢
        clear hK K hge S4 B4
        refine wpAnyH_ready (rs := [7]) (by kernel_rfl) (by simp) ?_
        refine AllReadyH.cons rfl (fun K hK => ?_) AllReadyH.nil
        have SP := Lib.hid (S5.out.pick 0 rfl)
        simp only [List.eraseIdx_cons_zero] at SP
        have OW := Lib.hid (own_flat (SP.out.own 0 rfl).1).1
        refine step_app_rd rfl (.tmp 10) (.tmp 12) 22 (by rfl) Try.underlying22 w.heap.size (.slice (some ⟨e5, 0, none⟩) 0 0) [] s.st (by rfl) (by exact OW.out) _ (by rfl) (by exact Q1.out.below S5.out.1 (Nat.le_refl _)) N1.out (by simp only [List.length_nil]; omega) S5.out.1.size ?_
        intro v6 w6 hown hg hat
        have S6 := Lib.hid (SP.out.appRow (by exact hown) hg hat)
        obtain ⟨A6, a6, rfl⟩ : ∃ A c, v6 = .slice A s.st.length c := slice_ints (S6.out.rd 0 rfl)
        have B6 := Lib.hid (B5.out.grown hg B5.out.size (fun k hk => by simp [Value.ownBlock] at hk; have := he5; omega))
        refine hK.out _ _ (CE.out _ B6.out) (fun hHeld6 => ?_)
        clear hK K hown hg hat SP OW S5 B5
        refine wpAnyH_take (i := 8) (v := ?_) rfl (by kernel_rfl) (by kernel_rfl) (by kernel_rfl) (fun _ _ _ h => h) (Or.inl ⟨by rfl, ?_⟩) (by assumption) ?_
        rotate_left
        · (intro W hSw; (try dsimp only at hSw); go_simp <;> with_reducible rfl)
        (try simp only [Act.put, List.getElem_toArray, List.getElem_cons_succ, List.getElem_cons_zero, List.setIfInBounds_toArray, List.set_cons_succ, List.set_cons_zero])
        obtain ⟨y0, y1, y2, yf⟩ := (S6.out.bk 1 rfl).c3
        refine wpAnyH_ready (rs := [10]) (by kernel_rfl) (by simp) ?_
        refine AllReadyH.cons rfl (fun K hK => ?_) AllReadyH.nil
        go_simp
        have S7 := Lib.hid (((S6.out.boxSet 1 rfl 0 (.slice A3 s.st.length a3)).boxSet 1 rfl 1 (.slice A6 s.st.length a6)).boxSet 1 rfl 2 (.slice none 0 0))
        simp only [List.set_cons_zero, List.set_cons_succ] at S7
        refine hK.out _ _ (CE.out _ (((B6.out.setCell (by exact hg0) _).setCell (by exact hg0) _).setCell (by exact hg0) _)) (fun hHeld7 => ?_)
        clear hK K y0 y1 y2 yf S6
        refine wpAnyH_done (by kernel_rfl) ?_ _
        go_wp2_with fail
        go_meet
        case rel => exact ⟨_, _, _, _, _, _, _, rfl, (((S7.out.pick 2 rfl).pick 1 rfl).pick 2 rfl)⟩
      refine AllReadyH.cons rfl (fun K hK => ?_) ?_
      · go_simp
        have S3 := Lib.hid (S2.out.emptyI)
        have B3 := Lib.hid (B2.out.alloc B2.out.size (.cells #[] 3))
        have he3 : wq.heap.size ≤ w2.heap.size := B2.out.size
        refine hK.out _ _ (CE.out _ B3.out) (fun hHeld3 => ?_)
        generalize hge : w2.heap.size = e3 at S3 B3 he3 hHeld3 ⊢
        generalize World.alloc w2 _ = w3 at S3 B3 hHeld3 ⊢
        clear hK K hge S2 B2
        refine wpAnyH_ready (rs := [3, 9]) (by kernel_rfl) (by simp) ?_
        refine AllReadyH.cons rfl (fun K hK => ?_) ?_
        · have SP := Lib.hid (S3.out.pick 1 rfl)
          simp only [List.eraseIdx_cons_succ, List.eraseIdx_cons_zero] at SP
          have OW := Lib.hid (own_flat (SP.out.own 0 rfl).1).1
          refine step_app_rd rfl (.tmp 6) (.tmp 8) 22 (by rfl) Try.underlying22 w.heap.size (.slice (some ⟨e2, 0, none⟩) 0 0) [] s.st (by rfl) (by exact OW.out) _ (by rfl) (by exact Q1.out.below S3.out.1 (Nat.le_refl _)) N1.out (by simp only [List.length_nil]; omega) S3.out.1.size ?_
          intro v4 w4 hown hg hat
          have S4 := Lib.hid (SP.out.appRow (by exact hown) hg hat)
          obtain ⟨A4, a4, rfl⟩ : ∃ A c, v4 = .slice A s.st.length c := slice_ints (S4.out.rd 0 rfl)
          have B4 := Lib.hid (B3.out.grown hg B3.out.size (fun k hk => by simp [Value.ownBlock] at hk; have := he2; omega))
          refine hK.out _ _ (CE.out _ B4.out) (fun hHeld4 => ?_)
          clear hK K hown hg hat SP OW S3 B3
          refine wpAnyH_ready (rs := [7, 9]) (by kernel_rfl) (by simp) ?_
          refine AllReadyH.cons rfl (fun K hK => ?_) ?_
          · have SP := Lib.hid (S4.out.pick 1 rfl)
            simp only [List.eraseIdx_cons_succ, List.eraseIdx_cons_zero] at SP
            have OW := Lib.hid (own_flat (SP.out.own 0 rfl).1).1
            refine step_app_rd rfl (.tmp 10) (.tmp 12) 22 (by rfl) Try.underlying22 w.heap.size (.slice (some ⟨e3, 0, none⟩) 0 0) [] s.st (by rfl) (by exact OW.out) _ (by rfl) (by exact Q1.out.below S4.out.1 (Nat.le_refl _)) N1.out (by simp only [List.length_nil]; omega) S4.out.1.size ?_
            intro v5 w5 hown hg hat
            have S5 := Lib.hid (SP.out.appRow (by exact hown) hg hat)
            obtain ⟨A5, a5, rfl⟩ : ∃ A c, v5 = .slice A s.st.length c := slice_ints (S5.out.rd 0 rfl)
            have B5 := Lib.hid (B4.out.grown hg B4.out.size (fun k hk => by simp [Value.ownBlock] at hk; have := he3; omega))
            refine hK.out _ _ (CE.out _ B5.out) (fun hHeld5 => ?_)
            clear hK K hown hg hat SP OW S4 B4
            refine wpAnyH_take (i := 8) (v := ?_) rfl (by kernel_rfl) (by kernel_rfl) (by kernel_rfl) (fun _ _ _ h => h) (Or.inl ⟨by rfl, ?_⟩) (by assumption) ?_
            rotate_left
            · (intro W hSw; (try dsimp only at hSw); go_simp <;> with_reducible rfl)
            (try simp only [Act.put, List.getElem_toArray, List.getElem_cons_succ, List.getElem_cons_zero, List.setIfInBounds_toArray, List.set_cons_succ, List.set_cons_zero])
            refine wpAnyH_ready (rs := [9]) (by kernel_rfl) (by simp) ?_
            refine AllReadyH.cons rfl (fun K hK => ?_) AllReadyH.nil
            go_simp
            have S6 := Lib.hid (S5.out.box 30 [.slice none 0 0, .slice none 0 0, .slice none 0 0])
            have B6 := Lib.hid (B5.out.alloc B5.out.size (.cells #[.slice none 0 0, .slice none 0 0, .slice none 0 0] 30))
            have hg0 : wq.heap.size ≤ w5.heap.size := B5.out.size
            refine hK.out _ _ (CE.out _ B6.out) (fun hHeld6 => ?_)
            generalize hgg : w5.heap.size = gb at S6 B6 hg0 hHeld6 ⊢
            generalize World.alloc w5 _ = w6 at S6 B6 hHeld6 ⊢
            clear hK K hgg S5 B5
            obtain ⟨y0, y1, y2, yf⟩ := (S6.out.bk 0 rfl).c3
            refine wpAnyH_ready (rs := [10]) (by kernel_rfl) (by simp) ?_
            refine AllReadyH.cons rfl (fun K hK => ?_) AllReadyH.nil
            go_simp
            have S7 := Lib.hid (((S6.out.boxSet 0 rfl 0 (.slice A4 s.st.length a4)).boxSet 0 rfl 1 (.slice A5 s.st.length a5)).boxSet 0 rfl 2 (.slice none 0 0))
            simp only [List.set_cons_zero, List.set_cons_succ] at S7
            refine hK.out _ _ (CE.out _ (((B6.out.setCell (by exact hg0) _).setCell (by exact hg0) _).setCell (by exact hg0) _)) (fun hHeld7 => ?_)
            clear hK K y0 y1 y2 yf S6
            refine wpAnyH_done (by kernel_rfl) ?_ _
            go_wp2_with fail
            go_meet
            case rel => exact ⟨_, _, _, _, _, _, _, rfl, (((S7.out.pick 2 rfl).pick 2 rfl).pick 2 rfl)⟩
          refine AllReadyH.cons rfl (fun K hK => ?_) AllReadyH.nil
          go_simp
          have S5 := Lib.hid (S4.out.box 30 [.slice none 0 0, .slice none 0 0, .slice none 0 0])
          have B5 := Lib.hid (B4.out.alloc B4.out.size (.cells #[.slice none 0 0, .slice none 0 0, .slice none 0 0] 30))
          have hg0 : wq.heap.size ≤ w4.heap.size := B4.out.size
          refine hK.out _ _ (CE.out _ B5.out) (fun hHeld5 => ?_)
          generalize hgg : w4.heap.size = gb at S5 B5 hg0 hHeld5 ⊢
          generalize World.alloc w4 _ = w5 at S5 B5 hHeld5 ⊢
          clear hK K hgg S4 B4
          refine wpAnyH_ready (rs := [7]) (by kernel_rfl) (by simp) ?_
          refine AllReadyH.cons rfl (fun K hK => ?_) AllReadyH.nil
          have SP := Lib.hid (S5.out.pick 2 rfl)
          simp only [List.eraseIdx_cons_succ, List.eraseIdx_cons_zero] at SP
          have OW := Lib.hid (own_flat (SP.out.own 0 rfl).1).1
          refine step_app_rd rfl (.tmp 10) (.tmp 12) 22 (by rfl) Try.underlying22 w.heap.size (.slice (some ⟨e3, 0, none⟩) 0 0) [] s.st (by rfl) (by exact OW.out) _ (by rfl) (by exact Q1.out.below S5.out.1 (Nat.le_refl _)) N1.out (by simp only [List.length_nil]; omega) S5.out.1.size ?_
          intro v6 w6 hown hg hat
          have S6 := Lib.hid (SP.out.appRow (by exact hown) hg hat)
          obtain ⟨A6, a6, rfl⟩ : ∃ A c, v6 = .slice A s.st.length c := slice_ints (S6.out.rd 0 rfl)
          have B6 := Lib.hid (B5.out.grown hg B5.out.size (fun k hk => by simp [Value.ownBlock] at hk; have := he3; omega))
          refine hK.out _ _ (CE.out _ B6.out) (fun hHeld6 => ?_)
          clear hK K hown hg hat SP OW S5 B5
          refine wpAnyH_take (i := 8) (v := ?_) rfl (by kernel_rfl) (by kernel_rfl) (by kernel_rfl) (fun _ _ _ h => h) (Or.inl ⟨by rfl, ?_⟩) (by assumption) ?_
          rotate_left
          · (intro W hSw; (try dsimp only at hSw); go_simp <;> with_reducible rfl)
          (try simp only [Act.put, List.getElem_toArray, List.getElem_cons_succ, List.getElem_cons_zero, List.setIfInBounds_toArray, List.set_cons_succ, List.set_cons_zero])
          obtain ⟨y0, y1, y2, yf⟩ := (S6.out.bk 1 rfl).c3
          refine wpAnyH_ready (rs := [10]) (by kernel_rfl) (by simp) ?_
          refine AllReadyH.cons rfl (fun K hK => ?_) AllReadyH.nil
          go_simp
          have S7 := Lib.hid (((S6.out.boxSet 1 rfl 0 (.slice A4 s.st.length a4)).boxSet 1 rfl 1 (.slice A6 s.st.length a6)).boxSet 1 rfl 2 (.slice none 0 0))
          simp only [List.set_cons_zero, List.set_cons_succ] at S7
          refine hK.out _ _ (CE.out _ (((B6.out.setCell (by exact hg0) _).setCell (by exact hg0) _).setCell (by exact hg0) _)) (fun hHeld7 => ?_)
          clear hK K y0 y1 y2 yf S6
          refine wpAnyH_done (by kernel_rfl) ?_ _
          go_wp2_with fail
          go_meet
          case rel => exact ⟨_, _, _, _, _, _, _, rfl, (((S7.out.pick 2 rfl).pick 1 rfl).pick 2 rfl)⟩
        refine AllReadyH.cons rfl (fun K hK => ?_) AllReadyH.nil
        go_simp
        have S4 := Lib.hid (S3.out.box 30 [.slice none 0 0, .slice none 0 0, .slice none 0 0])
        have B4 := Lib.hid (B3.out.alloc B3.out.size (.cells #[.slice none 0 0, .slice none 0 0, .slice none 0 0] 30))
        have hg0 : wq.heap.size ≤ w3.heap.size := B3.out.size
        refine hK.out _ _ (CE.out _ B4.out) (fun hHeld4 => ?_)
        generalize hgg : w3.heap.size = gb at S4 B4 hg0 hHeld4 ⊢
        generalize World.alloc w3 _ = w4 at S4 B4 hHeld4 ⊢
        clear hK K hgg S3 B3
        refine wpAnyH_ready (rs := [3]) (by kernel_rfl) (by simp) ?_
        refine AllReadyH.cons rfl (fun K hK => ?_) AllReadyH.nil
        have SP := Lib.hid (S4.out.pick 2 rfl)
        simp only [List.eraseIdx_cons_succ, List.eraseIdx_cons_zero] at SP
        have OW := Lib.hid (own_flat (SP.out.own 0 rfl).1).1
        refine step_app_rd rfl (.tmp 6) (.tmp 8) 22 (by rfl) Try.underlying22 w.heap.size (.slice (some ⟨e2, 0, none⟩) 0 0) [] s.st (by rfl) (by exact OW.out) _ (by rfl) (by exact Q1.out.below S4.out.1 (Nat.le_refl _)) N1.out (by simp only [List.length_nil]; omega) S4.out.1.size ?_
        intro v5 w5 hown hg hat
        have S5 := Lib.hid (SP.out.appRow (by exact hown) hg hat)
        obtain ⟨A5, a5, rfl⟩ : ∃ A c, v5 = .slice A s.st.length c := slice_ints (S5.out.rd 0 rfl)
        have B5 := Lib.hid (B4.out.grown hg B4.out.size (fun k hk => by simp [Value.ownBlock] at hk; have := he2; omega))
        refine hK.out _ _ (CE.out _ B5.out) (fun hHeld5 => ?_)
        clear hK K hown hg hat SP OW S4 B4
        refine wpAnyH_ready (rs := [7]) (by kernel_rfl) (by simp) ?_
        refine AllReadyH.cons rfl (fun K hK => ?_) AllReadyH.nil
        have SP := Lib.hid (S5.out.pick 2 rfl)
        simp only [List.eraseIdx_cons_succ, List.eraseIdx_cons_zero] at SP
        have OW := Lib.hid (own_flat (SP.out.own 0 rfl).1).1
        refine step_app_rd rfl (.tmp 10) (.tmp 12) 22 (by rfl) Try.underlying22 w.heap.size (.slice (some ⟨e3, 0, none⟩) 0 0) [] s.st (by rfl) (by exact OW.out) _ (by rfl) (by exact Q1.out.below S5.out.1 (Nat.le_refl _)) N1.out (by simp only [List.length_nil]; omega) S5.out.1.size ?_
        intro v6 w6 hown hg hat
        have S6 := Lib.hid (SP.out.appRow (by exact hown) hg hat)
        obtain ⟨A6, a6, rfl⟩ : ∃ A c, v6 = .slice A s.st.length c := slice_ints (S6.out.rd 0 rfl)
        have B6 := Lib.hid (B5.out.grown hg B5.out.size (fun k hk => by simp [Value.ownBlock] at hk; have := he3; omega))
        refine hK.out _ _ (CE.out _ B6.out) (fun hHeld6 => ?_)
        clear hK K hown hg hat SP OW S5 B5
        refine wpAnyH_take (i := 8) (v := ?_) rfl (by kernel_rfl) (by kernel_rfl) (by kernel_rfl) (fun _ _ _ h => h) (Or.inl ⟨by rfl, ?_⟩) (by assumption) ?_
        rotate_left
        · (intro W hSw; (try dsimp only at hSw); go_simp <;> with_reducible rfl)
        (try simp only [Act.put, List.getElem_toArray, List.getElem_cons_succ, List.getElem_cons_zero, List.setIfInBounds_toArray, List.set_cons_succ, List.set_cons_zero])
        obtain ⟨y0, y1, y2, yf⟩ := (S6.out.bk 2 rfl).c3
        refine wpAnyH_ready (rs := [10]) (by kernel_rfl) (by simp) ?_
        refine AllReadyH.cons rfl (fun K hK => ?_) AllReadyH.nil
        go_simp
        have S7 := Lib.hid (((S6.out.boxSet 2 rfl 0 (.slice A5 s.st.length a5)).boxSet 2 rfl 1 (.slice A6 s.st.length a6)).boxSet 2 rfl 2 (.slice none 0 0))
        simp only [List.set_cons_zero, List.set_cons_succ] at S7
        refine hK.out _ _ (CE.out _ (((B6.out.setCell (by exact hg0) _).setCell (by exact hg0) _).setCell (by exact hg0) _)) (fun hHeld7 => ?_)
        clear hK K y0 y1 y2 yf S6
        refine wpAnyH_done (by kernel_rfl) ?_ _
        go_wp2_with fail
        go_meet
        case rel => exact ⟨_, _, _, _, _, _, _, rfl, (((S7.out.pick 1 rfl).pick 1 rfl).pick 2 rfl)⟩
      refine AllReadyH.cons rfl (fun K hK => ?_) AllReadyH.nil
      go_simp
      have S3 := Lib.hid (S2.out.box 30 [.slice none 0 0, .slice none 0 0, .slice none 0 0])
      have B3 := Lib.hid (B2.out.alloc B2.out.size (.cells #[.slice none 0 0, .slice none 0 0, .slice none 0 0] 30))
      have hg0 : wq.heap.size ≤ w2.heap.size := B2.out.size
      refine hK.out _ _ (CE.out _ B3.out) (fun hHeld3 => ?_)
      generalize hgg : w2.heap.size = gb at S3 B3 hg0 hHeld3 ⊢
      generalize World.alloc w2 _ = w3 at S3 B3 hHeld3 ⊢
      clear hK K hgg S2 B2
      refine wpAnyH_ready (rs := [3, 4]) (by kernel_rfl) (by simp) ?_
      refine AllReadyH.cons rfl (fun K hK => ?_) ?_
      · have SP := Lib.hid (S3.out.pick 1 rfl)
        simp only [List.eraseIdx_cons_succ, List.eraseIdx_cons_zero] at SP
        have OW := Lib.hid (own_flat (SP.out.own 0 rfl).1).1
        refine step_app_rd rfl (.tmp 6) (.tmp 8) 22 (by rfl) Try.underlying22 w.heap.size (.slice (some ⟨e2, 0, none⟩) 0 0) [] s.st (by rfl) (by exact OW.out) _ (by rfl) (by exact Q1.out.below S3.out.1 (Nat.le_refl _)) N1.out (by simp only [List.length_nil]; omega) S3.out.1.size ?_
        intro v4 w4 hown hg hat
        have S4 := Lib.hid (SP.out.appRow (by exact hown) hg hat)
        obtain ⟨A4, a4, rfl⟩ : ∃ A c, v4 = .slice A s.st.length c := slice_ints (S4.out.rd 0 rfl)
        have B4 := Lib.hid (B3.out.grown hg B3.out.size (fun k hk => by simp [Value.ownBlock] at hk; have := he2; omega))
        refine hK.out _ _ (CE.out _ B4.out) (fun hHeld4 => ?_)
        clear hK K hown hg hat SP OW S3 B3
        refine wpAnyH_ready (rs := [4]) (by kernel_rfl) (by simp) ?_
        refine AllReadyH.cons rfl (fun K hK => ?_) AllReadyH.nil
        go_simp
        have S5 := Lib.hid (S4.out.emptyI)
        have B5 := Lib.hid (B4.out.alloc B4.out.size (.cells #[] 3))
        have he5 : wq.heap.size ≤ w4.heap.size := B4.out.size
        refine hK.out _ _ (CE.out _ B5.out) (fun hHeld5 => ?_)
        generalize hge : w4.heap.size = e5 at S5 B5 he5 hHeld5 ⊢
        generalize World.alloc w4 _ = w5 at S5 B5 hHeld5 ⊢
        clear hK K hge S4 B4
        refine wpAnyH_ready (rs := [7]) (by kernel_rfl) (by simp) ?_
        refine AllReadyH.cons rfl (fun K hK => ?_) AllReadyH.nil
        have SP := Lib.hid (S5.out.pick 0 rfl)
        simp only [List.eraseIdx_cons_zero] at SP
        have OW := Lib.hid (own_flat (SP.out.own 0 rfl).1).1
        refine step_app_rd rfl (.tmp 10) (.tmp 12) 22 (by rfl) Try.underlying22 w.heap.size (.slice (some ⟨e5, 0, none⟩) 0 0) [] s.st (by rfl) (by exact OW.out) _ (by rfl) (by exact Q1.out.below S5.out.1 (Nat.le_refl _)) N1.out (by simp only [List.length_nil]; omega) S5.out.1.size ?_
        intro v6 w6 hown hg hat
        have S6 := Lib.hid (SP.out.appRow (by exact hown) hg hat)
        obtain ⟨A6, a6, rfl⟩ : ∃ A c, v6 = .slice A s.st.length c := slice_ints (S6.out.rd 0 rfl)
        have B6 := Lib.hid (B5.out.grown hg B5.out.size (fun k hk => by simp [Value.ownBlock] at hk; have := he5; omega))
        refine hK.out _ _ (CE.out _ B6.out) (fun hHeld6 => ?_)
        clear hK K hown hg hat SP OW S5 B5
        refine wpAnyH_take (i := 8) (v := ?_) rfl (by kernel_rfl) (by kernel_rfl) (by kernel_rfl) (fun _ _ _ h => h) (Or.inl ⟨by rfl, ?_⟩) (by assumption) ?_
        rotate_left
        · (intro W hSw; (try dsimp only at hSw); go_simp <;> with_reducible rfl)
        (try simp only [Act.put, List.getElem_toArray, List.getElem_cons_succ, List.getElem_cons_zero, List.setIfInBounds_toArray, List.set_cons_succ, List.set_cons_zero])
        obtain ⟨y0, y1, y2, yf⟩ := (S6.out.bk 2 rfl).c3
        refine wpAnyH_ready (rs := [10]) (by kernel_rfl) (by simp) ?_
        refine AllReadyH.cons rfl (fun K hK => ?_) AllReadyH.nil
        go_simp
        have S7 := Lib.hid (((S6.out.boxSet 2 rfl 0 (.slice A4 s.st.length a4)).boxSet 2 rfl 1 (.slice A6 s.st.length a6)).boxSet 2 rfl 2 (.slice none 0 0))
        simp only [List.set_cons_zero, List.set_cons_succ] at S7
        refine hK.out _ _ (CE.out _ (((B6.out.setCell (by exact hg0) _).setCell (by exact hg0) _).setCell (by exact hg0) _)) (fun hHeld7 => ?_)
        clear hK K y0 y1 y2 yf S6
        refine wpAnyH_done (by kernel_rfl) ?_ _
        go_wp2_with fail
        go_meet
        case rel => exact ⟨_, _, _, _, _, _, _, rfl, (((S7.out.pick 1 rfl).pick 1 rfl).pick 2 rfl)⟩
      refine AllReadyH.cons rfl (fun K hK => ?_) AllReadyH.nil
      go_simp
      have S4 := Lib.hid (S3.out.emptyI)
      have B4 := Lib.hid (B3.out.alloc B3.out.size (.cells #[] 3))
      have he4 : wq.heap.size ≤ w3.heap.size := B3.out.size
      refine hK.out _ _ (CE.out _ B4.out) (fun hHeld4 => ?_)
      generalize hge : w3.heap.size = e4 at S4 B4 he4 hHeld4 ⊢
      generalize World.alloc w3 _ = w4 at S4 B4 hHeld4 ⊢
      clear hK K hge S3 B3
      refine wpAnyH_ready (rs := [3]) (by kernel_rfl) (by simp) ?_
      refine AllReadyH.cons rfl (fun K hK => ?_) AllReadyH.nil
      have SP := Lib.hid (S4.out.pick 2 rfl)
      simp only [List.eraseIdx_cons_succ, List.eraseIdx_cons_zero] at SP
      have OW := Lib.hid (own_flat (SP.out.own 0 rfl).1).1
      refine step_app_rd rfl (.tmp 6) (.tmp 8) 22 (by rfl) Try.underlying22 w.heap.size (.slice (some ⟨e2, 0, none⟩) 0 0) [] s.st (by rfl) (by exact OW.out) _ (by rfl) (by exact Q1.out.below S4.out.1 (Nat.le_refl _)) N1.out (by simp only [List.length_nil]; omega) S4.out.1.size ?_
      intro v5 w5 hown hg hat
      have S5 := Lib.hid (SP.out.appRow (by exact hown) hg hat)
      obtain ⟨A5, a5, rfl⟩ : ∃ A c, v5 = .slice A s.st.length c := slice_ints (S5.out.rd 0 rfl)
      have B5 := Lib.hid (B4.out.grown hg B4.out.size (fun k hk => by simp [Value.ownBlock] at hk; have := he2; omega))
      refine hK.out _ _ (CE.out _ B5.out) (fun hHeld5 => ?_)
      clear hK K hown hg hat SP OW S4 B4
      refine wpAnyH_ready (rs := [7]) (by kernel_rfl) (by simp) ?_
      refine AllReadyH.cons rfl (fun K hK => ?_) AllReadyH.nil
      have SP := Lib.hid (S5.out.pick 1 rfl)
      simp only [List.eraseIdx_cons_succ, List.eraseIdx_cons_zero] at SP
      have OW := Lib.hid (own_flat (SP.out.own 0 rfl).1).1
      refine step_app_rd rfl (.tmp 10) (.tmp 12) 22 (by rfl) Try.underlying22 w.heap.size (.slice (some ⟨e4, 0, none⟩) 0 0) [] s.st (by rfl) (by exact OW.out) _ (by rfl) (by exact Q1.out.below S5.out.1 (Nat.le_refl _)) N1.out (by simp only [List.length_nil]; omega) S5.out.1.size ?_
      intro v6 w6 hown hg hat
      have S6 := Lib.hid (SP.out.appRow (by exact hown) hg hat)
      obtain ⟨A6, a6, rfl⟩ : ∃ A c, v6 = .slice A s.st.length c := slice_ints (S6.out.rd 0 rfl)
      have B6 := Lib.hid (B5.out.grown hg B5.out.size (fun k hk => by simp [Value.ownBlock] at hk; have := he4; omega))
      refine hK.out _ _ (CE.out _ B6.out) (fun hHeld6 => ?_)
      clear hK K hown hg hat SP OW S5 B5
      refine wpAnyH_take (i := 8) (v := ?_) rfl (by kernel_rfl) (by kernel_rfl) (by kernel_rfl) (fun _ _ _ h => h) (Or.inl ⟨by rfl, ?_⟩) (by assumption) ?_
      rotate_left
      · (intro W hSw; (try dsimp only at hSw); go_simp <;> with_reducible rfl)
      (try simp only [Act.put, List.getElem_toArray, List.getElem_cons_succ, List.getElem_cons_zero, List.setIfInBounds_toArray, List.set_cons_succ, List.set_cons_zero])
      obtain ⟨y0, y1, y2, yf⟩ := (S6.out.bk 2 rfl).c3
      refine wpAnyH_ready (rs := [10]) (by kernel_rfl) (by simp) ?_
      refine AllReadyH.cons rfl (fun K hK => ?_) AllReadyH.nil
      go_simp
      have S7 := Lib.hid (((S6.out.boxSet 2 rfl 0 (.slice A5 s.st.length a5)).boxSet 2 rfl 1 (.slice A6 s.st.length a6)).boxSet 2 rfl 2 (.slice none 0 0))
      simp only [List.set_cons_zero, List.set_cons_succ] at S7
      refine hK.out _ _ (CE.out _ (((B6.out.setCell (by exact hg0) _).setCell (by exact hg0) _).setCell (by exact hg0) _)) (fun hHeld7 => ?_)
      clear hK K y0 y1 y2 yf S6
      refine wpAnyH_done (by kernel_rfl) ?_ _
      go_wp2_with fail
      go_meet
      case rel => exact ⟨_, _, _, _, _, _, _, rfl, (((S7.out.pick 1 rfl).pick 1 rfl).pick 2 rfl)⟩
    refine AllReadyH.cons rfl (fun K hK => ?_) ?_
    · go_simp
      have S2 := Lib.hid (S1.out.emptyI)
      have B2 := Lib.hid (B0.out.alloc B0.out.size (.cells #[] 3))
      have he2 : wq.heap.size ≤ wd.heap.size := B0.out.size
      refine hK.out _ _ (CE.out _ B2.out) (fun hHeld2 => ?_)
      generalize hge : wd.heap.size = e2 at S2 B2 he2 hHeld2 ⊢
      generalize World.alloc wd _ = w2 at S2 B2 hHeld2 ⊢
      clear hK K hge S1 B0
      refine wpAnyH_ready (rs := [0, 9]) (by kernel_rfl) (by simp) ?_
      refine AllReadyH.cons rfl (fun K hK => ?_) ?_
      · go_simp
        have S3 := Lib.hid (S2.out.emptyI)
        have B3 := Lib.hid (B2.out.alloc B2.out.size (.cells #[] 3))
        have he3 : wq.heap.size ≤ w2.heap.size := B2.out.size
        refine hK.out _ _ (CE.out _ B3.out) (fun hHeld3 => ?_)
        generalize hge : w2.heap.size = e3 at S3 B3 he3 hHeld3 ⊢
        generalize World.alloc w2 _ = w3 at S3 B3 hHeld3 ⊢
        clear hK K hge S2 B2
        refine wpAnyH_ready (rs := [3, 9]) (by kernel_rfl) (by simp) ?_
        refine AllReadyH.cons rfl (fun K hK => ?_) ?_
        · have SP := Lib.hid (S3.out.pick 0 rfl)
          simp only [List.eraseIdx_cons_zero] at SP
          have OW := Lib.hid (own_flat (SP.out.own 0 rfl).1).1
          refine step_app_rd rfl (.tmp 6) (.tmp 8) 22 (by rfl) Try.underlying22 w.heap.size (.slice (some ⟨e3, 0, none⟩) 0 0) [] s.st (by rfl) (by exact OW.out) _ (by rfl) (by exact Q1.out.below S3.out.1 (Nat.le_refl _)) N1.out (by simp only [List.length_nil]; omega) S3.out.1.size ?_
          intro v4 w4 hown hg hat
          have S4 := Lib.hid (SP.out.appRow (by exact hown) hg hat)
          obtain ⟨A4, a4, rfl⟩ : ∃ A c, v4 = .slice A s.st.length c := slice_ints (S4.out.rd 0 rfl)
          have B4 := Lib.hid (B3.out.grown hg B3.out.size (fun k hk => by simp [Value.ownBlock] at hk; have := he3; omega))
          refine hK.out _ _ (CE.out _ B4.out) (fun hHeld4 => ?_)
          clear hK K hown hg hat SP OW S3 B3
          refine wpAnyH_ready (rs := [7, 9]) (by kernel_rfl) (by simp) ?_
          refine AllReadyH.cons rfl (fun K hK => ?_) ?_
          · have SP := Lib.hid (S4.out.pick 1 rfl)
            simp only [List.eraseIdx_cons_succ, List.eraseIdx_cons_zero] at SP
            have OW := Lib.hid (own_flat (SP.out.own 0 rfl).1).1
            refine step_app_rd rfl (.tmp 10) (.tmp 12) 22 (by rfl) Try.underlying22 w.heap.size (.slice (some ⟨e2, 0, none⟩) 0 0) [] s.st (by rfl) (by exact OW.out) _ (by rfl) (by exact Q1.out.below S4.out.1 (Nat.le_refl _)) N1.out (by simp only [List.length_nil]; omega) S4.out.1.size ?_
            intro v5 w5 hown hg hat
            have S5 := Lib.hid (SP.out.appRow (by exact hown) hg hat)
            obtain ⟨A5, a5, rfl⟩ : ∃ A c, v5 = .slice A s.st.length c := slice_ints (S5.out.rd 0 rfl)
            have B5 := Lib.hid (B4.out.grown hg B4.out.size (fun k hk => by simp [Value.ownBlock] at hk; have := he2; omega))
            refine hK.out _ _ (CE.out _ B5.out) (fun hHeld5 => ?_)
            clear hK K hown hg hat SP OW S4 B4
            refine wpAnyH_take (i := 8) (v := ?_) rfl (by kernel_rfl) (by kernel_rfl) (by kernel_rfl) (fun _ _ _ h => h) (Or.inl ⟨by rfl, ?_⟩) (by assumption) ?_
            rotate_left
            · (intro W hSw; (try dsimp only at hSw); go_simp <;> with_reducible rfl)
            (try simp only [Act.put, List.getElem_toArray, List.getElem_cons_succ, List.getElem_cons_zero, List.setIfInBounds_toArray, List.set_cons_succ, List.set_cons_zero])
            refine wpAnyH_ready (rs := [9]) (by kernel_rfl) (by simp) ?_
            refine AllReadyH.cons rfl (fun K hK => ?_) AllReadyH.nil
            go_simp
            have S6 := Lib.hid (S5.out.box 30 [.slice none 0 0, .slice none 0 0, .slice none 0 0])
            have B6 := Lib.hid (B5.out.alloc B5.out.size (.cells #[.slice none 0 0, .slice none 0 0, .slice none 0 0] 30))
            have hg0 : wq.heap.size ≤ w5.heap.size := B5.out.size
            refine hK.out _ _ (CE.out _ B6.out) (fun hHeld6 => ?_)
            generalize hgg : w5.heap.size = gb at S6 B6 hg0 hHeld6 ⊢
            generalize World.alloc w5 _ = w6 at S6 B6 hHeld6 ⊢
            clear hK K hgg S5 B5
            obtain ⟨y0, y1, y2, yf⟩ := (S6.out.bk 0 rfl).c3
            refine wpAnyH_ready (rs := [10]) (by kernel_rfl) (by simp) ?_
            refine AllReadyH.cons rfl (fun K hK => ?_) AllReadyH.nil
            go_simp
            have S7 := Lib.hid (((S6.out.boxSet 0 rfl 0 (.slice A4 s.st.length a4)).boxSet 0 rfl 1 (.slice A5 s.st.length a5)).boxSet 0 rfl 2 (.slice none 0 0))
            simp only [List.set_cons_zero, List.set_cons_succ] at S7
            refine hK.out _ _ (CE.out _ (((B6.out.setCell (by exact hg0) _).setCell (by exact hg0) _).setCell (by exact hg0) _)) (fun hHeld7 => ?_)
            clear hK K y0 y1 y2 yf S6
            refine wpAnyH_done (by kernel_rfl) ?_ _
            go_wp2_with fail
            go_meet
            case rel => exact ⟨_, _, _, _, _, _, _, rfl, (((S7.out.pick 2 rfl).pick 2 rfl).pick 2 rfl)⟩
          refine AllReadyH.cons rfl (fun K hK => ?_) AllReadyH.nil
          go_simp
          have S5 := Lib.hid (S4.out.box 30 [.slice none 0 0, .slice none 0 0, .slice none 0 0])
          have B5 := Lib.hid (B4.out.alloc B4.out.size (.cells #[.slice none 0 0, .slice none 0 0, .slice none 0 0] 30))
          have hg0 : wq.heap.size ≤ w4.heap.size := B4.out.size
          refine hK.out _ _ (CE.out _ B5.out) (fun hHeld5 => ?_)
          generalize hgg : w4.heap.size = gb at S5 B5 hg0 hHeld5 ⊢
          generalize World.alloc w4 _ = w5 at S5 B5 hHeld5 ⊢
          clear hK K hgg S4 B4
          refine wpAnyH_ready (rs := [7]) (by kernel_rfl) (by simp) ?_
          refine AllReadyH.cons rfl (fun K hK => ?_) AllReadyH.nil
          have SP := Lib.hid (S5.out.pick 2 rfl)
          simp only [List.eraseIdx_cons_succ, List.eraseIdx_cons_zero] at SP
          have OW := Lib.hid (own_flat (SP.out.own 0 rfl).1).1
          refine step_app_rd rfl (.tmp 10) (.tmp 12) 22 (by rfl) Try.underlying22 w.heap.size (.slice (some ⟨e2, 0, none⟩) 0 0) [] s.st (by rfl) (by exact OW.out) _ (by rfl) (by exact Q1.out.below S5.out.1 (Nat.le_refl _)) N1.out (by simp only [List.length_nil]; omega) S5.out.1.size ?_
          intro v6 w6 hown hg hat
          have S6 := Lib.hid (SP.out.appRow (by exact hown) hg hat)
          obtain ⟨A6, a6, rfl⟩ : ∃ A c, v6 = .slice A s.st.length c := slice_ints (S6.out.rd 0 rfl)
          have B6 := Lib.hid (B5.out.grown hg B5.out.size (fun k hk => by simp [Value.ownBlock] at hk; have := he2; omega))
          refine hK.out _ _ (CE.out _ B6.out) (fun hHeld6 => ?_)
          clear hK K hown hg hat SP OW S5 B5
          refine wpAnyH_take (i := 8) (v := ?_) rfl (by kernel_rfl) (by kernel_rfl) (by kernel_rfl) (fun _ _ _ h => h) (Or.inl ⟨by rfl, ?_⟩) (by assumption) ?_
          rotate_left
          · (intro W hSw; (try dsimp only at hSw); go_simp <;> with_reducible rfl)
          (try simp only [Act.put, List.getElem_toArray, List.getElem_cons_succ, List.getElem_cons_zero, List.setIfInBounds_toArray, List.set_cons_succ, List.set_cons_zero])
          obtain ⟨y0, y1, y2, yf⟩ := (S6.out.bk 1 rfl).c3
          refine wpAnyH_ready (rs := [10]) (by kernel_rfl) (by simp) ?_
          refine AllReadyH.cons rfl (fun K hK => ?_) AllReadyH.nil
          go_simp
          have S7 := Lib.hid (((S6.out.boxSet 1 rfl 0 (.slice A4 s.st.length a4)).boxSet 1 rfl 1 (.slice A6 s.st.length a6)).boxSet 1 rfl 2 (.slice none 0 0))
          simp only [List.set_cons_zero, List.set_cons_succ] at S7
          refine hK.out _ _ (CE.out _ (((B6.out.setCell (by exact hg0) _).setCell (by exact hg0) _).setCell (by exact hg0) _)) (fun hHeld7 => ?_)
          clear hK K y0 y1 y2 yf S6
          refine wpAnyH_done (by kernel_rfl) ?_ _
          go_wp2_with fail
          go_meet
          case rel => exact ⟨_, _, _, _, _, _, _, rfl, (((S7.out.pick 2 rfl).pick 1 rfl).pick 2 rfl)⟩
        refine AllReadyH.cons rfl (fun K hK => ?_) AllReadyH.nil
        go_simp
        have S4 := Lib.hid (S3.out.box 30 [.slice none 0 0, .slice none 0 0, .slice none 0 0])
        have B4 := Lib.hid (B3.out.alloc B3.out.size (.cells #[.slice none 0 0, .slice none 0 0, .slice none 0 0] 30))
        have hg0 : wq.heap.size ≤ w3.heap.size := B3.out.size
        refine hK.out _ _ (CE.out _ B4.out) (fun hHeld4 => ?_)
        generalize hgg : w3.heap.size = gb at S4 B4 hg0 hHeld4 ⊢
        generalize World.alloc w3 _ = w4 at S4 B4 hHeld4 ⊢
        clear hK K hgg S3 B3
        refine wpAnyH_ready (rs := [3]) (by kernel_rfl) (by simp) ?_
        refine AllReadyH.cons rfl (fun K hK => ?_) AllReadyH.nil
        have SP := Lib.hid (S4.out.pick 1 rfl)
        simp only [List.eraseIdx_cons_succ, List.eraseIdx_cons_zero] at SP
        have OW := Lib.hid (own_flat (SP.out.own 0 rfl).1).1
        refine step_app_rd rfl (.tmp 6) (.tmp 8) 22 (by rfl) Try.underlying22 w.heap.size (.slice (some ⟨e3, 0, none⟩) 0 0) [] s.st (by rfl) (by exact OW.out) _ (by rfl) (by exact Q1.out.below S4.out.1 (Nat.le_refl _)) N1.out (by simp only [List.length_nil]; omega) S4.out.1.size ?_
        intro v5 w5 hown hg hat
        have S5 := Lib.hid (SP.out.appRow (by exact hown) hg hat)
        obtain ⟨A5, a5, rfl⟩ : ∃ A c, v5 = .slice A s.st.length c := slice_ints (S5.out.rd 0 rfl)
        have B5 := Lib.hid (B4.out.grown hg B4.out.size (fun k hk => by simp [Value.ownBlock] at hk; have := he3; omega))
        refine hK.out _ _ (CE.out _ B5.out) (fun hHeld5 => ?_)
        clear hK K hown hg hat SP OW S4 B4
        refine wpAnyH_ready (rs := [7]) (by kernel_rfl) (by simp) ?_
        refine AllReadyH.cons rfl (fun K hK => ?_) AllReadyH.nil
        have SP := Lib.hid (S5.out.pick 2 rfl)
        simp only [List.eraseIdx_cons_succ, List.eraseIdx_cons_zero] at SP
        have OW := Lib.hid (own_flat (SP.out.own 0 rfl).1).1
        refine step_app_rd rfl (.tmp 10) (.tmp 12) 22 (by rfl) Try.underlying22 w.heap.size (.slice (some ⟨e2, 0, none⟩) 0 0) [] s.st (by rfl) (by exact OW.out) _ (by rfl) (by exact Q1.out.below S5.out.1 (Nat.le_refl _)) N1.out (by simp only [List.length_nil]; omega) S5.out.1.size ?_
        intro v6 w6 hown hg hat
        have S6 := Lib.hid (SP.out.appRow (by exact hown) hg hat)
        obtain ⟨A6, a6, rfl⟩ : ∃ A c, v6 = .slice A s.st.length c := slice_ints (S6.out.rd 0 rfl)
        have B6 := Lib.hid (B5.out.grown hg B5.out.size (fun k hk => by simp [Value.ownBlock] at hk; have := he2; omega))
        refine hK.out _ _ (CE.out _ B6.out) (fun hHeld6 => ?_)
        clear hK K hown hg hat SP OW S5 B5
        refine wpAnyH_take (i := 8) (v := ?_) rfl (by kernel_rfl) (by kernel_rfl) (by kernel_rfl) (fun _ _ _ h => h) (Or.inl ⟨by rfl, ?_⟩) (by assumption) ?_
        rotate_left
        · (intro W hSw; (try dsimp only at hSw); go_simp <;> with_reducible rfl)
        (try simp only [Act.put, List.getElem_toArray, List.getElem_cons_succ, List.getElem_cons_zero, List.setIfInBounds_toArray, List.set_cons_succ, List.set_cons_zero])
        obtain ⟨y0, y1, y2, yf⟩ := (S6.out.bk 2 rfl).c3
        refine wpAnyH_ready (rs := [10]) (by kernel_rfl) (by simp) ?_
        refine AllReadyH.cons rfl (fun K hK => ?_) AllReadyH.nil
        go_simp
        have S7 := Lib.hid (((S6.out.boxSet 2 rfl 0 (.slice A5 s.st.length a5)).boxSet 2 rfl 1 (.slice A6 s.st.length a6)).boxSet 2 rfl 2 (.slice none 0 0))
        simp only [List.set_cons_zero, List.set_cons_succ] at S7
        refine hK.out _ _ (CE.out _ (((B6.out.setCell (by exact hg0) _).setCell (by exact hg0) _).setCell (by exact hg0) _)) (fun hHeld7 => ?_)
        clear hK K y0 y1 y2 yf S6
        refine wpAnyH_done (by kernel_rfl) ?_ _
        go_wp2_with fail
        go_meet
        case rel => exact ⟨_, _, _, _, _, _, _, rfl, (((S7.out.pick 1 rfl).pick 1 rfl).pick 2 rfl)⟩
      refine AllReadyH.cons rfl (fun K hK => ?_) AllReadyH.nil
      go_simp
      have S3 := Lib.hid (S2.out.box 30 [.slice none 0 0, .slice none 0 0, .slice none 0 0])
      have B3 := Lib.hid (B2.out.alloc B2.out.size (.cells #[.slice none 0 0, .slice none 0 0, .slice none 0 0] 30))
      have hg0 : wq.heap.size ≤ w2.heap.size := B2.out.size
      refine hK.out _ _ (CE.out _ B3.out) (fun hHeld3 => ?_)
      generalize hgg : w2.heap.size = gb at S3 B3 hg0 hHeld3 ⊢
      generalize World.alloc w2 _ = w3 at S3 B3 hHeld3 ⊢
      clear hK K hgg S2 B2
      refine wpAnyH_ready (rs := [0]) (by kernel_rfl) (by simp) ?_
      refine AllReadyH.cons rfl (fun K hK => ?_) AllReadyH.nil
      go_simp
      have S4 := Lib.hid (S3.out.emptyI)
      have B4 := Lib.hid (B3.out.alloc B3.out.size (.cells #[] 3))
      have he4 : wq.heap.size ≤ w3.heap.size := B3.out.size
      refine hK.out _ _ (CE.out _ B4.out) (fun hHeld4 => ?_)
      generalize hge : w3.heap.size = e4 at S4 B4 he4 hHeld4 ⊢
      generalize World.alloc w3 _ = w4 at S4 B4 hHeld4 ⊢
      clear hK K hge S3 B3
      refine wpAnyH_ready (rs := [3]) (by kernel_rfl) (by simp) ?_
      refine AllReadyH.cons rfl (fun K hK => ?_) AllReadyH.nil
      have SP := Lib.hid (S4.out.pick 0 rfl)
      simp only [List.eraseIdx_cons_zero] at SP
      have OW := Lib.hid (own_flat (SP.out.own 0 rfl).1).1
      refine step_app_rd rfl (.tmp 6) (.tmp 8) 22 (by rfl) Try.underlying22 w.heap.size (.slice (some ⟨e4, 0, none⟩) 0 0) [] s.st (by rfl) (by exact OW.out) _ (by rfl) (by exact Q1.out.below S4.out.1 (Nat.le_refl _)) N1.out (by simp only [List.length_nil]; omega) S4.out.1.size ?_
      intro v5 w5 hown hg hat
      have S5 := Lib.hid (SP.out.appRow (by exact hown) hg hat)
      obtain ⟨A5, a5, rfl⟩ : ∃ A c, v5 = .slice A s.st.length c := slice_ints (S5.out.rd 0 rfl)
      have B5 := Lib.hid (B4.out.grown hg B4.out.size (fun k hk => by simp [Value.ownBlock] at hk; have := he4; omega))
      refine hK.out _ _ (CE.out _ B5.out) (fun hHeld5 => ?_)
      clear hK K hown hg hat SP OW S4 B4
      refine wpAnyH_ready (rs := [7]) (by kernel_rfl) (by simp) ?_
      refine AllReadyH.cons rfl (fun K hK => ?_) AllReadyH.nil
      have SP := Lib.hid (S5.out.pick 2 rfl)
      simp only [List.eraseIdx_cons_succ, List.eraseIdx_cons_zero] at SP
      have OW := Lib.hid (own_flat (SP.out.own 0 rfl).1).1
      refine step_app_rd rfl (.tmp 10) (.tmp 12) 22 (by rfl) Try.underlying22 w.heap.size (.slice (some ⟨e2, 0, none⟩) 0 0) [] s.st (by rfl) (by exact OW.out) _ (by rfl) (by exact Q1.out.below S5.out.1 (Nat.le_refl _)) N1.out (by simp only [List.length_nil]; omega) S5.out.1.size ?_
      intro v6 w6 hown hg hat
      have S6 := Lib.hid (SP.out.appRow (by exact hown) hg hat)
      obtain ⟨A6, a6, rfl⟩ : ∃ A c, v6 = .slice A s.st.length c := slice_ints (S6.out.rd 0 rfl)
      have B6 := Lib.hid (B5.out.grown hg B5.out.size (fun k hk => by simp [Value.ownBlock] at hk; have := he2; omega))
      refine hK.out _ _ (CE.out _ B6.out) (fun hHeld6 => ?_)
      clear hK K hown hg hat SP OW S5 B5
      refine wpAnyH_take (i := 8) (v := ?_) rfl (by kernel_rfl) (by kernel_rfl) (by kernel_rfl) (fun _ _ _ h => h) (Or.inl ⟨by rfl, ?_⟩) (by assumption) ?_
      rotate_left
      · (intro W hSw; (try dsimp only at hSw); go_simp <;> with_reducible rfl)
      (try simp only [Act.put, List.getElem_toArray, List.getElem_cons_succ, List.getElem_cons_zero, List.setIfInBounds_toArray, List.set_cons_succ, List.set_cons_zero])
      obtain ⟨y0, y1, y2, yf⟩ := (S6.out.bk 2 rfl).c3
      refine wpAnyH_ready (rs := [10]) (by kernel_rfl) (by simp) ?_
      refine AllReadyH.cons rfl (fun K hK => ?_) AllReadyH.nil
      go_simp
      have S7 := Lib.hid (((S6.out.boxSet 2 rfl 0 (.slice A5 s.st.length a5)).boxSet 2 rfl 1 (.slice A6 s.st.length a6)).boxSet 2 rfl 2 (.slice none 0 0))
      simp only [List.set_cons_zero, List.set_cons_succ] at S7
      refine hK.out _ _ (CE.out _ (((B6.out.setCell (by exact hg0) _).setCell (by exact hg0) _).setCell (by exact hg0) _)) (fun hHeld7 => ?_)
      clear hK K y0 y1 y2 yf S6
      refine wpAnyH_done (by kernel_rfl) ?_ _
      go_wp2_with fail
      go_meet
      case rel => exact ⟨_, _, _, _, _, _, _, rfl, (((S7.out.pick 1 rfl).pick 1 rfl).pick 2 rfl)⟩
    refine AllReadyH.cons rfl (fun K hK => ?_) AllReadyH.nil
    go_simp
    have S2 := Lib.hid (S1.out.box 30 [.slice none 0 0, .slice none 0 0, .slice none 0 0])
    have B2 := Lib.hid (B0.out.alloc B0.out.size (.cells #[.slice none 0 0, .slice none 0 0, .slice none 0 0] 30))
    have hg0 : wq.heap.size ≤ wd.heap.size := B0.out.size
    refine hK.out _ _ (CE.out _ B2.out) (fun hHeld2 => ?_)
    generalize hgg : wd.heap.size = gb at S2 B2 hg0 hHeld2 ⊢
    generalize World.alloc wd _ = w2 at S2 B2 hHeld2 ⊢
    clear hK K hgg S1 B0
    refine wpAnyH_ready (rs := [0, 4]) (by kernel_rfl) (by simp) ?_
    refine AllReadyH.cons rfl (fun K hK => ?_) ?_
    · go_simp
      have S3 := Lib.hid (S2.out.emptyI)
      have B3 := Lib.hid (B2.out.alloc B2.out.size (.cells #[] 3))
      have he3 : wq.heap.size ≤ w2.heap.size := B2.out.size
      refine hK.out _ _ (CE.out _ B3.out) (fun hHeld3 => ?_)
      generalize hge : w2.heap.size = e3 at S3 B3 he3 hHeld3 ⊢
      generalize World.alloc w2 _ = w3 at S3 B3 hHeld3 ⊢
      clear hK K hge S2 B2
      refine wpAnyH_ready (rs := [3, 4]) (by kernel_rfl) (by simp) ?_
      refine AllReadyH.cons rfl (fun K hK => ?_) ?_
      · have SP := Lib.hid (S3.out.pick 0 rfl)
        simp only [List.eraseIdx_cons_zero] at SP
        have OW := Lib.hid (own_flat (SP.out.own 0 rfl).1).1
        refine step_app_rd rfl (.tmp 6) (.tmp 8) 22 (by rfl) Try.underlying22 w.heap.size (.slice (some ⟨e3, 0, none⟩) 0 0) [] s.st (by rfl) (by exact OW.out) _ (by rfl) (by exact Q1.out.below S3.out.1 (Nat.le_refl _)) N1.out (by simp only [List.length_nil]; omega) S3.out.1.size ?_
        intro v4 w4 hown hg hat
        have S4 := Lib.hid (SP.out.appRow (by exact hown) hg hat)
        obtain ⟨A4, a4, rfl⟩ : ∃ A c, v4 = .slice A s.st.length c := slice_ints (S4.out.rd 0 rfl)
        have B4 := Lib.hid (B3.out.grown hg B3.out.size (fun k hk => by simp [Value.ownBlock] at hk; have := he3; omega))
        refine hK.out _ _ (CE.out _ B4.out) (fun hHeld4 => ?_)
        clear hK K hown hg hat SP OW S3 B3
        refine wpAnyH_ready (rs := [4]) (by kernel_rfl) (by simp) ?_
        refine AllReadyH.cons rfl (fun K hK => ?_) AllReadyH.nil
        go_simp
        have S5 := Lib.hid (S4.out.emptyI)
        have B5 := Lib.hid (B4.out.alloc B4.out.size (.cells #[] 3))
        have he5 : wq.heap.size ≤ w4.heap.size := B4.out.size
        refine hK.out _ _ (CE.out _ B5.out) (fun hHeld5 => ?_)
        generalize hge : w4.heap.size = e5 at S5 B5 he5 hHeld5 ⊢
        generalize World.alloc w4 _ = w5 at S5 B5 hHeld5 ⊢
        clear hK K hge S4 B4
        refine wpAnyH_ready (rs := [7]) (by kernel_rfl) (by simp) ?_
        refine AllReadyH.cons rfl (fun K hK => ?_) AllReadyH.nil
        have SP := Lib.hid (S5.out.pick 0 rfl)
        simp only [List.eraseIdx_cons_zero] at SP
        have OW := Lib.hid (own_flat (SP.out.own 0 rfl).1).1
        refine step_app_rd rfl (.tmp 10) (.tmp 12) 22 (by rfl) Try.underlying22 w.heap.size (.slice (some ⟨e5, 0, none⟩) 0 0) [] s.st (by rfl) (by exact OW.out) _ (by rfl) (by exact Q1.out.below S5.out.1 (Nat.le_refl _)) N1.out (by simp only [List.length_nil]; omega) S5.out.1.size ?_
        intro v6 w6 hown hg hat
        have S6 := Lib.hid (SP.out.appRow (by exact hown) hg hat)
        obtain ⟨A6, a6, rfl⟩ : ∃ A c, v6 = .slice A s.st.length c := slice_ints (S6.out.rd 0 rfl)
        have B6 := Lib.hid (B5.out.grown hg B5.out.size (fun k hk => by simp [Value.ownBlock] at hk; have := he5; omega))
        refine hK.out _ _ (CE.out _ B6.out) (fun hHeld6 => ?_)
        clear hK K hown hg hat SP OW S5 B5
        refine wpAnyH_take (i := 8) (v := ?_) rfl (by kernel_rfl) (by kernel_rfl) (by kernel_rfl) (fun _ _ _ h => h) (Or.inl ⟨by rfl, ?_⟩) (by assumption) ?_
        rotate_left
        · (intro W hSw; (try dsimp only at hSw); go_simp <;> with_reducible rfl)
        (try simp only [Act.put, List.getElem_toArray, List.getElem_cons_succ, List.getElem_cons_zero, List.setIfInBounds_toArray, List.set_cons_succ, List.set_cons_zero])
        obtain ⟨y0, y1, y2, yf⟩ := (S6.out.bk 2 rfl).c3
        refine wpAnyH_ready (rs := [10]) (by kernel_rfl) (by simp) ?_
        refine AllReadyH.cons rfl (fun K hK => ?_) AllReadyH.nil
        go_simp
        have S7 := Lib.hid (((S6.out.boxSet 2 rfl 0 (.slice A4 s.st.length a4)).boxSet 2 rfl 1 (.slice A6 s.st.length a6)).boxSet 2 rfl 2 (.slice none 0 0))
        simp only [List.set_cons_zero, List.set_cons_succ] at S7
        refine hK.out _ _ (CE.out _ (((B6.out.setCell (by exact hg0) _).setCell (by exact hg0) _).setCell (by exact hg0) _)) (fun hHeld7 => ?_)
        clear hK K y0 y1 y2 yf S6
        refine wpAnyH_done (by kernel_rfl) ?_ _
        go_wp2_with fail
        go_meet
        case rel => exact ⟨_, _, _, _, _, _, _, rfl, (((S7.out.pick 1 rfl).pick 1 rfl).pick 2 rfl)⟩
      refine AllReadyH.cons rfl (fun K hK => ?_) AllReadyH.nil
      go_simp
      have S4 := Lib.hid (S3.out.emptyI)
      have B4 := Lib.hid (B3.out.alloc B3.out.size (.cells #[] 3))
      have he4 : wq.heap.size ≤ w3.heap.size := B3.out.size
      refine hK.out _ _ (CE.out _ B4.out) (fun hHeld4 => ?_)
      generalize hge : w3.heap.size = e4 at S4 B4 he4 hHeld4 ⊢
      generalize World.alloc w3 _ = w4 at S4 B4 hHeld4 ⊢
      clear hK K hge S3 B3
      refine wpAnyH_ready (rs := [3]) (by kernel_rfl) (by simp) ?_
      refine AllReadyH.cons rfl (fun K hK => ?_) AllReadyH.nil
      have SP := Lib.hid (S4.out.pick 1 rfl)
      simp only [List.eraseIdx_cons_succ, List.eraseIdx_cons_zero] at SP
      have OW := Lib.hid (own_flat (SP.out.own 0 rfl).1).1
      refine step_app_rd rfl (.tmp 6) (.tmp 8) 22 (by rfl) Try.underlying22 w.heap.size (.slice (some ⟨e3, 0, none⟩) 0 0) [] s.st (by rfl) (by exact OW.out) _ (by rfl) (by exact Q1.out.below S4.out.1 (Nat.le_refl _)) N1.out (by simp only [List.length_nil]; omega) S4.out.1.size ?_
      intro v5 w5 hown hg hat
      have S5 := Lib.hid (SP.out.appRow (by exact hown) hg hat)
      obtain ⟨A5, a5, rfl⟩ : ∃ A c, v5 = .slice A s.st.length c := slice_ints (S5.out.rd 0 rfl)
      have B5 := Lib.hid (B4.out.grown hg B4.out.size (fun k hk => by simp [Value.ownBlock] at hk; have := he3; omega))
      refine hK.out _ _ (CE.out _ B5.out) (fun hHeld5 => ?_)
      clear hK K hown hg hat SP OW S4 B4
      refine wpAnyH_ready (rs := [7]) (by kernel_rfl) (by simp) ?_
      refine AllReadyH.cons rfl (fun K hK => ?_) AllReadyH.nil
      have SP := Lib.hid (S5.out.pick 1 rfl)
      simp only [List.eraseIdx_cons_succ, List.eraseIdx_cons_zero] at SP
      have OW := Lib.hid (own_flat (SP.out.own 0 rfl).1).1
      refine step_app_rd rfl (.tmp 10) (.tmp 12) 22 (by rfl) Try.underlying22 w.heap.size (.slice (some ⟨e4, 0, none⟩) 0 0) [] s.st (by rfl) (by exact OW.out) _ (by rfl) (by exact Q1.out.below S5.out.1 (Nat.le_refl _)) N1.out (by simp only [List.length_nil]; omega) S5.out.1.size ?_
      intro v6 w6 hown hg hat
      have S6 := Lib.hid (SP.out.appRow (by exact hown) hg hat)
      obtain ⟨A6, a6, rfl⟩ : ∃ A c, v6 = .slice A s.st.length c := slice_ints (S6.out.rd 0 rfl)
      have B6 := Lib.hid (B5.out.grown hg B5.out.size (fun k hk => by simp [Value.ownBlock] at hk; have := he4; omega))
      refine hK.out _ _ (CE.out _ B6.out) (fun hHeld6 => ?_)
      clear hK K hown hg hat SP OW S5 B5
      refine wpAnyH_take (i := 8) (v := ?_) rfl (by kernel_rfl) (by kernel_rfl) (by kernel_rfl) (fun _ _ _ h => h) (Or.inl ⟨by rfl, ?_⟩) (by assumption) ?_
      rotate_left
      · (intro W hSw; (try dsimp only at hSw); go_simp <;> with_reducible rfl)
      (try simp only [Act.put, List.getElem_toArray, List.getElem_cons_succ, List.getElem_cons_zero, List.setIfInBounds_toArray, List.set_cons_succ, List.set_cons_zero])
      obtain ⟨y0, y1, y2, yf⟩ := (S6.out.bk 2 rfl).c3
      refine wpAnyH_ready (rs := [10]) (by kernel_rfl) (by simp) ?_
      refine AllReadyH.cons rfl (fun K hK => ?_) AllReadyH.nil
      go_simp
      have S7 := Lib.hid (((S6.out.boxSet 2 rfl 0 (.slice A5 s.st.length a5)).boxSet 2 rfl 1 (.slice A6 s.st.length a6)).boxSet 2 rfl 2 (.slice none 0 0))
      simp only [List.set_cons_zero, List.set_cons_succ] at S7
      refine hK.out _ _ (CE.out _ (((B6.out.setCell (by exact hg0) _).setCell (by exact hg0) _).setCell (by exact hg0) _)) (fun hHeld7 => ?_)
      clear hK K y0 y1 y2 yf S6
      refine wpAnyH_done (by kernel_rfl) ?_ _
      go_wp2_with fail
      go_meet
      case rel => exact ⟨_, _, _, _, _, _, _, rfl, (((S7.out.pick 1 rfl).pick 1 rfl).pick 2 rfl)⟩
    refine AllReadyH.cons rfl (fun K hK => ?_) AllReadyH.nil
    go_simp
    have S3 := Lib.hid (S2.out.emptyI)
    have B3 := Lib.hid (B2.out.alloc B2.out.size (.cells #[] 3))
    have he3 : wq.heap.size ≤ w2.heap.size := B2.out.size
    refine hK.out _ _ (CE.out _ B3.out) (fun hHeld3 => ?_)
    generalize hge : w2.heap.size = e3 at S3 B3 he3 hHeld3 ⊢
    generalize World.alloc w2 _ = w3 at S3 B3 hHeld3 ⊢
    clear hK K hge S2 B2
    refine wpAnyH_ready (rs := [0]) (by kernel_rfl) (by simp) ?_
    refine AllReadyH.cons rfl (fun K hK => ?_) AllReadyH.nil
    go_simp
    have S4 := Lib.hid (S3.out.emptyI)
    have B4 := Lib.hid (B3.out.alloc B3.out.size (.cells #[] 3))
    have he4 : wq.heap.size ≤ w3.heap.size := B3.out.size
    refine hK.out _ _ (CE.out _ B4.out) (fun hHeld4 => ?_)
    generalize hge : w3.heap.size = e4 at S4 B4 he4 hHeld4 ⊢
    generalize World.alloc w3 _ = w4 at S4 B4 hHeld4 ⊢
    clear hK K hge S3 B3
    refine wpAnyH_ready (rs := [3]) (by kernel_rfl) (by simp) ?_
    refine AllReadyH.cons rfl (fun K hK => ?_) AllReadyH.nil
    have SP := Lib.hid (S4.out.pick 0 rfl)
    simp only [List.eraseIdx_cons_zero] at SP
    have OW := Lib.hid (own_flat (SP.out.own 0 rfl).1).1
    refine step_app_rd rfl (.tmp 6) (.tmp 8) 22 (by rfl) Try.underlying22 w.heap.size (.slice (some ⟨e4, 0, none⟩) 0 0) [] s.st (by rfl) (by exact OW.out) _ (by rfl) (by exact Q1.out.below S4.out.1 (Nat.le_refl _)) N1.out (by simp only [List.length_nil]; omega) S4.out.1.size ?_
    intro v5 w5 hown hg hat
    have S5 := Lib.hid (SP.out.appRow (by exact hown) hg hat)
    obtain ⟨A5, a5, rfl⟩ : ∃ A c, v5 = .slice A s.st.length c := slice_ints (S5.out.rd 0 rfl)
    have B5 := Lib.hid (B4.out.grown hg B4.out.size (fun k hk => by simp [Value.ownBlock] at hk; have := he4; omega))
    refine hK.out _ _ (CE.out _ B5.out) (fun hHeld5 => ?_)
    clear hK K hown hg hat SP OW S4 B4
    refine wpAnyH_ready (rs := [7]) (by kernel_rfl) (by simp) ?_
    refine AllReadyH.cons rfl (fun K hK => ?_) AllReadyH.nil
    have SP := Lib.hid (S5.out.pick 1 rfl)
    simp only [List.eraseIdx_cons_succ, List.eraseIdx_cons_zero] at SP
    have OW := Lib.hid (own_flat (SP.out.own 0 rfl).1).1
    refine step_app_rd rfl (.tmp 10) (.tmp 12) 22 (by rfl) Try.underlying22 w.heap.size (.slice (some ⟨e3, 0, none⟩) 0 0) [] s.st (by rfl) (by exact OW.out) _ (by rfl) (by exact Q1.out.below S5.out.1 (Nat.le_refl _)) N1.out (by simp only [List.length_nil]; omega) S5.out.1.size ?_
    intro v6 w6 hown hg hat
    have S6 := Lib.hid (SP.out.appRow (by exact hown) hg hat)
    obtain ⟨A6, a6, rfl⟩ : ∃ A c, v6 = .slice A s.st.length c := slice_ints (S6.out.rd 0 rfl)
    have B6 := Lib.hid (B5.out.grown hg B5.out.size (fun k hk => by simp [Value.ownBlock] at hk; have := he3; omega))
    refine hK.out _ _ (CE.out _ B6.out) (fun hHeld6 => ?_)
    clear hK K hown hg hat SP OW S5 B5
    refine wpAnyH_take (i := 8) (v := ?_) rfl (by kernel_rfl) (by kernel_rfl) (by kernel_rfl) (fun _ _ _ h => h) (Or.inl ⟨by rfl, ?_⟩) (by assumption) ?_
    rotate_left
    · (intro W hSw; (try dsimp only at hSw); go_simp <;> with_reducible rfl)
    (try simp only [Act.put, List.getElem_toArray, List.getElem_cons_succ, List.getElem_cons_zero, List.setIfInBounds_toArray, List.set_cons_succ, List.set_cons_zero])
    obtain ⟨y0, y1, y2, yf⟩ := (S6.out.bk 2 rfl).c3
    refine wpAnyH_ready (rs := [10]) (by kernel_rfl) (by simp) ?_
    refine AllReadyH.cons rfl (fun K hK => ?_) AllReadyH.nil
    go_simp
    have S7 := Lib.hid (((S6.out.boxSet 2 rfl 0 (.slice A5 s.st.length a5)).boxSet 2 rfl 1 (.slice A6 s.st.length a6)).boxSet 2 rfl 2 (.slice none 0 0))
    simp only [List.set_cons_zero, List.set_cons_succ] at S7
    refine hK.out _ _ (CE.out _ (((B6.out.setCell (by exact hg0) _).setCell (by exact hg0) _).setCell (by exact hg0) _)) (fun hHeld7 => ?_)
    clear hK K y0 y1 y2 yf S6
    refine wpAnyH_done (by kernel_rfl) ?_ _
    go_wp2_with fail
    go_meet
    case rel => exact ⟨_, _, _, _, _, _, _, rfl, (((S7.out.pick 1 rfl).pick 1 rfl).pick 2 rfl)⟩
  case rest =>
    obtain ⟨gb, A1, A2, a1, a2, F1, F2, rfl, hS⟩ := hcut
    have S2 := Lib.hid (hS.nilR 22 1 cellsI1)
    clear S0q hS S1z hlw
    obtain ⟨e0, e1, ef⟩ := (S2.out.bk 5 rfl).c2
    go_wp2_with fail
    clear e0 e1 ef
    go_loopw [18] (fun i wr => ∃ (k : Nat) (U3 : Option Addr) (u3 : Nat) (F3 : List Nat), k ≤ s.mo.length ∧ i = .int .i64 k ∧ Sn w wr [⟨trSu ((s.mo.take k).map (fun m => [m])), .slice U3 k u3, F3⟩, boxI gb 30 [.slice A1 s.st.length a1, .slice A2 s.st.length a2, .slice U3 k u3], ⟨trI s.st, .slice A2 s.st.length a2, F2⟩, ⟨trI s.st, .slice A1 s.st.length a1, F1⟩, boxI (w.heap.size + 1) 30 [.slice none 0 0, .slice none 0 0, .slice none 0 0], boxI w.heap.size 40 [.slice E1 s.st.length f1, .slice E2 s.mo.length f2]]) (fun i _ => s.mo.length - (intOf i).toNat)
    case atStart => exact ⟨0, none, 0, _, Nat.zero_le _, rfl, S2.out⟩
    case round =>
      obtain ⟨k, U3, u3, F3, hkl, rfl, hS⟩ := hrel
      have S3 := Lib.hid hS
      clear hS S2
      by_cases hlt : k < s.mo.length
      · have hlt' : (k : Int) < (s.mo.length : Int) := by omega
        have k0 : (0 : Int) ≤ (k : Int) := by omega
        obtain ⟨b3, o3, rfl, hb3, hc3⟩ := X2.out k hlt
        have z3 := (S3.out.1.cell (p := ⟨b3, o3 + k, none⟩) hb3).trans (hc3 k hlt)
        have HLN := Lib.hid (show ((s.mo.take k).map (fun m => [m])).length = k from by rw [List.length_map, List.length_take]; omega)
        have NX := Lib.hid (take_map_snoc (f := fun m => [m]) hlt)
        generalize s.mo[k] = m at z3 NX
        clear hc3
        obtain ⟨y0, y1, y2, yf⟩ := (S3.out.bk 1 rfl).c3
        have S4 := Lib.hid (S3.out.newW 3 [.int .i64 m] (by simp [maxLen]))
        have S5 := Lib.hid (show Sn w _ (⟨trI [m], .slice (some ⟨wr.heap.size, 0, none⟩) [m].length 1, [wr.heap.size]⟩ :: ⟨trSu ((s.mo.take k).map (fun m => [m])), .slice U3 k u3, F3⟩ :: _) from S4.out)
        have SW := Lib.hid S5.out.wrap
        obtain ⟨vs, G, ov, ol, hF⟩ := rowsD_raw (SW.out.own 1 rfl).1
        rw [HLN.out] at ov
        have OV := Lib.hid ov
        have OL := Lib.hid ol
        have HF := Lib.hid hF
        have hzs := S5.out.1.size
        clear ov ol hF S4 S3
        go_wp2_with (first | (at_builtin; refine wpList_append_own_at _ rfl (.tmp 23) (.tmp 26) 23 rfl w.heap.size 22 ii (.slice none 0 0) 1 24 Try.underlying23 hj0 hjz hjs hjb rfl (by decide) (.slice U3 k u3) k vs rfl (by exact OV.out.alloc _) ⟨_, 0, none⟩ 1 1 [.slice (some ⟨wr.heap.size, 0, none⟩) 1 1] rfl rfl ?c1 ?c2 ?c3 ?c4 ?c5 ?_) | fail)
        try case c1 => (intro j u hj; have h9 := one_cell (World.alloc wr (.cells #[.int .i64 m] 3)) (.slice (some ⟨wr.heap.size, 0, none⟩) 1 1) 22 j u hj; simpa only [World.size_alloc] using h9)
        try case c2 => simp [Value.oneCell']
        try case c3 => unfold maxLen; omega
        try case c4 => omega
        try case c5 => first | omega | (simp at hzs ⊢; omega)
        intro v8 w8 hown8 hg8 _ hat8
        obtain ⟨F3', h9⟩ := Sn.appG (f := cellsI1) (x := [m]) (by rw [HLN.out]) SW.out OL.out HF.out hown8 hg8 (by simpa using hat8)
        obtain ⟨U9, u9, rfl⟩ : ∃ A c, v8 = .slice A (k + 1) c := by have := rows_slice (h9.rd 0 rfl); rwa [List.length_append, HLN.out] at this
        rw [NX.out] at h9
        have S12 := Lib.hid h9
        obtain ⟨f0, f1, f2, ff⟩ := (S12.out.bk 1 rfl).c3
        have S13 := Lib.hid (S12.out.boxSet 1 rfl 2 (.slice U9 (k + 1) u9))
        simp only [List.set_cons_zero, List.set_cons_succ] at S13
        clear S12 hown8 hg8 hat8 h9 SW OV OL HF S5
        go_wp2
        go_roundw
        case rel => exact ⟨k + 1, U9, u9, F3', by omega, by go_num, S13.out⟩
        case measure => simp [intOf]; omega
      · have hge : ¬ (k : Int) < (s.mo.length : Int) := by omega
        obtain rfl : k = s.mo.length := by omega
        rw [List.take_length] at S3
        obtain ⟨y0, y1, y2, yf⟩ := (S3.out.bk 1 rfl).c3
        obtain ⟨q0, q1, q2, qf⟩ := (S3.out.bk 4 rfl).c3
        have hgr : gb ≠ w.heap.size + 1 := fun e => S3.out.2.apart (i := 1) (j := 4) rfl rfl (by omega) gb (by simp [boxI]) (by simp [boxI, e])
        go_wp2
        have SZ := ((S3.out.boxSet 4 rfl 0 (.slice A1 s.st.length a1)).boxSet 4 rfl 1 (.slice A2 s.st.length a2)).boxSet 4 rfl 2 (.slice U3 s.mo.length u3)
        have P := SZ.nil0
        have P := (P.pick 1 rfl).pack
        have P := (P.pick 2 rfl).pack
        have P := (P.pick 2 rfl).pack
        refine bodyPost_ret (v := .agg #[.slice A1 s.st.length a1, .slice A2 s.st.length a2, .slice U3 s.mo.length u3]) (by simp [results, Try.results14, go_sem, q0, q1, q2]) rfl (by first | exact ⟨_, _, rfl, (P.own 0 rfl).1, (P.own 0 rfl).2, SZ.1⟩ | exact ⟨_, (P.own 0 rfl).1, (P.own 0 rfl).2, SZ.1⟩ | exact ⟨_, rfl, _, (P.own 0 rfl).1, (P.own 0 rfl).2, SZ.1⟩)
end Go.Proofs.Ytdbnhdiboemmiab
