/- DERIVED. CONTRACTS of chapter 13: a domain copied, and that of one schedule, by the model. -/
import Derived.Test.YtdbnhdiboemmiaaDmA
import Derived.Test.YtdbnhdiboemmiaaDmP
import Derived.Test.YtdbnhdiboemmiaaRegZ
import Derived.Test.YtdbnhdiboemmiaaTPj
import Derived.Deep.AppendLies
import Derived.Deep.CutRange
namespace Go.Proofs.Ytdbnhdiboemmiaa
open Go.RowKit Go.Shelf
set_option linter.unusedVariables false

theorem su_ones : ∀ (l : List Int), (trSu (l.map fun m => [m])).sz = l.length + l.length
  | [] => by simp [su_sz, szL]
  | x :: l => by
    have h := su_ones l
    rw [su_sz] at h ⊢
    simp only [List.map_cons, List.flatMap_cons, szL_app, List.length_cons, List.length_map] at h ⊢
    simp only [cellsI1, szL, trI_sz, List.length_cons, List.length_nil]
    omega
theorem sing_sz (s : Sc) : (trDm (singD s)).sz ≤ 2 * (trSc s).sz := by
  have h : (trSc s).sz = s.st.length + (s.mo.length + 0) := by { show szL (cellsSc s) = _; simp only [cellsSc, szL, trI_sz] }
  rw [dm_sz, h]
  show s.st.length + (s.st.length + ((trSu (s.mo.map fun m => [m])).sz + 0)) ≤ _
  rw [su_ones]
  omega
set_option maxRecDepth 100000 in
set_option maxHeartbeats 8000000 in
theorem specCopyD_any (d : Dm) (v : Value) (w : World) {BB : Nat} {GG : List Nat} (ho : (trDm d).own w BB v GG) (hsz : (trDm d).sz ≤ 1048576) :
    Calls Try.prog 66 #[v] w fun e w' => ∃ u F, e = .returned u ∧ (trDm d).own w' w.heap.size u F ∧ F.Nodup ∧ Below w.heap.size w w' := by
  obtain ⟨v1, v2, v3, G1, G2, G3, rfl, o1, o2, o3⟩ := own_dom ho
  obtain ⟨D1, t1, rfl⟩ := slice_ints (Tr.own_rd _ _ _ o1)
  obtain ⟨D2, t2, rfl⟩ := slice_ints (Tr.own_rd _ _ _ o2)
  obtain ⟨hd3, D3, t3, rfl, y3⟩ := own_rowsI o3
  have M1 := Lib.hid (rd_flat (Tr.own_rd _ _ _ o1))
  have M2 := Lib.hid (rd_flat (Tr.own_rd _ _ _ o2))
  have N1 := Lib.hid (nil_int o1)
  have N2 := Lib.hid (nil_int o2)
  have Y3 := Lib.hid y3
  clear ho o1 o2 o3 y3
  rw [dm_sz] at hsz
  have HSU := Lib.hid (fun j (h : j < d.md.length) => Nat.le_trans (su_at h) (by omega : (trSu d.md).sz ≤ 1048576))
  have hmd : d.md.length ≤ 1048576 := by have := su_sz d.md; omega
  obtain ⟨ii, hj0, hjz, hjs, hjb⟩ := info_parts infoInt_t
  have S0 := Lib.hid ((((Sn.start w).box 40 [.slice D1 d.mn.length t1, .slice D2 d.mx.length t2, .slice D3 d.md.length t3]).box 40 [.slice none 0 0, .slice none 0 0, .slice none 0 0]))
  simp only [World.size_alloc] at S0
  go_enter Try.func66, Try.ntmps66
  go_wp2_with fail
  generalize hwq : World.alloc (World.alloc w _) _ = wq
  have hS : Sn w wq [boxI (w.heap.size + 1) 40 [.slice none 0 0, .slice none 0 0, .slice none 0 0], boxI w.heap.size 40 [.slice D1 d.mn.length t1, .slice D2 d.mx.length t2, .slice D3 d.md.length t3]] := hwq ▸ S0.out
  have S1z := Lib.hid (hS.bk 1 rfl).lt
  have hlw := S1z.out
  have S0q := Lib.hid hS
  clear hwq S0 hS
  go_cut [3] from 6 to 14 (fun c wx => ∃ (gb : Nat) (A1 A2 : Option Addr) (a1 a2 : Nat) (F1 F2 : List Nat), c = .pointer (some ⟨gb, 0, none⟩) ∧ Sn w wx [boxI gb 40 [.slice A1 d.mn.length a1, .slice A2 d.mx.length a2, .slice none 0 0], ⟨trI d.mx, .slice A2 d.mx.length a2, F2⟩, ⟨trI d.mn, .slice A1 d.mn.length a1, F1⟩, boxI (w.heap.size + 1) 40 [.slice none 0 0, .slice none 0 0, .slice none 0 0], boxI w.heap.size 40 [.slice D1 d.mn.length t1, .slice D2 d.mx.length t2, .slice D3 d.md.length t3]])
  case first =>
    obtain ⟨z0, z1, z2, zf⟩ := (S0q.out.bk 1 rfl).c3
    have S1 := Lib.hid S0q.out.drew1
    have B0 := Lib.hid ((Below.refl wq.heap.size wq).drew)
    clear S0q
    have CE := Lib.hid (fun (W : World) (h : Below wq.heap.size wq W) => show Hid (Below wq.heap.size wq W) ∧ W.cell? ⟨w.heap.size, 0, none⟩ = some (.slice D1 d.mn.length t1) ∧ W.cell? ⟨w.heap.size, 1, none⟩ = some (.slice D2 d.mx.length t2) from ⟨Lib.hid h, (h.cell (p := ⟨w.heap.size, 0, none⟩) hlw).trans (by exact by simpa using z0), (h.cell (p := ⟨w.heap.size, 1, none⟩) hlw).trans (by exact by simpa using z1)⟩)
    refine wp_region_held_drew (S := fun W => Hid (Below wq.heap.size wq W) ∧ W.cell? ⟨w.heap.size, 0, none⟩ = some (.slice D1 d.mn.length t1) ∧ W.cell? ⟨w.heap.size, 1, none⟩ = some (.slice D2 d.mx.length t2)) (by kernel_rfl) (CE.out _ (Below.refl _ _).drew) (fun hHeld => ?_)
    clear z0 z1 z2 zf
    generalize hwd : wq.drew = wd at S1 B0 hHeld ⊢
    clear hwd
    refine wpAnyH_take (i := 1) (v := ?_) rfl (by kernel_rfl) (by kernel_rfl) (by kernel_rfl) (fun _ _ _ h => h) (Or.inl ⟨by rfl, ?_⟩) (by assumption) ?_
    rotate_left
    · (intro W hSw; (try dsimp only at hSw); go_simp <;> with_reducible rfl)
    (try simp only [Act.put, List.getElem_toArray, List.getElem_cons_succ, List.getElem_cons_zero, List.setIfInBounds_toArray, List.set_cons_succ, List.set_cons_zero])
    refine wpAnyH_take (i := 2) (v := ?_) rfl (by kernel_rfl) (by kernel_rfl) (by kernel_rfl) (fun _ _ _ h => h) (Or.inl ⟨by rfl, ?_⟩) (by assumption) ?_
    rotate_left
    · (intro W hSw; (try dsimp only at hSw); go_simp <;> with_reducible rfl)
    (try simp only [Act.put, List.getElem_toArray, List.getElem_cons_succ, List.getElem_cons_zero, List.setIfInBounds_toArray, List.set_cons_succ, List.set_cons_zero])
    refine wpAnyH_take (i := 5) (v := ?_) rfl (by kernel_rfl) (by kernel_rfl) (by kernel_rfl) (fun _ _ _ h => h) (Or.inl ⟨by rfl, ?_⟩) (by assumption) ?_
    rotate_left
    · (intro W hSw; (try dsimp only at hSw); go_simp <;> with_reducible rfl)
    (try simp only [Act.put, List.getElem_toArray, List.getElem_cons_succ, List.getElem_cons_zero, List.setIfInBounds_toArray, List.set_cons_succ, List.set_cons_zero])
    refine wpAnyH_take (i := 6) (v := ?_) rfl (by kernel_rfl) (by kernel_rfl) (by kernel_rfl) (fun _ _ _ h => h) (Or.inl ⟨by rfl, ?_⟩) (by assumption) ?_
    rotate_left
    · (intro W hSw; (try dsimp only at hSw); go_simp <;> with_reducible rfl)
    (try simp only [Act.put, List.getElem_toArray, List.getElem_cons_succ, List.getElem_cons_zero, List.setIfInBounds_toArray, List.set_cons_succ, List.set_cons_zero])
    refine wpAnyH_ready (rs := [0, 4, 9]) (by kernel_rfl) (by simp) ?_
    refine AllReadyH.cons rfl (fun K hK => ?_) ?_
    · go_simp
      have S2 := Lib.hid (S1.out.emptyI)
      have B2 := Lib.hid (B0.out.alloc B0.out.size (.cells #[] 3))
      have he2 : wq.heap.size ≤ wd.heap.size := B0.out.size
      refine hK.out _ _ (CE.out _ B2.out) (fun hHeld2 => ?_)
      generalize hge : wd.heap.size = e2 at S2 B2 he2 hHeld2 ⊢
      generalize World.alloc wd _ = w2 at S2 B2 hHeld2 ⊢
      clear hK K hge S1 B0
      refine wpAnyH_ready (rs := [3, 4, 9]) (by kernel_rfl) (by simp) ?_
      refine AllReadyH.cons rfl (fun K hK => ?_) ?_
      · have SP := Lib.hid (S2.out.pick 0 rfl)
        simp only [List.eraseIdx_cons_zero] at SP
        have OW := Lib.hid (own_flat (SP.out.own 0 rfl).1).1
        refine step_app_rd rfl (.tmp 6) (.tmp 8) 25 (by rfl) Try.underlying25 w.heap.size (.slice (some ⟨e2, 0, none⟩) 0 0) [] d.mn (by rfl) (by exact OW.out) _ (by rfl) (by exact M1.out.below S2.out.1 (Nat.le_refl _)) N1.out (by simp only [List.length_nil]; omega) S2.out.1.size ?_
        intro v3 w3 hown hg hat
        have S3 := Lib.hid (SP.out.appRow (by exact hown) hg hat)
        obtain ⟨A3, a3, rfl⟩ : ∃ A c, v3 = .slice A d.mn.length c := slice_ints (S3.out.rd 0 rfl)
        have B3 := Lib.hid (B2.out.grown hg B2.out.size (fun k hk => by simp [Value.ownBlock] at hk; have := he2; omega))
        refine hK.out _ _ (CE.out _ B3.out) (fun hHeld3 => ?_)
        clear hK K hown hg hat SP OW S2 B2
        refine wpAnyH_ready (rs := [4, 9]) (by kernel_rfl) (by simp) ?_
        refine AllReadyH.cons rfl (fun K hK => ?_) ?_
        · go_simp
          have S4 := Lib.hid (S3.out.emptyI)
          have B4 := Lib.hid (B3.out.alloc B3.out.size (.cells #[] 3))
          have he4 : wq.heap.size ≤ w3.heap.size := B3.out.size
          refine hK.out _ _ (CE.out _ B4.out) (fun hHeld4 => ?_)
          generalize hge : w3.heap.size = e4 at S4 B4 he4 hHeld4 ⊢
          generalize World.alloc w3 _ = w4 at S4 B4 hHeld4 ⊢
          clear hK K hge S3 B3
          refine wpAnyH_ready (rs := [7, 9]) (by kernel_rfl) (by simp) ?_
          refine AllReadyH.cons rfl (fun K hK => ?_) ?_
          · have SP := Lib.hid (S4.out.pick 0 rfl)
            simp only [List.eraseIdx_cons_zero] at SP
            have OW := Lib.hid (own_flat (SP.out.own 0 rfl).1).1
            refine step_app_rd rfl (.tmp 10) (.tmp 12) 25 (by rfl) Try.underlying25 w.heap.size (.slice (some ⟨e4, 0, none⟩) 0 0) [] d.mx (by rfl) (by exact OW.out) _ (by rfl) (by exact M2.out.below S4.out.1 (Nat.le_refl _)) N2.out (by simp only [List.length_nil]; omega) S4.out.1.size ?_
            intro v5 w5 hown hg hat
            have S5 := Lib.hid (SP.out.appRow (by exact hown) hg hat)
            obtain ⟨A5, a5, rfl⟩ : ∃ A c, v5 = .slice A d.mx.length c := slice_ints (S5.out.rd 0 rfl)
            have B5 := Lib.hid (B4.out.grown hg B4.out.size (fun k hk => by simp [Value.ownBlock] at hk; have := he4; omega))
            refine hK.out _ _ (CE.out _ B5.out) (fun hHeld5 => ?_)
            clear hK K hown hg hat SP OW S4 B4
            refine wpAnyH_take (i := 8) (v := ?_) rfl (by kernel_rfl) (by kernel_rfl) (by kernel_rfl) (fun _ _ _ h => h) (Or.inl ⟨by rfl, ?_⟩) (by assumption) ?_
            rotate_left
            · (intro W hSw; (try dsimp only at hSw); go_simp <;> with_reducible rfl)
            (try simp only [Act.put, List.getElem_toArray, List.getElem_cons_succ, List.getElem_cons_zero, List.setIfInBounds_toArray, List.set_cons_succ, List.set_cons_zero])
            refine wpAnyH_ready (rs := [9]) (by kernel_rfl) (by simp) ?_
            refine AllReadyH.cons rfl (fun K hK => ?_) AllReadyH.nil
            go_simp
            have S6 := Lib.hid (S5.out.box 40 [.slice none 0 0, .slice none 0 0, .slice none 0 0])
            have B6 := Lib.hid (B5.out.alloc B5.out.size (.cells #[.slice none 0 0, .slice none 0 0, .slice none 0 0] 40))
            have hg0 : wq.heap.size ≤ w5.heap.size := B5.out.size
            refine hK.out _ _ (CE.out _ B6.out) (fun hHeld6 => ?_)
            generalize hgg : w5.heap.size = gb at S6 B6 hg0 hHeld6 ⊢
            generalize World.alloc w5 _ = w6 at S6 B6 hHeld6 ⊢
            clear hK K hgg S5 B5
            obtain ⟨y0, y1, y2, yf⟩ := (S6.out.bk 0 rfl).c3
            refine wpAnyH_ready (rs := [10]) (by kernel_rfl) (by simp) ?_
            refine AllReadyH.cons rfl (fun K hK => ?_) AllReadyH.nil
            go_simp
            have S7 := Lib.hid (((S6.out.boxSet 0 rfl 0 (.slice A3 d.mn.length a3)).boxSet 0 rfl 1 (.slice A5 d.mx.length a5)).boxSet 0 rfl 2 (.slice none 0 0))
            simp only [List.set_cons_zero, List.set_cons_succ] at S7
            refine hK.out _ _ (CE.out _ (((B6.out.setCell (by exact hg0) _).setCell (by exact hg0) _).setCell (by exact hg0) _)) (fun hHeld7 => ?_)
            clear hK K y0 y1 y2 yf S6
            refine wpAnyH_done (by kernel_rfl) ?_ _
            go_wp2_with fail
            go_meet
            case rel => exact ⟨_, _, _, _, _, _, _, rfl, (((S7.out.pick 2 rfl).pick 2 rfl).pick 2 rfl)⟩
          refine AllReadyH.cons rfl (fun K hK => ?_) AllReadyH.nil
          go_simp
          have S5 := Lib.hid (S4.out.box 40 [.slice none 0 0, .slice none 0 0, .slice none 0 0])
          have B5 := Lib.hid (B4.out.alloc B4.out.size (.cells #[.slice none 0 0, .slice none 0 0, .slice none 0 0] 40))
          have hg0 : wq.heap.size ≤ w4.heap.size := B4.out.size
          refine hK.out _ _ (CE.out _ B5.out) (fun hHeld5 => ?_)
          generalize hgg : w4.heap.size = gb at S5 B5 hg0 hHeld5 ⊢
          generalize World.alloc w4 _ = w5 at S5 B5 hHeld5 ⊢
          clear hK K hgg S4 B4
          refine wpAnyH_ready (rs := [7]) (by kernel_rfl) (by simp) ?_
          refine AllReadyH.cons rfl (fun K hK => ?_) AllReadyH.nil
          have SP := Lib.hid (S5.out.pick 1 rfl)
          simp only [List.eraseIdx_cons_succ, List.eraseIdx_cons_zero] at SP
          have OW := Lib.hid (own_flat (SP.out.own 0 rfl).1).1
          refine step_app_rd rfl (.tmp 10) (.tmp 12) 25 (by rfl) Try.underlying25 w.heap.size (.slice (some ⟨e4, 0, none⟩) 0 0) [] d.mx (by rfl) (by exact OW.out) _ (by rfl) (by exact M2.out.below S5.out.1 (Nat.le_refl _)) N2.out (by simp only [List.length_nil]; omega) S5.out.1.size ?_
          intro v6 w6 hown hg hat
          have S6 := Lib.hid (SP.out.appRow (by exact hown) hg hat)
          obtain ⟨A6, a6, rfl⟩ : ∃ A c, v6 = .slice A d.mx.length c := slice_ints (S6.out.rd 0 rfl)
          have B6 := Lib.hid (B5.out.grown hg B5.out.size (fun k hk => by simp [Value.ownBlock] at hk; have := he4; omega))
          refine hK.out _ _ (CE.out _ B6.out) (fun hHeld6 => ?_)
          clear hK K hown hg hat SP OW S5 B5
          refine wpAnyH_take (i := 8) (v := ?_) rfl (by kernel_rfl) (by kernel_rfl) (by kernel_rfl) (fun _ _ _ h => h) (Or.inl ⟨by rfl, ?_⟩) (by assumption) ?_
          rotate_left
          · (intro W hSw; (try dsimp only at hSw); go_simp <;> with_reducible rfl)
          (try simp only [Act.put, List.getElem_toArray, List.getElem_cons_succ, List.getElem_cons_zero, List.setIfInBounds_toArray, List.set_cons_succ, List.set_cons_zero])
          obtain ⟨y0, y1, y2, yf⟩ := (S6.out.bk 1 rfl).c3
          refine wpAnyH_ready (rs := [10]) (by kernel_rfl) (by simp) ?_
          refine AllReadyH.cons rfl (fun K hK => ?_) AllReadyH.nil
          go_simp
          have S7 := Lib.hid (((S6.out.boxSet 1 rfl 0 (.slice A3 d.mn.length a3)).boxSet 1 rfl 1 (.slice A6 d.mx.length a6)).boxSet 1 rfl 2 (.slice none 0 0))
          simp only [List.set_cons_zero, List.set_cons_succ] at S7
          refine hK.out _ _ (CE.out _ (((B6.out.setCell (by exact hg0) _).setCell (by exact hg0) _).setCell (by exact hg0) _)) (fun hHeld7 => ?_)
          clear hK K y0 y1 y2 yf S6
          refine wpAnyH_done (by kernel_rfl) ?_ _
          go_wp2_with fail
          go_meet
          case rel => exact ⟨_, _, _, _, _, _, _, rfl, (((S7.out.pick 2 rfl).pick 1 rfl).pick 2 rfl)⟩
        refine AllReadyH.cons rfl (fun K hK => ?_) AllReadyH.nil
        go_simp
        have S4 := Lib.hid (S3.out.box 40 [.slice none 0 0, .slice none 0 0, .slice none 0 0])
        have B4 := Lib.hid (B3.out.alloc B3.out.size (.cells #[.slice none 0 0, .slice none 0 0, .slice none 0 0] 40))
        have hg0 : wq.heap.size ≤ w3.heap.size := B3.out.size
        refine hK.out _ _ (CE.out _ B4.out) (fun hHeld4 => ?_)
        generalize hgg : w3.heap.size = gb at S4 B4 hg0 hHeld4 ⊢
        generalize World.alloc w3 _ = w4 at S4 B4 hHeld4 ⊢
        clear hK K hgg S3 B3
        refine wpAnyH_ready (rs := [4]) (by kernel_rfl) (by simp) ?_
        refine AllReadyH.cons rfl (fun K hK => ?_) AllReadyH.nil
        go_simp
        have S5 := Lib.hid (S4.out.emptyI)
        have B5 := Lib.hid (B4.out.alloc B4.out.size (.cells #[] 3))
        have he5 : wq.heap.size ≤ w4.heap.size := B4.out.size
        refine hK.out _ _ (CE.out _ B5.out) (fun hHeld5 => ?_)
        generalize hge : w4.heap.size = e5 at S5 B5 he5 hHeld5 ⊢
        generalize World.alloc w4 _ = w5 at S5 B5 hHeld5 ⊢
        clear hK K hge S4 B4
        refine wpAnyH_ready (rs := [7]) (by kernel_rfl) (by simp) ?_
        refine AllReadyH.cons rfl (fun K hK => ?_) AllReadyH.nil
        have SP := Lib.hid (S5.out.pick 0 rfl)
        simp only [List.eraseIdx_cons_zero] at SP
        have OW := Lib.hid (own_flat (SP.out.own 0 rfl).1).1
        refine step_app_rd rfl (.tmp 10) (.tmp 12) 25 (by rfl) Try.underlying25 w.heap.size (.slice (some ⟨e5, 0, none⟩) 0 0) [] d.mx (by rfl) (by exact OW.out) _ (by rfl) (by exact M2.out.below S5.out.1 (Nat.le_refl _)) N2.out (by simp only [List.length_nil]; omega) S5.out.1.size ?_
        intro v6 w6 hown hg hat
        have S6 := Lib.hid (SP.out.appRow (by exact hown) hg hat)
        obtain ⟨A6, a6, rfl⟩ : ∃ A c, v6 = .slice A d.mx.length c := slice_ints (S6.out.rd 0 rfl)
        have B6 := Lib.hid (B5.out.grown hg B5.out.size (fun k hk => by simp [Value.ownBlock] at hk; have := he5; omega))
        refine hK.out _ _ (CE.out _ B6.out) (fun hHeld6 => ?_)
        clear hK K hown hg hat SP OW S5 B5
        refine wpAnyH_take (i := 8) (v := ?_) rfl (by kernel_rfl) (by kernel_rfl) (by kernel_rfl) (fun _ _ _ h => h) (Or.inl ⟨by rfl, ?_⟩) (by assumption) ?_
        rotate_left
        · (intro W hSw; (try dsimp only at hSw); go_simp <;> with_reducible rfl)
        (try simp only [Act.put, List.getElem_toArray, List.getElem_cons_succ, List.getElem_cons_zero, List.setIfInBounds_toArray, List.set_cons_succ, List.set_cons_zero])
        obtain ⟨y0, y1, y2, yf⟩ := (S6.out.bk 1 rfl).c3
        refine wpAnyH_ready (rs := [10]) (by kernel_rfl) (by simp) ?_
        refine AllReadyH.cons rfl (fun K hK => ?_) AllReadyH.nil
        go_simp
        have S7 := Lib.hid (((S6.out.boxSet 1 rfl 0 (.slice A3 d.mn.length a3)).boxSet 1 rfl 1 (.slice A6 d.mx.length a6)).boxSet 1 rfl 2 (.slice none 0 0))
        simp only [List.set_cons_zero, List.set_cons_succ] at S7
        refine hK.out _ _ (CE.out _ (((B6.out.setCell (by exact hg0) _).setCell (by exact hg0) _).setCell (by exact hg0) _)) (fun hHeld7 => ?_)
        clear hK K y0 y1 y2 yf S6
        refine wpAnyH_done (by kernel_rfl) ?_ _
        go_wp2_with fail
        go_meet
        case rel => exact ⟨_, _, _, _, _, _, _, rfl, (((S7.out.pick 2 rfl).pick 1 rfl).pick 2 rfl)⟩
      refine AllReadyH.cons rfl (fun K hK => ?_) ?_
      · go_simp
        have S3 := Lib.hid (S2.out.emptyI)
        have B3 := Lib.hid (B2.out.alloc B2.out.size (.cells #[] 3))
        have he3 : wq.heap.size ≤ w2.heap.size := B2.out.size
        refine hK.out _ _ (CE.out _ B3.out) (fun hHeld3 => ?_)
        generalize hge : w2.heap.size = e3 at S3 B3 he3 hHeld3 ⊢
        generalize World.alloc w2 _ = w3 at S3 B3 hHeld3 ⊢
        clear hK K hge S2 B2
        refine wpAnyH_ready (rs := [3, 9]) (by kernel_rfl) (by simp) ?_
        refine AllReadyH.cons rfl (fun K hK => ?_) ?_
        · have SP := Lib.hid (S3.out.pick 1 rfl)
          simp only [List.eraseIdx_cons_succ, List.eraseIdx_cons_zero] at SP
          have OW := Lib.hid (own_flat (SP.out.own 0 rfl).1).1
          refine step_app_rd rfl (.tmp 6) (.tmp 8) 25 (by rfl) Try.underlying25 w.heap.size (.slice (some ⟨e2, 0, none⟩) 0 0) [] d.mn (by rfl) (by exact OW.out) _ (by rfl) (by exact M1.out.below S3.out.1 (Nat.le_refl _)) N1.out (by simp only [List.length_nil]; omega) S3.out.1.size ?_
          intro v4 w4 hown hg hat
          have S4 := Lib.hid (SP.out.appRow (by exact hown) hg hat)
          obtain ⟨A4, a4, rfl⟩ : ∃ A c, v4 = .slice A d.mn.length c := slice_ints (S4.out.rd 0 rfl)
          have B4 := Lib.hid (B3.out.grown hg B3.out.size (fun k hk => by simp [Value.ownBlock] at hk; have := he2; omega))
          refine hK.out _ _ (CE.out _ B4.out) (fun hHeld4 => ?_)
          clear hK K hown hg hat SP OW S3 B3
          refine wpAnyH_ready (rs := [7, 9]) (by kernel_rfl) (by simp) ?_
          refine AllReadyH.cons rfl (fun K hK => ?_) ?_
          · have SP := Lib.hid (S4.out.pick 1 rfl)
            simp only [List.eraseIdx_cons_succ, List.eraseIdx_cons_zero] at SP
            have OW := Lib.hid (own_flat (SP.out.own 0 rfl).1).1
            refine step_app_rd rfl (.tmp 10) (.tmp 12) 25 (by rfl) Try.underlying25 w.heap.size (.slice (some ⟨e3, 0, none⟩) 0 0) [] d.mx (by rfl) (by exact OW.out) _ (by rfl) (by exact M2.out.below S4.out.1 (Nat.le_refl _)) N2.out (by simp only [List.length_nil]; omega) S4.out.1.size ?_
            intro v5 w5 hown hg hat
            have S5 := Lib.hid (SP.out.appRow (by exact hown) hg hat)
            obtain ⟨A5, a5, rfl⟩ : ∃ A c, v5 = .slice A d.mx.length c := slice_ints (S5.out.rd 0 rfl)
            have B5 := Lib.hid (B4.out.grown hg B4.out.size (fun k hk => by simp [Value.ownBlock] at hk; have := he3; omega))
            refine hK.out _ _ (CE.out _ B5.out) (fun hHeld5 => ?_)
            clear hK K hown hg hat SP OW S4 B4
            refine wpAnyH_take (i := 8) (v := ?_) rfl (by kernel_rfl) (by kernel_rfl) (by kernel_rfl) (fun _ _ _ h => h) (Or.inl ⟨by rfl, ?_⟩) (by assumption) ?_
            rotate_left
            · (intro W hSw; (try dsimp only at hSw); go_simp <;> with_reducible rfl)
            (try simp only [Act.put, List.getElem_toArray, List.getElem_cons_succ, List.getElem_cons_zero, List.setIfInBounds_toArray, List.set_cons_succ, List.set_cons_zero])
            refine wpAnyH_ready (rs := [9]) (by kernel_rfl) (by simp) ?_
            refine AllReadyH.cons rfl (fun K hK => ?_) AllReadyH.nil
            go_simp
            have S6 := Lib.hid (S5.out.box 40 [.slice none 0 0, .slice none 0 0, .slice none 0 0])
            have B6 := Lib.hid (B5.out.alloc B5.out.size (.cells #[.slice none 0 0, .slice none 0 0, .slice none 0 0] 40))
            have hg0 : wq.heap.size ≤ w5.heap.size := B5.out.size
            refine hK.out _ _ (CE.out _ B6.out) (fun hHeld6 => ?_)
            generalize hgg : w5.heap.size = gb at S6 B6 hg0 hHeld6 ⊢
            generalize World.alloc w5 _ = w6 at S6 B6 hHeld6 ⊢
            clear hK K hgg S5 B5
            obtain ⟨y0, y1, y2, yf⟩ := (S6.out.bk 0 rfl).c3
            refine wpAnyH_ready (rs := [10]) (by kernel_rfl) (by simp) ?_
            refine AllReadyH.cons rfl (fun K hK => ?_) AllReadyH.nil
            go_simp
            have S7 := Lib.hid (((S6.out.boxSet 0 rfl 0 (.slice A4 d.mn.length a4)).boxSet 0 rfl 1 (.slice A5 d.mx.length a5)).boxSet 0 rfl 2 (.slice none 0 0))
            simp only [List.set_cons_zero, List.set_cons_succ] at S7
            refine hK.out _ _ (CE.out _ (((B6.out.setCell (by exact hg0) _).setCell (by exact hg0) _).setCell (by exact hg0) _)) (fun hHeld7 => ?_)
            clear hK K y0 y1 y2 yf S6
            refine wpAnyH_done (by kernel_rfl) ?_ _
            go_wp2_with fail
            go_meet
            case rel => exact ⟨_, _, _, _, _, _, _, rfl, (((S7.out.pick 2 rfl).pick 2 rfl).pick 2 rfl)⟩
          refine AllReadyH.cons rfl (fun K hK => ?_) AllReadyH.nil
          go_simp
          have S5 := Lib.hid (S4.out.box 40 [.slice none 0 0, .slice none 0 0, .slice none 0 0])
          have B5 := Lib.hid (B4.out.alloc B4.out.size (.cells #[.slice none 0 0, .slice none 0 0, .slice none 0 0] 40))
          have hg0 : wq.heap.size ≤ w4.heap.size := B4.out.size
          refine hK.out _ _ (CE.out _ B5.out) (fun hHeld5 => ?_)
          generalize hgg : w4.heap.size = gb at S5 B5 hg0 hHeld5 ⊢
          generalize World.alloc w4 _ = w5 at S5 B5 hHeld5 ⊢
          clear hK K hgg S4 B4
          refine wpAnyH_ready (rs := [7]) (by kernel_rfl) (by simp) ?_
          refine AllReadyH.cons rfl (fun K hK => ?_) AllReadyH.nil
          have SP := Lib.hid (S5.out.pick 2 rfl)
          simp only [List.eraseIdx_cons_succ, List.eraseIdx_cons_zero] at SP
          have OW := Lib.hid (own_flat (SP.out.own 0 rfl).1).1
          refine step_app_rd rfl (.tmp 10) (.tmp 12) 25 (by rfl) Try.underlying25 w.heap.size (.slice (some ⟨e3, 0, none⟩) 0 0) [] d.mx (by rfl) (by exact OW.out) _ (by rfl) (by exact M2.out.below S5.out.1 (Nat.le_refl _)) N2.out (by simp only [List.length_nil]; omega) S5.out.1.size ?_
          intro v6 w6 hown hg hat
          have S6 := Lib.hid (SP.out.appRow (by exact hown) hg hat)
          obtain ⟨A6, a6, rfl⟩ : ∃ A c, v6 = .slice A d.mx.length c := slice_ints (S6.out.rd 0 rfl)
          have B6 := Lib.hid (B5.out.grown hg B5.out.size (fun k hk => by simp [Value.ownBlock] at hk; have := he3; omega))
          refine hK.out _ _ (CE.out _ B6.out) (fun hHeld6 => ?_)
          clear hK K hown hg hat SP OW S5 B5
          refine wpAnyH_take (i := 8) (v := ?_) rfl (by kernel_rfl) (by kernel_rfl) (by kernel_rfl) (fun _ _ _ h => h) (Or.inl ⟨by rfl, ?_⟩) (by assumption) ?_
          rotate_left
          · (intro W hSw; (try dsimp only at hSw); go_simp <;> with_reducible rfl)
          (try simp only [Act.put, List.getElem_toArray, List.getElem_cons_succ, List.getElem_cons_zero, List.setIfInBounds_toArray, List.set_cons_succ, List.set_cons_zero])
          obtain ⟨y0, y1, y2, yf⟩ := (S6.out.bk 1 rfl).c3
          refine wpAnyH_ready (rs := [10]) (by kernel_rfl) (by simp) ?_
          refine AllReadyH.cons rfl (fun K hK => ?_) AllReadyH.nil
          go_simp
          have S7 := Lib.hid (((S6.out.boxSet 1 rfl 0 (.slice A4 d.mn.length a4)).boxSet 1 rfl 1 (.slice A6 d.mx.length a6)).boxSet 1 rfl 2 (.slice none 0 0))
          simp only [List.set_cons_zero, List.set_cons_succ] at S7
          refine hK.out _ _ (CE.out _ (((B6.out.setCell (by exact hg0) _).setCell (by exact hg0) _).setCell (by exact hg0) _)) (fun hHeld7 => ?_)
          clear hK K y0 y1 y2 yf S6
          refine wpAnyH_done (by kernel_rfl) ?_ _
          go_wp2_with fail
          go_meet
          case rel => exact ⟨_, _, _, _, _, _, _, rfl, (((S7.out.pick 2 rfl).pick 1 rfl).pick 2 rfl)⟩
        refine AllReadyH.cons rfl (fun K hK => ?_) AllReadyH.nil
        go_simp
        have S4 := Lib.hid (S3.out.box 40 [.slice none 0 0, .slice none 0 0, .slice none 0 0])
        have B4 := Lib.hid (B3.out.alloc B3.out.size (.cells #[.slice none 0 0, .slice none 0 0, .slice none 0 0] 40))
        have hg0 : wq.heap.size ≤ w3.heap.size := B3.out.size
        refine hK.out _ _ (CE.out _ B4.out) (fun hHeld4 => ?_)
        generalize hgg : w3.heap.size = gb at S4 B4 hg0 hHeld4 ⊢
        generalize World.alloc w3 _ = w4 at S4 B4 hHeld4 ⊢
        clear hK K hgg S3 B3
        refine wpAnyH_ready (rs := [3]) (by kernel_rfl) (by simp) ?_
        refine AllReadyH.cons rfl (fun K hK => ?_) AllReadyH.nil
        have SP := Lib.hid (S4.out.pick 2 rfl)
        simp only [List.eraseIdx_cons_succ, List.eraseIdx_cons_zero] at SP
        have OW := Lib.hid (own_flat (SP.out.own 0 rfl).1).1
        refine step_app_rd rfl (.tmp 6) (.tmp 8) 25 (by rfl) Try.underlying25 w.heap.size (.slice (some ⟨e2, 0, none⟩) 0 0) [] d.mn (by rfl) (by exact OW.out) _ (by rfl) (by exact M1.out.below S4.out.1 (Nat.le_refl _)) N1.out (by simp only [List.length_nil]; omega) S4.out.1.size ?_
        intro v5 w5 hown hg hat
        have S5 := Lib.hid (SP.out.appRow (by exact hown) hg hat)
        obtain ⟨A5, a5, rfl⟩ : ∃ A c, v5 = .slice A d.mn.length c := slice_ints (S5.out.rd 0 rfl)
        have B5 := Lib.hid (B4.out.grown hg B4.out.size (fun k hk => by simp [Value.ownBlock] at hk; have := he2; omega))
        refine hK.out _ _ (CE.out _ B5.out) (fun hHeld5 => ?_)
        clear hK K hown hg hat SP OW S4 B4
        refine wpAnyH_ready (rs := [7]) (by kernel_rfl) (by simp) ?_
        refine AllReadyH.cons rfl (fun K hK => ?_) AllReadyH.nil
        have SP := Lib.hid (S5.out.pick 2 rfl)
        simp only [List.eraseIdx_cons_succ, List.eraseIdx_cons_zero] at SP
        have OW := Lib.hid (own_flat (SP.out.own 0 rfl).1).1
        refine step_app_rd rfl (.tmp 10) (.tmp 12) 25 (by rfl) Try.underlying25 w.heap.size (.slice (some ⟨e3, 0, none⟩) 0 0) [] d.mx (by rfl) (by exact OW.out) _ (by rfl) (by exact M2.out.below S5.out.1 (Nat.le_refl _)) N2.out (by simp only [List.length_nil]; omega) S5.out.1.size ?_
        intro v6 w6 hown hg hat
        have S6 := Lib.hid (SP.out.appRow (by exact hown) hg hat)
        obtain ⟨A6, a6, rfl⟩ : ∃ A c, v6 = .slice A d.mx.length c := slice_ints (S6.out.rd 0 rfl)
        have B6 := Lib.hid (B5.out.grown hg B5.out.size (fun k hk => by simp [Value.ownBlock] at hk; have := he3; omega))
        refine hK.out _ _ (CE.out _ B6.out) (fun hHeld6 => ?_)
        clear hK K hown hg hat SP OW S5 B5
        refine wpAnyH_take (i := 8) (v := ?_) rfl (by kernel_rfl) (by kernel_rfl) (by kernel_rfl) (fun _ _ _ h => h) (Or.inl ⟨by rfl, ?_⟩) (by assumption) ?_
        rotate_left
        · (intro W hSw; (try dsimp only at hSw); go_simp <;> with_reducible rfl)
        (try simp only [Act.put, List.getElem_toArray, List.getElem_cons_succ, List.getElem_cons_zero, List.setIfInBounds_toArray, List.set_cons_succ, List.set_cons_zero])
        obtain ⟨y0, y1, y2, yf⟩ := (S6.out.bk 2 rfl).c3
        refine wpAnyH_ready (rs := [10]) (by kernel_rfl) (by simp) ?_
        refine AllReadyH.cons rfl (fun K hK => ?_) AllReadyH.nil
        go_simp
        have S7 := Lib.hid (((S6.out.boxSet 2 rfl 0 (.slice A5 d.mn.length a5)).boxSet 2 rfl 1 (.slice A6 d.mx.length a6)).boxSet 2 rfl 2 (.slice none 0 0))
        simp only [List.set_cons_zero, List.set_cons_succ] at S7
        refine hK.out _ _ (CE.out _ (((B6.out.setCell (by exact hg0) _).setCell (by exact hg0) _).setCell (by exact hg0) _)) (fun hHeld7 => ?_)
        clear hK K y0 y1 y2 yf S6
        refine wpAnyH_done (by kernel_rfl) ?_ _
        go_wp2_with fail
        go_meet
        case rel => exact ⟨_, _, _, _, _, _, _, rfl, (((S7.out.pick 1 rfl).pick 1 rfl).pick 2 rfl)⟩
      refine AllReadyH.cons rfl (fun K hK => ?_) AllReadyH.nil
      go_simp
      have S3 := Lib.hid (S2.out.box 40 [.slice none 0 0, .slice none 0 0, .slice none 0 0])
      have B3 := Lib.hid (B2.out.alloc B2.out.size (.cells #[.slice none 0 0, .slice none 0 0, .slice none 0 0] 40))
      have hg0 : wq.heap.size ≤ w2.heap.size := B2.out.size
      refine hK.out _ _ (CE.out _ B3.out) (fun hHeld3 => ?_)
      generalize hgg : w2.heap.size = gb at S3 B3 hg0 hHeld3 ⊢
      generalize World.alloc w2 _ = w3 at S3 B3 hHeld3 ⊢
      clear hK K hgg S2 B2
      refine wpAnyH_ready (rs := [3, 4]) (by kernel_rfl) (by simp) ?_
      refine AllReadyH.cons rfl (fun K hK => ?_) ?_
      · have SP := Lib.hid (S3.out.pick 1 rfl)
        simp only [List.eraseIdx_cons_succ, List.eraseIdx_cons_zero] at SP
        have OW := Lib.hid (own_flat (SP.out.own 0 rfl).1).1
        refine step_app_rd rfl (.tmp 6) (.tmp 8) 25 (by rfl) Try.underlying25 w.heap.size (.slice (some ⟨e2, 0, none⟩) 0 0) [] d.mn (by rfl) (by exact OW.out) _ (by rfl) (by exact M1.out.below S3.out.1 (Nat.le_refl _)) N1.out (by simp only [List.length_nil]; omega) S3.out.1.size ?_
        intro v4 w4 hown hg hat
        have S4 := Lib.hid (SP.out.appRow (by exact hown) hg hat)
        obtain ⟨A4, a4, rfl⟩ : ∃ A c, v4 = .slice A d.mn.length c := slice_ints (S4.out.rd 0 rfl)
        have B4 := Lib.hid (B3.out.grown hg B3.out.size (fun k hk => by simp [Value.ownBlock] at hk; have := he2; omega))
        refine hK.out _ _ (CE.out _ B4.out) (fun hHeld4 => ?_)
        clear hK K hown hg hat SP OW S3 B3
        refine wpAnyH_ready (rs := [4]) (by kernel_rfl) (by simp) ?_
        refine AllReadyH.cons rfl (fun K hK => ?_) AllReadyH.nil
        go_simp
        have S5 := Lib.hid (S4.out.emptyI)
        have B5 := Lib.hid (B4.out.alloc B4.out.size (.cells #[] 3))
        have he5 : wq.heap.size ≤ w4.heap.size := B4.out.size
        refine hK.out _ _ (CE.out _ B5.out) (fun hHeld5 => ?_)
        generalize hge : w4.heap.size = e5 at S5 B5 he5 hHeld5 ⊢
        generalize World.alloc w4 _ = w5 at S5 B5 hHeld5 ⊢
        clear hK K hge S4 B4
        refine wpAnyH_ready (rs := [7]) (by kernel_rfl) (by simp) ?_
        refine AllReadyH.cons rfl (fun K hK => ?_) AllReadyH.nil
        have SP := Lib.hid (S5.out.pick 0 rfl)
        simp only [List.eraseIdx_cons_zero] at SP
        have OW := Lib.hid (own_flat (SP.out.own 0 rfl).1).1
        refine step_app_rd rfl (.tmp 10) (.tmp 12) 25 (by rfl) Try.underlying25 w.heap.size (.slice (some ⟨e5, 0, none⟩) 0 0) [] d.mx (by rfl) (by exact OW.out) _ (by rfl) (by exact M2.out.below S5.out.1 (Nat.le_refl _)) N2.out (by simp only [List.length_nil]; omega) S5.out.1.size ?_
        intro v6 w6 hown hg hat
        have S6 := Lib.hid (SP.out.appRow (by exact hown) hg hat)
        obtain ⟨A6, a6, rfl⟩ : ∃ A c, v6 = .slice A d.mx.length c := slice_ints (S6.out.rd 0 rfl)
        have B6 := Lib.hid (B5.out.grown hg B5.out.size (fun k hk => by simp [Value.ownBlock] at hk; have := he5; omega))
        refine hK.out _ _ (CE.out _ B6.out) (fun hHeld6 => ?_)
        clear hK K hown hg hat SP OW S5 B5
        refine wpAnyH_take (i := 8) (v := ?_) rfl (by kernel_rfl) (by kernel_rfl) (by kernel_rfl) (fun _ _ _ h => h) (Or.inl ⟨by rfl, ?_⟩) (by assumption) ?_
        rotate_left
        · (intro W hSw; (try dsimp only at hSw); go_simp <;> with_reducible rfl)
        (try simp only [Act.put, List.getElem_toArray, List.getElem_cons_succ, List.getElem_cons_zero, List.setIfInBounds_toArray, List.set_cons_succ, List.set_cons_zero])
        obtain ⟨y0, y1, y2, yf⟩ := (S6.out.bk 2 rfl).c3
        refine wpAnyH_ready (rs := [10]) (by kernel_rfl) (by simp) ?_
        refine AllReadyH.cons rfl (fun K hK => ?_) AllReadyH.nil
        go_simp
        have S7 := Lib.hid (((S6.out.boxSet 2 rfl 0 (.slice A4 d.mn.length a4)).boxSet 2 rfl 1 (.slice A6 d.mx.length a6)).boxSet 2 rfl 2 (.slice none 0 0))
        simp only [List.set_cons_zero, List.set_cons_succ] at S7
        refine hK.out _ _ (CE.out _ (((B6.out.setCell (by exact hg0) _).setCell (by exact hg0) _).setCell (by exact hg0) _)) (fun hHeld7 => ?_)
        clear hK K y0 y1 y2 yf S6
        refine wpAnyH_done (by kernel_rfl) ?_ _
        go_wp2_with fail
        go_meet
        case rel => exact ⟨_, _, _, _, _, _, _, rfl, (((S7.out.pick 1 rfl).pick 1 rfl).pick 2 rfl)⟩
      refine AllReadyH.cons rfl (fun K hK => ?_) AllReadyH.nil
      go_simp
      have S4 := Lib.hid (S3.out.emptyI)
      have B4 := Lib.hid (B3.out.alloc B3.out.size (.cells #[] 3))
      have he4 : wq.heap.size ≤ w3.heap.size := B3.out.size
      refine hK.out _ _ (CE.out _ B4.out) (fun hHeld4 => ?_)
      generalize hge : w3.heap.size = e4 at S4 B4 he4 hHeld4 ⊢
      generalize World.alloc w3 _ = w4 at S4 B4 hHeld4 ⊢
      clear hK K hge S3 B3
      refine wpAnyH_ready (rs := [3]) (by kernel_rfl) (by simp) ?_
      refine AllReadyH.cons rfl (fun K hK => ?_) AllReadyH.nil
      have SP := Lib.hid (S4.out.pick 2 rfl)
      simp only [List.eraseIdx_cons_succ, List.eraseIdx_cons_zero] at SP
      have OW := Lib.hid (own_flat (SP.out.own 0 rfl).1).1
      refine step_app_rd rfl (.tmp 6) (.tmp 8) 25 (by rfl) Try.underlying25 w.heap.size (.slice (some ⟨e2, 0, none⟩) 0 0) [] d.mn (by rfl) (by exact OW.out) _ (by rfl) (by exact M1.out.below S4.out.1 (Nat.le_refl _)) N1.out (by simp only [List.length_nil]; omega) S4.out.1.size ?_
      intro v5 w5 hown hg hat
      have S5 := Lib.hid (SP.out.appRow (by exact hown) hg hat)
      obtain ⟨A5, a5, rfl⟩ : ∃ A c, v5 = .slice A d.mn.length c := slice_ints (S5.out.rd 0 rfl)
      have B5 := Lib.hid (B4.out.grown hg B4.out.size (fun k hk => by simp [Value.ownBlock] at hk; have := he2; omega))
      refine hK.out _ _ (CE.out _ B5.out) (fun hHeld5 => ?_)
      clear hK K hown hg hat SP OW S4 B4
      refine wpAnyH_ready (rs := [7]) (by kernel_rfl) (by simp) ?_
      refine AllReadyH.cons rfl (fun K hK => ?_) AllReadyH.nil
      have SP := Lib.hid (S5.out.pick 1 rfl)
      simp only [List.eraseIdx_cons_succ, List.eraseIdx_cons_zero] at SP
      have OW := Lib.hid (own_flat (SP.out.own 0 rfl).1).1
      refine step_app_rd rfl (.tmp 10) (.tmp 12) 25 (by rfl) Try.underlying25 w.heap.size (.slice (some ⟨e4, 0, none⟩) 0 0) [] d.mx (by rfl) (by exact OW.out) _ (by rfl) (by exact M2.out.below S5.out.1 (Nat.le_refl _)) N2.out (by simp only [List.length_nil]; omega) S5.out.1.size ?_
      intro v6 w6 hown hg hat
      have S6 := Lib.hid (SP.out.appRow (by exact hown) hg hat)
      obtain ⟨A6, a6, rfl⟩ : ∃ A c, v6 = .slice A d.mx.length c := slice_ints (S6.out.rd 0 rfl)
      have B6 := Lib.hid (B5.out.grown hg B5.out.size (fun k hk => by simp [Value.ownBlock] at hk; have := he4; omega))
      refine hK.out _ _ (CE.out _ B6.out) (fun hHeld6 => ?_)
      clear hK K hown hg hat SP OW S5 B5
      refine wpAnyH_take (i := 8) (v := ?_) rfl (by kernel_rfl) (by kernel_rfl) (by kernel_rfl) (fun _ _ _ h => h) (Or.inl ⟨by rfl, ?_⟩) (by assumption) ?_
      rotate_left
      · (intro W hSw; (try dsimp only at hSw); go_simp <;> with_reducible rfl)
      (try simp only [Act.put, List.getElem_toArray, List.getElem_cons_succ, List.getElem_cons_zero, List.setIfInBounds_toArray, List.set_cons_succ, List.set_cons_zero])
      obtain ⟨y0, y1, y2, yf⟩ := (S6.out.bk 2 rfl).c3
      refine wpAnyH_ready (rs := [10]) (by kernel_rfl) (by simp) ?_
      refine AllReadyH.cons rfl (fun K hK => ?_) AllReadyH.nil
      go_simp
      have S7 := Lib.hid (((S6.out.boxSet 2 rfl 0 (.slice A5 d.mn.length a5)).boxSet 2 rfl 1 (.slice A6 d.mx.length a6)).boxSet 2 rfl 2 (.slice none 0 0))
      simp only [List.set_cons_zero, List.set_cons_succ] at S7
      refine hK.out _ _ (CE.out _ (((B6.out.setCell (by exact hg0) _).setCell (by exact hg0) _).setCell (by exact hg0) _)) (fun hHeld7 => ?_)
      clear hK K y0 y1 y2 yf S6
      refine wpAnyH_done (by kernel_rfl) ?_ _
      go_wp2_with fail
      go_meet
      case rel => exact ⟨_, _, _, _, _, _, _, rfl, (((S7.out.pick 1 rfl).pick 1 rfl).pick 2 rfl)⟩
    refine AllReadyH.cons rfl (fun K hK => ?_) ?_
    · go_simp
      have S2 := Lib.hid (S1.out.emptyI)
      have B2 := Lib.hid (B0.out.alloc B0.out.size (.cells #[] 3))
      have he2 : wq.heap.size ≤ wd.heap.size := B0.out.size
      refine hK.out _ _ (CE.out _ B2.out) (fun hHeld2 => ?_)
      generalize hge : wd.heap.size = e2 at S2 B2 he2 hHeld2 ⊢
      generalize World.alloc wd _ = w2 at S2 B2 hHeld2 ⊢
      clear hK K hge S1 B0
      refine wpAnyH_ready (rs := [0, 9]) (by kernel_rfl) (by simp) ?_
      refine AllReadyH.cons rfl (fun K hK => ?_) ?_
      · go_simp
        have S3 := Lib.hid (S2.out.emptyI)
        have B3 := Lib.hid (B2.out.alloc B2.out.size (.cells #[] 3))
        have he3 : wq.heap.size ≤ w2.heap.size := B2.out.size
        refine hK.out _ _ (CE.out _ B3.out) (fun hHeld3 => ?_)
        generalize hge : w2.heap.size = e3 at S3 B3 he3 hHeld3 ⊢
        generalize World.alloc w2 _ = w3 at S3 B3 hHeld3 ⊢
        clear hK K hge S2 B2
        refine wpAnyH_ready (rs := [3, 9]) (by kernel_rfl) (by simp) ?_
        refine AllReadyH.cons rfl (fun K hK => ?_) ?_
        · have SP := Lib.hid (S3.out.pick 0 rfl)
          simp only [List.eraseIdx_cons_zero] at SP
          have OW := Lib.hid (own_flat (SP.out.own 0 rfl).1).1
          refine step_app_rd rfl (.tmp 6) (.tmp 8) 25 (by rfl) Try.underlying25 w.heap.size (.slice (some ⟨e3, 0, none⟩) 0 0) [] d.mn (by rfl) (by exact OW.out) _ (by rfl) (by exact M1.out.below S3.out.1 (Nat.le_refl _)) N1.out (by simp only [List.length_nil]; omega) S3.out.1.size ?_
          intro v4 w4 hown hg hat
          have S4 := Lib.hid (SP.out.appRow (by exact hown) hg hat)
          obtain ⟨A4, a4, rfl⟩ : ∃ A c, v4 = .slice A d.mn.length c := slice_ints (S4.out.rd 0 rfl)
          have B4 := Lib.hid (B3.out.grown hg B3.out.size (fun k hk => by simp [Value.ownBlock] at hk; have := he3; omega))
          refine hK.out _ _ (CE.out _ B4.out) (fun hHeld4 => ?_)
          clear hK K hown hg hat SP OW S3 B3
          refine wpAnyH_ready (rs := [7, 9]) (by kernel_rfl) (by simp) ?_
          refine AllReadyH.cons rfl (fun K hK => ?_) ?_
          · have SP := Lib.hid (S4.out.pick 1 rfl)
            simp only [List.eraseIdx_cons_succ, List.eraseIdx_cons_zero] at SP
            have OW := Lib.hid (own_flat (SP.out.own 0 rfl).1).1
            refine step_app_rd rfl (.tmp 10) (.tmp 12) 25 (by rfl) Try.underlying25 w.heap.size (.slice (some ⟨e2, 0, none⟩) 0 0) [] d.mx (by rfl) (by exact OW.out) _ (by rfl) (by exact M2.out.below S4.out.1 (Nat.le_refl _)) N2.out (by simp only [List.length_nil]; omega) S4.out.1.size ?_
            intro v5 w5 hown hg hat
            have S5 := Lib.hid (SP.out.appRow (by exact hown) hg hat)
            obtain ⟨A5, a5, rfl⟩ : ∃ A c, v5 = .slice A d.mx.length c := slice_ints (S5.out.rd 0 rfl)
            have B5 := Lib.hid (B4.out.grown hg B4.out.size (fun k hk => by simp [Value.ownBlock] at hk; have := he2; omega))
            refine hK.out _ _ (CE.out _ B5.out) (fun hHeld5 => ?_)
            clear hK K hown hg hat SP OW S4 B4
            refine wpAnyH_take (i := 8) (v := ?_) rfl (by kernel_rfl) (by kernel_rfl) (by kernel_rfl) (fun _ _ _ h => h) (Or.inl ⟨by rfl, ?_⟩) (by assumption) ?_
            rotate_left
            · (intro W hSw; (try dsimp only at hSw); go_simp <;> with_reducible rfl)
            (try simp only [Act.put, List.getElem_toArray, List.getElem_cons_succ, List.getElem_cons_zero, List.setIfInBounds_toArray, List.set_cons_succ, List.set_cons_zero])
            refine wpAnyH_ready (rs := [9]) (by kernel_rfl) (by simp) ?_
            refine AllReadyH.cons rfl (fun K hK => ?_) AllReadyH.nil
            go_simp
            have S6 := Lib.hid (S5.out.box 40 [.slice none 0 0, .slice none 0 0, .slice none 0 0])
            have B6 := Lib.hid (B5.out.alloc B5.out.size (.cells #[.slice none 0 0, .slice none 0 0, .slice none 0 0] 40))
            have hg0 : wq.heap.size ≤ w5.heap.size := B5.out.size
            refine hK.out _ _ (CE.out _ B6.out) (fun hHeld6 => ?_)
            generalize hgg : w5.heap.size = gb at S6 B6 hg0 hHeld6 ⊢
            generalize World.alloc w5 _ = w6 at S6 B6 hHeld6 ⊢
            clear hK K hgg S5 B5
            obtain ⟨y0, y1, y2, yf⟩ := (S6.out.bk 0 rfl).c3
            refine wpAnyH_ready (rs := [10]) (by kernel_rfl) (by simp) ?_
            refine AllReadyH.cons rfl (fun K hK => ?_) AllReadyH.nil
            go_simp
            have S7 := Lib.hid (((S6.out.boxSet 0 rfl 0 (.slice A4 d.mn.length a4)).boxSet 0 rfl 1 (.slice A5 d.mx.length a5)).boxSet 0 rfl 2 (.slice none 0 0))
            simp only [List.set_cons_zero, List.set_cons_succ] at S7
            refine hK.out _ _ (CE.out _ (((B6.out.setCell (by exact hg0) _).setCell (by exact hg0) _).setCell (by exact hg0) _)) (fun hHeld7 => ?_)
            clear hK K y0 y1 y2 yf S6
            refine wpAnyH_done (by kernel_rfl) ?_ _
            go_wp2_with fail
            go_meet
            case rel => exact ⟨_, _, _, _, _, _, _, rfl, (((S7.out.pick 2 rfl).pick 2 rfl).pick 2 rfl)⟩
          refine AllReadyH.cons rfl (fun K hK => ?_) AllReadyH.nil
          go_simp
          have S5 := Lib.hid (S4.out.box 40 [.slice none 0 0, .slice none 0 0, .slice none 0 0])
          have B5 := Lib.hid (B4.out.alloc B4.out.size (.cells #[.slice none 0 0, .slice none 0 0, .slice none 0 0] 40))
          have hg0 : wq.heap.size ≤ w4.heap.size := B4.out.size
          refine hK.out _ _ (CE.out _ B5.out) (fun hHeld5 => ?_)
          generalize hgg : w4.heap.size = gb at S5 B5 hg0 hHeld5 ⊢
          generalize World.alloc w4 _ = w5 at S5 B5 hHeld5 ⊢
          clear hK K hgg S4 B4
          refine wpAnyH_ready (rs := [7]) (by kernel_rfl) (by simp) ?_
          refine AllReadyH.cons rfl (fun K hK => ?_) AllReadyH.nil
          have SP := Lib.hid (S5.out.pick 2 rfl)
          simp only [List.eraseIdx_cons_succ, List.eraseIdx_cons_zero] at SP
          have OW := Lib.hid (own_flat (SP.out.own 0 rfl).1).1
          refine step_app_rd rfl (.tmp 10) (.tmp 12) 25 (by rfl) Try.underlying25 w.heap.size (.slice (some ⟨e2, 0, none⟩) 0 0) [] d.mx (by rfl) (by exact OW.out) _ (by rfl) (by exact M2.out.below S5.out.1 (Nat.le_refl _)) N2.out (by simp only [List.length_nil]; omega) S5.out.1.size ?_
          intro v6 w6 hown hg hat
          have S6 := Lib.hid (SP.out.appRow (by exact hown) hg hat)
          obtain ⟨A6, a6, rfl⟩ : ∃ A c, v6 = .slice A d.mx.length c := slice_ints (S6.out.rd 0 rfl)
          have B6 := Lib.hid (B5.out.grown hg B5.out.size (fun k hk => by simp [Value.ownBlock] at hk; have := he2; omega))
          refine hK.out _ _ (CE.out _ B6.out) (fun hHeld6 => ?_)
          clear hK K hown hg hat SP OW S5 B5
          refine wpAnyH_take (i := 8) (v := ?_) rfl (by kernel_rfl) (by kernel_rfl) (by kernel_rfl) (fun _ _ _ h => h) (Or.inl ⟨by rfl, ?_⟩) (by assumption) ?_
          rotate_left
          · (intro W hSw; (try dsimp only at hSw); go_simp <;> with_reducible rfl)
          (try simp only [Act.put, List.getElem_toArray, List.getElem_cons_succ, List.getElem_cons_zero, List.setIfInBounds_toArray, List.set_cons_succ, List.set_cons_zero])
          obtain ⟨y0, y1, y2, yf⟩ := (S6.out.bk 1 rfl).c3
          refine wpAnyH_ready (rs := [10]) (by kernel_rfl) (by simp) ?_
          refine AllReadyH.cons rfl (fun K hK => ?_) AllReadyH.nil
          go_simp
          have S7 := Lib.hid (((S6.out.boxSet 1 rfl 0 (.slice A4 d.mn.length a4)).boxSet 1 rfl 1 (.slice A6 d.mx.length a6)).boxSet 1 rfl 2 (.slice none 0 0))
          simp only [List.set_cons_zero, List.set_cons_succ] at S7
          refine hK.out _ _ (CE.out _ (((B6.out.setCell (by exact hg0) _).setCell (by exact hg0) _).setCell (by exact hg0) _)) (fun hHeld7 => ?_)
          clear hK K y0 y1 y2 yf S6
          refine wpAnyH_done (by kernel_rfl) ?_ _
          go_wp2_with fail
          go_meet
          case rel => exact ⟨_, _, _, _, _, _, _, rfl, (((S7.out.pick 2 rfl).pick 1 rfl).pick 2 rfl)⟩
        refine AllReadyH.cons rfl (fun K hK => ?_) AllReadyH.nil
        go_simp
        have S4 := Lib.hid (S3.out.box 40 [.slice none 0 0, .slice none 0 0, .slice none 0 0])
        have B4 := Lib.hid (B3.out.alloc B3.out.size (.cells #[.slice none 0 0, .slice none 0 0, .slice none 0 0] 40))
        have hg0 : wq.heap.size ≤ w3.heap.size := B3.out.size
        refine hK.out _ _ (CE.out _ B4.out) (fun hHeld4 => ?_)
        generalize hgg : w3.heap.size = gb at S4 B4 hg0 hHeld4 ⊢
        generalize World.alloc w3 _ = w4 at S4 B4 hHeld4 ⊢
        clear hK K hgg S3 B3
        refine wpAnyH_ready (rs := [3]) (by kernel_rfl) (by simp) ?_
        refine AllReadyH.cons rfl (fun K hK => ?_) AllReadyH.nil
        have SP := Lib.hid (S4.out.pick 1 rfl)
        simp only [List.eraseIdx_cons_succ, List.eraseIdx_cons_zero] at SP
        have OW := Lib.hid (own_flat (SP.out.own 0 rfl).1).1
        refine step_app_rd rfl (.tmp 6) (.tmp 8) 25 (by rfl) Try.underlying25 w.heap.size (.slice (some ⟨e3, 0, none⟩) 0 0) [] d.mn (by rfl) (by exact OW.out) _ (by rfl) (by exact M1.out.below S4.out.1 (Nat.le_refl _)) N1.out (by simp only [List.length_nil]; omega) S4.out.1.size ?_
        intro v5 w5 hown hg hat
        have S5 := Lib.hid (SP.out.appRow (by exact hown) hg hat)
        obtain ⟨A5, a5, rfl⟩ : ∃ A c, v5 = .slice A d.mn.length c := slice_ints (S5.out.rd 0 rfl)
        have B5 := Lib.hid (B4.out.grown hg B4.out.size (fun k hk => by simp [Value.ownBlock] at hk; have := he3; omega))
        refine hK.out _ _ (CE.out _ B5.out) (fun hHeld5 => ?_)
        clear hK K hown hg hat SP OW S4 B4
        refine wpAnyH_ready (rs := [7]) (by kernel_rfl) (by simp) ?_
        refine AllReadyH.cons rfl (fun K hK => ?_) AllReadyH.nil
        have SP := Lib.hid (S5.out.pick 2 rfl)
        simp only [List.eraseIdx_cons_succ, List.eraseIdx_cons_zero] at SP
        have OW := Lib.hid (own_flat (SP.out.own 0 rfl).1).1
        refine step_app_rd rfl (.tmp 10) (.tmp 12) 25 (by rfl) Try.underlying25 w.heap.size (.slice (some ⟨e2, 0, none⟩) 0 0) [] d.mx (by rfl) (by exact OW.out) _ (by rfl) (by exact M2.out.below S5.out.1 (Nat.le_refl _)) N2.out (by simp only [List.length_nil]; omega) S5.out.1.size ?_
        intro v6 w6 hown hg hat
        have S6 := Lib.hid (SP.out.appRow (by exact hown) hg hat)
        obtain ⟨A6, a6, rfl⟩ : ∃ A c, v6 = .slice A d.mx.length c := slice_ints (S6.out.rd 0 rfl)
        have B6 := Lib.hid (B5.out.grown hg B5.out.size (fun k hk => by simp [Value.ownBlock] at hk; have := he2; omega))
        refine hK.out _ _ (CE.out _ B6.out) (fun hHeld6 => ?_)
        clear hK K hown hg hat SP OW S5 B5
        refine wpAnyH_take (i := 8) (v := ?_) rfl (by kernel_rfl) (by kernel_rfl) (by kernel_rfl) (fun _ _ _ h => h) (Or.inl ⟨by rfl, ?_⟩) (by assumption) ?_
        rotate_left
        · (intro W hSw; (try dsimp only at hSw); go_simp <;> with_reducible rfl)
        (try simp only [Act.put, List.getElem_toArray, List.getElem_cons_succ, List.getElem_cons_zero, List.setIfInBounds_toArray, List.set_cons_succ, List.set_cons_zero])
        obtain ⟨y0, y1, y2, yf⟩ := (S6.out.bk 2 rfl).c3
        refine wpAnyH_ready (rs := [10]) (by kernel_rfl) (by simp) ?_
        refine AllReadyH.cons rfl (fun K hK => ?_) AllReadyH.nil
        go_simp
        have S7 := Lib.hid (((S6.out.boxSet 2 rfl 0 (.slice A5 d.mn.length a5)).boxSet 2 rfl 1 (.slice A6 d.mx.length a6)).boxSet 2 rfl 2 (.slice none 0 0))
        simp only [List.set_cons_zero, List.set_cons_succ] at S7
        refine hK.out _ _ (CE.out _ (((B6.out.setCell (by exact hg0) _).setCell (by exact hg0) _).setCell (by exact hg0) _)) (fun hHeld7 => ?_)
        clear hK K y0 y1 y2 yf S6
        refine wpAnyH_done (by kernel_rfl) ?_ _
        go_wp2_with fail
        go_meet
        case rel => exact ⟨_, _, _, _, _, _, _, rfl, (((S7.out.pick 1 rfl).pick 1 rfl).pick 2 rfl)⟩
      refine AllReadyH.cons rfl (fun K hK => ?_) AllReadyH.nil
      go_simp
      have S3 := Lib.hid (S2.out.box 40 [.slice none 0 0, .slice none 0 0, .slice none 0 0])
      have B3 := Lib.hid (B2.out.alloc B2.out.size (.cells #[.slice none 0 0, .slice none 0 0, .slice none 0 0] 40))
      have hg0 : wq.heap.size ≤ w2.heap.size := B2.out.size
      refine hK.out _ _ (CE.out _ B3.out) (fun hHeld3 => ?_)
      generalize hgg : w2.heap.size = gb at S3 B3 hg0 hHeld3 ⊢
      generalize World.alloc w2 _ = w3 at S3 B3 hHeld3 ⊢
      clear hK K hgg S2 B2
      refine wpAnyH_ready (rs := [0]) (by kernel_rfl) (by simp) ?_
      refine AllReadyH.cons rfl (fun K hK => ?_) AllReadyH.nil
      go_simp
      have S4 := Lib.hid (S3.out.emptyI)
      have B4 := Lib.hid (B3.out.alloc B3.out.size (.cells #[] 3))
      have he4 : wq.heap.size ≤ w3.heap.size := B3.out.size
      refine hK.out _ _ (CE.out _ B4.out) (fun hHeld4 => ?_)
      generalize hge : w3.heap.size = e4 at S4 B4 he4 hHeld4 ⊢
      generalize World.alloc w3 _ = w4 at S4 B4 hHeld4 ⊢
      clear hK K hge S3 B3
      refine wpAnyH_ready (rs := [3]) (by kernel_rfl) (by simp) ?_
      refine AllReadyH.cons rfl (fun K hK => ?_) AllReadyH.nil
      have SP := Lib.hid (S4.out.pick 0 rfl)
      simp only [List.eraseIdx_cons_zero] at SP
      have OW := Lib.hid (own_flat (SP.out.own 0 rfl).1).1
      refine step_app_rd rfl (.tmp 6) (.tmp 8) 25 (by rfl) Try.underlying25 w.heap.size (.slice (some ⟨e4, 0, none⟩) 0 0) [] d.mn (by rfl) (by exact OW.out) _ (by rfl) (by exact M1.out.below S4.out.1 (Nat.le_refl _)) N1.out (by simp only [List.length_nil]; omega) S4.out.1.size ?_
      intro v5 w5 hown hg hat
      have S5 := Lib.hid (SP.out.appRow (by exact hown) hg hat)
      obtain ⟨A5, a5, rfl⟩ : ∃ A c, v5 = .slice A d.mn.length c := slice_ints (S5.out.rd 0 rfl)
      have B5 := Lib.hid (B4.out.grown hg B4.out.size (fun k hk => by simp [Value.ownBlock] at hk; have := he4; omega))
      refine hK.out _ _ (CE.out _ B5.out) (fun hHeld5 => ?_)
      clear hK K hown hg hat SP OW S4 B4
      refine wpAnyH_ready (rs := [7]) (by kernel_rfl) (by simp) ?_
      refine AllReadyH.cons rfl (fun K hK => ?_) AllReadyH.nil
      have SP := Lib.hid (S5.out.pick 2 rfl)
      simp only [List.eraseIdx_cons_succ, List.eraseIdx_cons_zero] at SP
      have OW := Lib.hid (own_flat (SP.out.own 0 rfl).1).1
      refine step_app_rd rfl (.tmp 10) (.tmp 12) 25 (by rfl) Try.underlying25 w.heap.size (.slice (some ⟨e2, 0, none⟩) 0 0) [] d.mx (by rfl) (by exact OW.out) _ (by rfl) (by exact M2.out.below S5.out.1 (Nat.le_refl _)) N2.out (by simp only [List.length_nil]; omega) S5.out.1.size ?_
      intro v6 w6 hown hg hat
      have S6 := Lib.hid (SP.out.appRow (by exact hown) hg hat)
      obtain ⟨A6, a6, rfl⟩ : ∃ A c, v6 = .slice A d.mx.length c := slice_ints (S6.out.rd 0 rfl)
      have B6 := Lib.hid (B5.out.grown hg B5.out.size (fun k hk => by simp [Value.ownBlock] at hk; have := he2; omega))
      refine hK.out _ _ (CE.out _ B6.out) (fun hHeld6 => ?_)
      clear hK K hown hg hat SP OW S5 B5
      refine wpAnyH_take (i := 8) (v := ?_) rfl (by kernel_rfl) (by kernel_rfl) (by kernel_rfl) (fun _ _ _ h => h) (Or.inl ⟨by rfl, ?_⟩) (by assumption) ?_
      rotate_left
      · (intro W hSw; (try dsimp only at hSw); go_simp <;> with_reducible rfl)
      (try simp only [Act.put, List.getElem_toArray, List.getElem_cons_succ, List.getElem_cons_zero, List.setIfInBounds_toArray, List.set_cons_succ, List.set_cons_zero])
      obtain ⟨y0, y1, y2, yf⟩ := (S6.out.bk 2 rfl).c3
      refine wpAnyH_ready (rs := [10]) (by kernel_rfl) (by simp) ?_
      refine AllReadyH.cons rfl (fun K hK => ?_) AllReadyH.nil
      go_simp
      have S7 := Lib.hid (((S6.out.boxSet 2 rfl 0 (.slice A5 d.mn.length a5)).boxSet 2 rfl 1 (.slice A6 d.mx.length a6)).boxSet 2 rfl 2 (.slice none 0 0))
      simp only [List.set_cons_zero, List.set_cons_succ] at S7
      refine hK.out _ _ (CE.out _ (((B6.out.setCell (by exact hg0) _).setCell (by exact hg0) _).setCell (by exact hg0) _)) (fun hHeld7 => ?_)
      clear hK K y0 y1 y2 yf S6
      refine wpAnyH_done (by kernel_rfl) ?_ _
      go_wp2_with fail
      go_meet
      case rel => exact ⟨_, _, _, _, _, _, _, rfl, (((S7.out.pick 1 rfl).pick 1 rfl).pick 2 rfl)⟩
    refine AllReadyH.cons rfl (fun K hK => ?_) AllReadyH.nil
    go_simp
    have S2 := Lib.hid (S1.out.box 40 [.slice none 0 0, .slice none 0 0, .slice none 0 0])
    have B2 := Lib.hid (B0.out.alloc B0.out.size (.cells #[.slice none 0 0, .slice none 0 0, .slice none 0 0] 40))
    have hg0 : wq.heap.size ≤ wd.heap.size := B0.out.size
    refine hK.out _ _ (CE.out _ B2.out) (fun hHeld2 => ?_)
    generalize hgg : wd.heap.size = gb at S2 B2 hg0 hHeld2 ⊢
    generalize World.alloc wd _ = w2 at S2 B2 hHeld2 ⊢
    clear hK K hgg S1 B0
    refine wpAnyH_ready (rs := [0, 4]) (by kernel_rfl) (by simp) ?_
    refine AllReadyH.cons rfl (fun K hK => ?_) ?_
    · go_simp
      have S3 := Lib.hid (S2.out.emptyI)
      have B3 := Lib.hid (B2.out.alloc B2.out.size (.cells #[] 3))
      have he3 : wq.heap.size ≤ w2.heap.size := B2.out.size
      refine hK.out _ _ (CE.out _ B3.out) (fun hHeld3 => ?_)
      generalize hge : w2.heap.size = e3 at S3 B3 he3 hHeld3 ⊢
      generalize World.alloc w2 _ = w3 at S3 B3 hHeld3 ⊢
      clear hK K hge S2 B2
      refine wpAnyH_ready (rs := [3, 4]) (by kernel_rfl) (by simp) ?_
      refine AllReadyH.cons rfl (fun K hK => ?_) ?_
      · have SP := Lib.hid (S3.out.pick 0 rfl)
        simp only [List.eraseIdx_cons_zero] at SP
        have OW := Lib.hid (own_flat (SP.out.own 0 rfl).1).1
        refine step_app_rd rfl (.tmp 6) (.tmp 8) 25 (by rfl) Try.underlying25 w.heap.size (.slice (some ⟨e3, 0, none⟩) 0 0) [] d.mn (by rfl) (by exact OW.out) _ (by rfl) (by exact M1.out.below S3.out.1 (Nat.le_refl _)) N1.out (by simp only [List.length_nil]; omega) S3.out.1.size ?_
        intro v4 w4 hown hg hat
        have S4 := Lib.hid (SP.out.appRow (by exact hown) hg hat)
        obtain ⟨A4, a4, rfl⟩ : ∃ A c, v4 = .slice A d.mn.length c := slice_ints (S4.out.rd 0 rfl)
        have B4 := Lib.hid (B3.out.grown hg B3.out.size (fun k hk => by simp [Value.ownBlock] at hk; have := he3; omega))
        refine hK.out _ _ (CE.out _ B4.out) (fun hHeld4 => ?_)
        clear hK K hown hg hat SP OW S3 B3
        refine wpAnyH_ready (rs := [4]) (by kernel_rfl) (by simp) ?_
        refine AllReadyH.cons rfl (fun K hK => ?_) AllReadyH.nil
        go_simp
        have S5 := Lib.hid (S4.out.emptyI)
        have B5 := Lib.hid (B4.out.alloc B4.out.size (.cells #[] 3))
        have he5 : wq.heap.size ≤ w4.heap.size := B4.out.size
        refine hK.out _ _ (CE.out _ B5.out) (fun hHeld5 => ?_)
        generalize hge : w4.heap.size = e5 at S5 B5 he5 hHeld5 ⊢
        generalize World.alloc w4 _ = w5 at S5 B5 hHeld5 ⊢
        clear hK K hge S4 B4
        refine wpAnyH_ready (rs := [7]) (by kernel_rfl) (by simp) ?_
        refine AllReadyH.cons rfl (fun K hK => ?_) AllReadyH.nil
        have SP := Lib.hid (S5.out.pick 0 rfl)
        simp only [List.eraseIdx_cons_zero] at SP
        have OW := Lib.hid (own_flat (SP.out.own 0 rfl).1).1
        refine step_app_rd rfl (.tmp 10) (.tmp 12) 25 (by rfl) Try.underlying25 w.heap.size (.slice (some ⟨e5, 0, none⟩) 0 0) [] d.mx (by rfl) (by exact OW.out) _ (by rfl) (by exact M2.out.below S5.out.1 (Nat.le_refl _)) N2.out (by simp only [List.length_nil]; omega) S5.out.1.size ?_
        intro v6 w6 hown hg hat
        have S6 := Lib.hid (SP.out.appRow (by exact hown) hg hat)
        obtain ⟨A6, a6, rfl⟩ : ∃ A c, v6 = .slice A d.mx.length c := slice_ints (S6.out.rd 0 rfl)
        have B6 := Lib.hid (B5.out.grown hg B5.out.size (fun k hk => by simp [Value.ownBlock] at hk; have := he5; omega))
        refine hK.out _ _ (CE.out _ B6.out) (fun hHeld6 => ?_)
        clear hK K hown hg hat SP OW S5 B5
        refine wpAnyH_take (i := 8) (v := ?_) rfl (by kernel_rfl) (by kernel_rfl) (by kernel_rfl) (fun _ _ _ h => h) (Or.inl ⟨by rfl, ?_⟩) (by assumption) ?_
        rotate_left
        · (intro W hSw; (try dsimp only at hSw); go_simp <;> with_reducible rfl)
        (try simp only [Act.put, List.getElem_toArray, List.getElem_cons_succ, List.getElem_cons_zero, List.setIfInBounds_toArray, List.set_cons_succ, List.set_cons_zero])
        obtain ⟨y0, y1, y2, yf⟩ := (S6.out.bk 2 rfl).c3
        refine wpAnyH_ready (rs := [10]) (by kernel_rfl) (by simp) ?_
        refine AllReadyH.cons rfl (fun K hK => ?_) AllReadyH.nil
        go_simp
        have S7 := Lib.hid (((S6.out.boxSet 2 rfl 0 (.slice A4 d.mn.length a4)).boxSet 2 rfl 1 (.slice A6 d.mx.length a6)).boxSet 2 rfl 2 (.slice none 0 0))
        simp only [List.set_cons_zero, List.set_cons_succ] at S7
        refine hK.out _ _ (CE.out _ (((B6.out.setCell (by exact hg0) _).setCell (by exact hg0) _).setCell (by exact hg0) _)) (fun hHeld7 => ?_)
        clear hK K y0 y1 y2 yf S6
        refine wpAnyH_done (by kernel_rfl) ?_ _
        go_wp2_with fail
        go_meet
        case rel => exact ⟨_, _, _, _, _, _, _, rfl, (((S7.out.pick 1 rfl).pick 1 rfl).pick 2 rfl)⟩
      refine AllReadyH.cons rfl (fun K hK => ?_) AllReadyH.nil
      go_simp
      have S4 := Lib.hid (S3.out.emptyI)
      have B4 := Lib.hid (B3.out.alloc B3.out.size (.cells #[] 3))
      have he4 : wq.heap.size ≤ w3.heap.size := B3.out.size
      refine hK.out _ _ (CE.out _ B4.out) (fun hHeld4 => ?_)
      generalize hge : w3.heap.size = e4 at S4 B4 he4 hHeld4 ⊢
      generalize World.alloc w3 _ = w4 at S4 B4 hHeld4 ⊢
      clear hK K hge S3 B3
      refine wpAnyH_ready (rs := [3]) (by kernel_rfl) (by simp) ?_
      refine AllReadyH.cons rfl (fun K hK => ?_) AllReadyH.nil
      have SP := Lib.hid (S4.out.pick 1 rfl)
      simp only [List.eraseIdx_cons_succ, List.eraseIdx_cons_zero] at SP
      have OW := Lib.hid (own_flat (SP.out.own 0 rfl).1).1
      refine step_app_rd rfl (.tmp 6) (.tmp 8) 25 (by rfl) Try.underlying25 w.heap.size (.slice (some ⟨e3, 0, none⟩) 0 0) [] d.mn (by rfl) (by exact OW.out) _ (by rfl) (by exact M1.out.below S4.out.1 (Nat.le_refl _)) N1.out (by simp only [List.length_nil]; omega) S4.out.1.size ?_
      intro v5 w5 hown hg hat
      have S5 := Lib.hid (SP.out.appRow (by exact hown) hg hat)
      obtain ⟨A5, a5, rfl⟩ : ∃ A c, v5 = .slice A d.mn.length c := slice_ints (S5.out.rd 0 rfl)
      have B5 := Lib.hid (B4.out.grown hg B4.out.size (fun k hk => by simp [Value.ownBlock] at hk; have := he3; omega))
      refine hK.out _ _ (CE.out _ B5.out) (fun hHeld5 => ?_)
      clear hK K hown hg hat SP OW S4 B4
      refine wpAnyH_ready (rs := [7]) (by kernel_rfl) (by simp) ?_
      refine AllReadyH.cons rfl (fun K hK => ?_) AllReadyH.nil
      have SP := Lib.hid (S5.out.pick 1 rfl)
      simp only [List.eraseIdx_cons_succ, List.eraseIdx_cons_zero] at SP
      have OW := Lib.hid (own_flat (SP.out.own 0 rfl).1).1
      refine step_app_rd rfl (.tmp 10) (.tmp 12) 25 (by rfl) Try.underlying25 w.heap.size (.slice (some ⟨e4, 0, none⟩) 0 0) [] d.mx (by rfl) (by exact OW.out) _ (by rfl) (by exact M2.out.below S5.out.1 (Nat.le_refl _)) N2.out (by simp only [List.length_nil]; omega) S5.out.1.size ?_
      intro v6 w6 hown hg hat
      have S6 := Lib.hid (SP.out.appRow (by exact hown) hg hat)
      obtain ⟨A6, a6, rfl⟩ : ∃ A c, v6 = .slice A d.mx.length c := slice_ints (S6.out.rd 0 rfl)
      have B6 := Lib.hid (B5.out.grown hg B5.out.size (fun k hk => by simp [Value.ownBlock] at hk; have := he4; omega))
      refine hK.out _ _ (CE.out _ B6.out) (fun hHeld6 => ?_)
      clear hK K hown hg hat SP OW S5 B5
      refine wpAnyH_take (i := 8) (v := ?_) rfl (by kernel_rfl) (by kernel_rfl) (by kernel_rfl) (fun _ _ _ h => h) (Or.inl ⟨by rfl, ?_⟩) (by assumption) ?_
      rotate_left
      · (intro W hSw; (try dsimp only at hSw); go_simp <;> with_reducible rfl)
      (try simp only [Act.put, List.getElem_toArray, List.getElem_cons_succ, List.getElem_cons_zero, List.setIfInBounds_toArray, List.set_cons_succ, List.set_cons_zero])
      obtain ⟨y0, y1, y2, yf⟩ := (S6.out.bk 2 rfl).c3
      refine wpAnyH_ready (rs := [10]) (by kernel_rfl) (by simp) ?_
      refine AllReadyH.cons rfl (fun K hK => ?_) AllReadyH.nil
      go_simp
      have S7 := Lib.hid (((S6.out.boxSet 2 rfl 0 (.slice A5 d.mn.length a5)).boxSet 2 rfl 1 (.slice A6 d.mx.length a6)).boxSet 2 rfl 2 (.slice none 0 0))
      simp only [List.set_cons_zero, List.set_cons_succ] at S7
      refine hK.out _ _ (CE.out _ (((B6.out.setCell (by exact hg0) _).setCell (by exact hg0) _).setCell (by exact hg0) _)) (fun hHeld7 => ?_)
      clear hK K y0 y1 y2 yf S6
      refine wpAnyH_done (by kernel_rfl) ?_ _
      go_wp2_with fail
      go_meet
      case rel => exact ⟨_, _, _, _, _, _, _, rfl, (((S7.out.pick 1 rfl).pick 1 rfl).pick 2 rfl)⟩
    refine AllReadyH.cons rfl (fun K hK => ?_) AllReadyH.nil
    go_simp
    have S3 := Lib.hid (S2.out.emptyI)
    have B3 := Lib.hid (B2.out.alloc B2.out.size (.cells #[] 3))
    have he3 : wq.heap.size ≤ w2.heap.size := B2.out.size
    refine hK.out _ _ (CE.out _ B3.out) (fun hHeld3 => ?_)
    generalize hge : w2.heap.size = e3 at S3 B3 he3 hHeld3 ⊢
    generalize World.alloc w2 _ = w3 at S3 B3 hHeld3 ⊢
    clear hK K hge S2 B2
    refine wpAnyH_ready (rs := [0]) (by kernel_rfl) (by simp) ?_
    refine AllReadyH.cons rfl (fun K hK => ?_) AllReadyH.nil
    go_simp
    have S4 := Lib.hid (S3.out.emptyI)
    have B4 := Lib.hid (B3.out.alloc B3.out.size (.cells #[] 3))
    have he4 : wq.heap.size ≤ w3.heap.size := B3.out.size
    refine hK.out _ _ (CE.out _ B4.out) (fun hHeld4 => ?_)
    generalize hge : w3.heap.size = e4 at S4 B4 he4 hHeld4 ⊢
    generalize World.alloc w3 _ = w4 at S4 B4 hHeld4 ⊢
    clear hK K hge S3 B3
    refine wpAnyH_ready (rs := [3]) (by kernel_rfl) (by simp) ?_
    refine AllReadyH.cons rfl (fun K hK => ?_) AllReadyH.nil
    have SP := Lib.hid (S4.out.pick 0 rfl)
    simp only [List.eraseIdx_cons_zero] at SP
    have OW := Lib.hid (own_flat (SP.out.own 0 rfl).1).1
    refine step_app_rd rfl (.tmp 6) (.tmp 8) 25 (by rfl) Try.underlying25 w.heap.size (.slice (some ⟨e4, 0, none⟩) 0 0) [] d.mn (by rfl) (by exact OW.out) _ (by rfl) (by exact M1.out.below S4.out.1 (Nat.le_refl _)) N1.out (by simp only [List.length_nil]; omega) S4.out.1.size ?_
    intro v5 w5 hown hg hat
    have S5 := Lib.hid (SP.out.appRow (by exact hown) hg hat)
    obtain ⟨A5, a5, rfl⟩ : ∃ A c, v5 = .slice A d.mn.length c := slice_ints (S5.out.rd 0 rfl)
    have B5 := Lib.hid (B4.out.grown hg B4.out.size (fun k hk => by simp [Value.ownBlock] at hk; have := he4; omega))
    refine hK.out _ _ (CE.out _ B5.out) (fun hHeld5 => ?_)
    clear hK K hown hg hat SP OW S4 B4
    refine wpAnyH_ready (rs := [7]) (by kernel_rfl) (by simp) ?_
    refine AllReadyH.cons rfl (fun K hK => ?_) AllReadyH.nil
    have SP := Lib.hid (S5.out.pick 1 rfl)
    simp only [List.eraseIdx_cons_succ, List.eraseIdx_cons_zero] at SP
    have OW := Lib.hid (own_flat (SP.out.own 0 rfl).1).1
    refine step_app_rd rfl (.tmp 10) (.tmp 12) 25 (by rfl) Try.underlying25 w.heap.size (.slice (some ⟨e3, 0, none⟩) 0 0) [] d.mx (by rfl) (by exact OW.out) _ (by rfl) (by exact M2.out.below S5.out.1 (Nat.le_refl _)) N2.out (by simp only [List.length_nil]; omega) S5.out.1.size ?_
    intro v6 w6 hown hg hat
    have S6 := Lib.hid (SP.out.appRow (by exact hown) hg hat)
    obtain ⟨A6, a6, rfl⟩ : ∃ A c, v6 = .slice A d.mx.length c := slice_ints (S6.out.rd 0 rfl)
    have B6 := Lib.hid (B5.out.grown hg B5.out.size (fun k hk => by simp [Value.ownBlock] at hk; have := he3; omega))
    refine hK.out _ _ (CE.out _ B6.out) (fun hHeld6 => ?_)
    clear hK K hown hg hat SP OW S5 B5
    refine wpAnyH_take (i := 8) (v := ?_) rfl (by kernel_rfl) (by kernel_rfl) (by kernel_rfl) (fun _ _ _ h => h) (Or.inl ⟨by rfl, ?_⟩) (by assumption) ?_
    rotate_left
    · (intro W hSw; (try dsimp only at hSw); go_simp <;> with_reducible rfl)
    (try simp only [Act.put, List.getElem_toArray, List.getElem_cons_succ, List.getElem_cons_zero, List.setIfInBounds_toArray, List.set_cons_succ, List.set_cons_zero])
    obtain ⟨y0, y1, y2, yf⟩ := (S6.out.bk 2 rfl).c3
    refine wpAnyH_ready (rs := [10]) (by kernel_rfl) (by simp) ?_
    refine AllReadyH.cons rfl (fun K hK => ?_) AllReadyH.nil
    go_simp
    have S7 := Lib.hid (((S6.out.boxSet 2 rfl 0 (.slice A5 d.mn.length a5)).boxSet 2 rfl 1 (.slice A6 d.mx.length a6)).boxSet 2 rfl 2 (.slice none 0 0))
    simp only [List.set_cons_zero, List.set_cons_succ] at S7
    refine hK.out _ _ (CE.out _ (((B6.out.setCell (by exact hg0) _).setCell (by exact hg0) _).setCell (by exact hg0) _)) (fun hHeld7 => ?_)
    clear hK K y0 y1 y2 yf S6
    refine wpAnyH_done (by kernel_rfl) ?_ _
    go_wp2_with fail
    go_meet
    case rel => exact ⟨_, _, _, _, _, _, _, rfl, (((S7.out.pick 1 rfl).pick 1 rfl).pick 2 rfl)⟩
  case rest =>
    obtain ⟨gb, A1, A2, a1, a2, F1, F2, rfl, hS⟩ := hcut
    have S2 := Lib.hid (hS.nilR 25 1 cellsI1)
    clear S0q hS S1z hlw
    obtain ⟨e0, e1, e2, ef⟩ := (S2.out.bk 5 rfl).c3
    go_wp2_with fail
    clear e0 e1 e2 ef
    go_loopw [18] (fun i wr => ∃ (k : Nat) (U3 : Option Addr) (u3 : Nat) (F3 : List Nat), k ≤ d.md.length ∧ i = .int .i64 k ∧ Sn w wr [⟨trSu (d.md.take k), .slice U3 k u3, F3⟩, boxI gb 40 [.slice A1 d.mn.length a1, .slice A2 d.mx.length a2, .slice U3 k u3], ⟨trI d.mx, .slice A2 d.mx.length a2, F2⟩, ⟨trI d.mn, .slice A1 d.mn.length a1, F1⟩, boxI (w.heap.size + 1) 40 [.slice none 0 0, .slice none 0 0, .slice none 0 0], boxI w.heap.size 40 [.slice D1 d.mn.length t1, .slice D2 d.mx.length t2, .slice D3 d.md.length t3]]) (fun i _ => d.md.length - (intOf i).toNat)
    case atStart => exact ⟨0, none, 0, _, Nat.zero_le _, rfl, S2.out⟩
    case round =>
      obtain ⟨k, U3, u3, F3, hkl, rfl, hS⟩ := hrel
      have S3 := Lib.hid hS
      clear hS S2
      by_cases hlt : k < d.md.length
      · have hlt' : (k : Int) < (d.md.length : Int) := by omega
        have k0 : (0 : Int) ≤ (k : Int) := by omega
        obtain ⟨b3, o3, rfl, hb3, hc3⟩ := Y3.out k hlt
        obtain ⟨A5, c5, hc3b, rm5, nl5⟩ := hc3 k hlt
        have z3 := (S3.out.1.cell (p := ⟨b3, o3 + k, none⟩) hb3).trans hc3b
        have RM := Lib.hid (rd_flat rm5)
        have NM := Lib.hid nl5
        have LM := Lib.hid (HSU.out k hlt)
        have HLN := Lib.hid (show (d.md.take k).length = k from by rw [List.length_take]; omega)
        have NX := Lib.hid (show d.md.take k ++ [d.md[k]] = d.md.take (k + 1) from by rw [List.take_succ_eq_append_getElem hlt])
        generalize d.md[k] = row at z3 RM NM LM NX
        clear hc3 hc3b rm5 nl5
        obtain ⟨y0, y1, y2, yf⟩ := (S3.out.bk 1 rfl).c3
        go_wp2_with fail
        have hly := (S3.out.bk 1 rfl).lt
        obtain ⟨_, _, _, _, hF0⟩ := rowsD_raw (S3.out.own 0 rfl).1
        have hng : gb ∉ (Value.slice U3 k u3).ownBlock.toList := fun h => S3.out.2.apart (i := 0) (j := 1) rfl rfl (by omega) gb (by rw [hF0]; exact List.mem_append.2 (.inl h)) (by simp [boxI])
        have S9 := Lib.hid S3.out.drew1
        clear S3 hF0 z3
        have CE := Lib.hid (fun (W : World) (h : Wr (Value.slice U3 k u3).ownBlock.toList wr.drew W) => show Hid (Wr (Value.slice U3 k u3).ownBlock.toList wr.drew W) ∧ W.cell? ⟨gb, 2, none⟩ = some (.slice U3 k u3) from ⟨Lib.hid h, (wr_cell h (p := ⟨gb, 2, none⟩) hly hng).trans (by exact by simpa using y2)⟩)
        have INIT := Lib.hid (CE.out _ (Wr.refl _ _))
        have KW := Lib.hid (fun (W2 W : World) (hb : Wr (Value.slice U3 k u3).ownBlock.toList W W2) (h : Hid (Wr (Value.slice U3 k u3).ownBlock.toList wr.drew W) ∧ W.cell? ⟨gb, 2, none⟩ = some (.slice U3 k u3)) => CE.out W2 (h.1.out.trans hb))
        clear y0 y1 y2 yf hly hng
        refine wpAnyZ_start 8 (fun W => Hid (Wr (Value.slice U3 k u3).ownBlock.toList wr.drew W) ∧ W.cell? ⟨gb, 2, none⟩ = some (.slice U3 k u3)) (by kernel_rfl) INIT.out (fun hHeld => ?_)
        clear INIT
        generalize hwd : wr.drew = wd at S9 CE KW hHeld ⊢
        refine wpAnyZ_take (i := 0) (v := ?_) rfl (by kernel_rfl) (by kernel_rfl) (by kernel_rfl) (fun _ _ _ h => h) (Or.inl ⟨by rfl, ?_⟩) (by assumption) ?_
        rotate_left
        · (intro W hSw; (try dsimp only at hSw); go_simp <;> with_reducible rfl)
        (try simp only [Act.put])
        refine wpAnyZ_take (i := 1) (v := ?_) rfl (by kernel_rfl) (by kernel_rfl) (by kernel_rfl) (fun _ _ _ h => h) (Or.inl ⟨by rfl, ?_⟩) (by assumption) ?_
        rotate_left
        · (intro W hSw; (try dsimp only at hSw); go_simp <;> with_reducible rfl)
        (try simp only [Act.put])
        refine wpAnyZ_take (i := 3) (v := ?_) rfl (by kernel_rfl) (by kernel_rfl) (by kernel_rfl) (fun _ _ _ h => h) (Or.inl ⟨by rfl, ?_⟩) (by assumption) ?_
        rotate_left
        · (intro W hSw; (try dsimp only at hSw); go_simp <;> with_reducible rfl)
        (try simp only [Act.put])
        have S4 := Lib.hid S9.out.emptyI
        have he : wd.heap.size ≤ wd.heap.size := Nat.le_refl _
        refine wpAnyZ_one (i := 2) (by kernel_rfl) rfl (fun K hK => ?_)
        go_simp
        refine hK.out _ _ (KW.out _ _ (Wr.of_below ((Below.refl _ _).alloc (Nat.le_refl _) _) (Nat.le_refl _)) hHeld) (fun hHeld2 => ?_)
        clear hK K
        generalize hge : wd.heap.size = ee at S4 he ⊢
        generalize World.alloc wd _ = w2 at S4 hHeld2 ⊢
        have OW := Lib.hid (own_flat (S4.out.own 0 rfl).1).1
        refine wpAnyZ_one (i := 4) (by kernel_rfl) rfl (fun K hK => ?_)
        refine step_app_rd rfl (.tmp 24) (.tmp 25) 25 (by rfl) Try.underlying25 w.heap.size (.slice (some ⟨ee, 0, none⟩) 0 0) [] row (by rfl) (by exact OW.out) _ (by rfl) (by exact RM.out.below S4.out.1 (Nat.le_refl _)) NM.out (by have := LM.out; simp only [List.length_nil]; omega) S4.out.1.size ?_
        intro v7 w3 hown hg hat
        have S10 := Lib.hid (S4.out.appRow (by exact hown) hg hat)
        obtain ⟨A7, c7, rfl⟩ : ∃ A c, v7 = .slice A row.length c := slice_ints (S10.out.rd 0 rfl)
        refine hK.out _ _ (CE.out _ (hHeld2.1.out.fresh (Wr.of_grown hg) (by rw [hge]; exact Nat.le_refl _))) (fun hHeld3 => ?_)
        clear hK K hown hg hat OW S4 he hge hwd
        have S11 := Lib.hid (show Sn w w3 (⟨trI row, .slice A7 row.length c7, (Value.slice A7 row.length c7).ownBlock.toList⟩ :: ⟨trSu (d.md.take k), .slice U3 k u3, F3⟩ :: _) from S10.out)
        clear S9 S10
        have SW := Lib.hid S11.out.wrap
        obtain ⟨vs, G, ov, ol, hF⟩ := rowsD_raw (SW.out.own 1 rfl).1
        rw [HLN.out] at ov
        have OV := Lib.hid ov
        have OL := Lib.hid ol
        have HF := Lib.hid hF
        have hzs := S11.out.1.size
        clear ov ol hF
        refine wpAnyZ_one (i := 5) (by kernel_rfl) rfl (fun K hK => ?_)
        go_simp
        refine hK.out _ _ (KW.out _ _ (Wr.of_below ((Below.refl _ _).alloc (Nat.le_refl _) _) (Nat.le_refl _)) hHeld3) (fun hHeld5 => ?_)
        clear hK K
        refine wpAnyZ_one (i := 6) (by kernel_rfl) rfl (fun K hK => ?_)
        refine step_append_lies _ (by rfl) (.tmp 23) (.tmp 27) 28 (by rfl) w.heap.size 25 ii (.slice none 0 0) 1 24 Try.underlying28 hj0 hjz hjs hjb rfl (by decide) _ k vs (by rfl) (by exact OV.out.alloc _) ⟨w3.heap.size, 0, none⟩ 1 1 [.slice A7 row.length c7] (by rfl) (by rfl) (by exact one_cell _ _ _) (by simp [Value.oneCell']) (by decide) (by unfold maxLen; omega) (by omega) (by simp; omega) (w3.heap.size + 1) (by simp) ?_
        intro g' c' w8 hown8 hg8 hat8 hlt8
        have hg9 : (w3.alloc (.cells #[.slice A7 row.length c7] 25)).grownBy w8 (Value.slice U3 k u3).ownBlock := hg8
        have hat9 : (Value.slice (some ⟨g', 0, none⟩) (k + 1) c').ownBlock = (Value.slice U3 k u3).ownBlock ∨ (Value.slice (some ⟨g', 0, none⟩) (k + 1) c').ownBlock = some (w3.heap.size + 1) := by
          have h4 : (Value.slice U3 k u3).ownBlock = some g' ∨ g' = w3.heap.size + 1 := hat8
          rcases h4 with h4 | h4
          · exact .inl h4.symm
          · exact .inr (by subst h4; rfl)
        obtain ⟨F3', h9⟩ := Sn.appG (f := cellsI1) (x := row) (by rw [HLN.out]) SW.out OL.out HF.out hown8 hg9 hat9
        have S12 := Lib.hid h9
        refine hK.out _ _ (KW.out _ _ (Wr.of_grown hg9) hHeld5) (fun hHeld6 => ?_)
        clear hK K hg8 hg9 hat8 hat9 h9 hown8 SW OV OL HF hlt8 S11
        rw [NX.out] at S12
        obtain ⟨f0, f1, f2, ff⟩ := (S12.out.bk 1 rfl).c3
        refine wpAnyZ_take (i := 7) (v := ?_) rfl (by kernel_rfl) (by kernel_rfl) (by kernel_rfl) (fun _ _ _ h => h) (Or.inl ⟨by rfl, ?_⟩) (by assumption) ?_
        rotate_left
        · (intro W hSw; (try dsimp only at hSw); go_simp <;> with_reducible rfl)
        (try simp only [Act.put])
        refine wpAnyZ_last (by kernel_rfl) (by kernel_rfl) rfl (fun K hK => ?_)
        go_simp
        refine hK.out _ _ ?_
        clear hK K
        have S13 := Lib.hid (S12.out.boxSet 1 rfl 2 (.slice (some ⟨g', 0, none⟩) (k + 1) c'))
        simp only [List.set_cons_zero, List.set_cons_succ] at S13
        generalize World.setCell w8 _ _ = w9 at S13 ⊢
        clear S12 KW CE f0 f1 f2 ff
        go_wp2
        go_roundw
        case rel => exact ⟨k + 1, some ⟨g', 0, none⟩, c', F3', by omega, by go_num, S13.out⟩
        case measure => simp [intOf]; omega
      · have hge : ¬ (k : Int) < (d.md.length : Int) := by omega
        obtain rfl : k = d.md.length := by omega
        rw [List.take_length] at S3
        obtain ⟨y0, y1, y2, yf⟩ := (S3.out.bk 1 rfl).c3
        obtain ⟨q0, q1, q2, qf⟩ := (S3.out.bk 4 rfl).c3
        have hgr : gb ≠ w.heap.size + 1 := fun e => S3.out.2.apart (i := 1) (j := 4) rfl rfl (by omega) gb (by simp [boxI]) (by simp [boxI, e])
        go_wp2
        have SZ := ((S3.out.boxSet 4 rfl 0 (.slice A1 d.mn.length a1)).boxSet 4 rfl 1 (.slice A2 d.mx.length a2)).boxSet 4 rfl 2 (.slice U3 d.md.length u3)
        have P := SZ.nil0
        have P := (P.pick 1 rfl).pack
        have P := (P.pick 2 rfl).pack
        have P := (P.pick 2 rfl).pack
        refine bodyPost_ret (v := .agg #[.slice A1 d.mn.length a1, .slice A2 d.mx.length a2, .slice U3 d.md.length u3]) (by simp [results, Try.results66, go_sem, q0, q1, q2]) rfl (by first | exact ⟨_, _, rfl, (P.own 0 rfl).1, (P.own 0 rfl).2, SZ.1⟩ | exact ⟨_, (P.own 0 rfl).1, (P.own 0 rfl).2, SZ.1⟩ | exact ⟨_, rfl, _, (P.own 0 rfl).1, (P.own 0 rfl).2, SZ.1⟩)
end Go.Proofs.Ytdbnhdiboemmiaa
