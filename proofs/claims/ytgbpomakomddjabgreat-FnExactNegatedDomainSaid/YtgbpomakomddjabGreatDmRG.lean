/- DERIVED. CONTRACTS of chapter 13: Restrict of the model. -/
import Derived.Test.YtgbpomakomddjabGreatDmG
import Derived.Test.YtgbpomakomddjabGreatRegZ
import Derived.Test.YtgbpomakomddjabGreatTPj
import Derived.Deep.AppendLies
import Derived.Deep.CutRange
import Derived.Test.YtgbpomakomddjabGreatTFl
import Derived.Deep.QuietTactic

section
namespace Go.Proofs.YtgbpomakomddjabGreat
open Go.RowKit Go.Shelf
set_option linter.unusedVariables false

theorem su_ones : ∀ (l : List Int), (trSu (l.map fun m => [m])).sz = l.length + l.length
  | [] => by simp [su_sz, szL]
  | x :: l => by
    have h := su_ones l
    rw [su_sz] at h ⊢
    simp only [List.map_cons, List.flatMap_cons, szL_app, List.length_cons, List.length_map] at h ⊢
    simp only [cellsI1, szL, trI_sz, List.length_cons, List.length_nil]
    omega
theorem sing_sz (s : Sc) : (trDm (singD s)).sz ≤ 2 * (trSc s).sz := by
  have h : (trSc s).sz = s.st.length + (s.mo.length + 0) := by { show szL (cellsSc s) = _; simp only [cellsSc, szL, trI_sz] }
  rw [dm_sz, h]
  show s.st.length + (s.st.length + ((trSu (s.mo.map fun m => [m])).sz + 0)) ≤ _
  rw [su_ones]
  omega
set_option maxRecDepth 100000 in
set_option maxHeartbeats 8000000 in
theorem specCopyD_any (d : Dm) (v : Value) (w : World) {BB : Nat} {GG : List Nat} (ho : (trDm d).own w BB v GG) (hsz : (trDm d).sz ≤ 1048576) :
    Calls Tryz.prog 76 #[v] w fun e w' => ∃ u F, e = .returned u ∧ (trDm d).own w' w.heap.size u F ∧ F.Nodup ∧ Below w.heap.size w w' := by
  obtain ⟨v1, v2, v3, G1, G2, G3, rfl, o1, o2, o3⟩ := own_dom ho
  obtain ⟨D1, t1, rfl⟩ := slice_ints (Tr.own_rd _ _ _ o1)
  obtain ⟨D2, t2, rfl⟩ := slice_ints (Tr.own_rd _ _ _ o2)
  obtain ⟨hd3, D3, t3, rfl, y3⟩ := own_rowsI o3
  have M1 := Lib.hid (rd_flat (Tr.own_rd _ _ _ o1))
  have M2 := Lib.hid (rd_flat (Tr.own_rd _ _ _ o2))
  have N1 := Lib.hid (nil_int o1)
  have N2 := Lib.hid (nil_int o2)
  have Y3 := Lib.hid y3
  clear ho o1 o2 o3 y3
  rw [dm_sz] at hsz
  have HSU := Lib.hid (fun j (h : j < d.md.length) => Nat.le_trans (su_at h) (by omega : (trSu d.md).sz ≤ 1048576))
  have hmd : d.md.length ≤ 1048576 := by have := su_sz d.md; omega
  obtain ⟨ii, hj0, hjz, hjs, hjb⟩ := info_parts infoInt_t
  have S0 := Lib.hid ((((Sn.start w).box 45 [.slice D1 d.mn.length t1, .slice D2 d.mx.length t2, .slice D3 d.md.length t3]).box 45 [.slice none 0 0, .slice none 0 0, .slice none 0 0]))
  simp only [World.size_alloc] at S0
  go_enter Tryz.func76, Tryz.ntmps76
  go_wp2_with fail
  generalize hwq : World.alloc (World.alloc w _) _ = wq
  have hS : Sn w wq [boxI (w.heap.size + 1) 45 [.slice none 0 0, .slice none 0 0, .slice none 0 0], boxI w.heap.size 45 [.slice D1 d.mn.length t1, .slice D2 d.mx.length t2, .slice D3 d.md.length t3]] := hwq ▸ S0.out
  have S1z := Lib.hid (hS.bk 1 rfl).lt
  have hlw := S1z.out
  have S0q := Lib.hid hS
  clear hwq S0 hS
  go_cut [3] from 6 to 14 (fun c wx => ∃ (gb : Nat) (A1 A2 : Option Addr) (a1 a2 : Nat) (F1 F2 : List Nat), c = .pointer (some ⟨gb, 0, none⟩) ∧ Sn w wx [boxI gb 45 [.slice A1 d.mn.length a1, .slice A2 d.mx.length a2, .slice none 0 0], ⟨trI d.mx, .slice A2 d.mx.length a2, F2⟩, ⟨trI d.mn, .slice A1 d.mn.length a1, F1⟩, boxI (w.heap.size + 1) 45 [.slice none 0 0, .slice none 0 0, .slice none 0 0], boxI w.heap.size 45 [.slice D1 d.mn.length t1, .slice D2 d.mx.length t2, .slice D3 d.md.length t3]])
  case first =>
    obtain ⟨z0, z1, z2, zf⟩ := (S0q.out.bk 1 rfl).c3
    have S1 := Lib.hid S0q.out.drew1
    have B0 := Lib.hid ((Below.refl wq.heap.size wq).drew)
    clear S0q
    have CE := Lib.hid (fun (W : World) (h : Below wq.heap.size wq W) => show Hid (Below wq.heap.size wq W) ∧ W.cell? ⟨w.heap.size, 0, none⟩ = some (.slice D1 d.mn.length t1) ∧ W.cell? ⟨w.heap.size, 1, none⟩ = some (.slice D2 d.mx.length t2) from ⟨Lib.hid h, (h.cell (p := ⟨w.heap.size, 0, none⟩) hlw).trans (by exact by simpa using z0), (h.cell (p := ⟨w.heap.size, 1, none⟩) hlw).trans (by exact by simpa using z1)⟩)
    refine wp_region_held_drew (S := fun W => Hid (Below wq.heap.size wq W) ∧ W.cell? ⟨w.heap.size, 0, none⟩ = some (.slice D1 d.mn.length t1) ∧ W.cell? ⟨w.heap.size, 1, none⟩ = some (.slice D2 d.mx.length t2)) (by kernel_rfl) (CE.out _ (Below.refl _ _).drew) (fun hHeld => ?_)
    clear z0 z1 z2 zf
    generalize hwd : wq.drew = wd at S1 B0 hHeld ⊢
    clear hwd
    refine wpAnyH_take (i := 1) (v := ?_) rfl (by kernel_rfl) (by kernel_rfl) (by kernel_rfl) (fun _ _ _ h => h) (Or.inl ⟨by rfl, ?_⟩) (by assumption) ?_
    rotate_left
    · (intro W hSw; (try dsimp only at hSw); go_simp <;> with_reducible rfl)
    (try simp only [Act.put, List.getElem_toArray, List.getElem_cons_succ, List.getElem_cons_zero, List.setIfInBounds_toArray, List.set_cons_succ, List.set_cons_zero])
    refine wpAnyH_take (i := 2) (v := ?_) rfl (by kernel_rfl) (by kernel_rfl) (by kernel_rfl) (fun _ _ _ h => h) (Or.inl ⟨by rfl, ?_⟩) (by assumption) ?_
    rotate_left
    · (intro W hSw; (try dsimp only at hSw); go_simp <;> with_reducible rfl)
    (try simp only [Act.put, List.getElem_toArray, List.getElem_cons_succ, List.getElem_cons_zero, List.setIfInBounds_toArray, List.set_cons_succ, List.set_cons_zero])
    refine wpAnyH_take (i := 5) (v := ?_) rfl (by kernel_rfl) (by kernel_rfl) (by kernel_rfl) (fun _ _ _ h => h) (Or.inl ⟨by rfl, ?_⟩) (by assumption) ?_
    rotate_left
    · (intro W hSw; (try dsimp only at hSw); go_simp <;> with_reducible rfl)
    (try simp only [Act.put, List.getElem_toArray, List.getElem_cons_succ, List.getElem_cons_zero, List.setIfInBounds_toArray, List.set_cons_succ, List.set_cons_zero])
    refine wpAnyH_take (i := 6) (v := ?_) rfl (by kernel_rfl) (by kernel_rfl) (by kernel_rfl) (fun _ _ _ h => h) (Or.inl ⟨by rfl, ?_⟩) (by assumption) ?_
    rotate_left
    · (intro W hSw; (try dsimp only at hSw); go_simp <;> with_reducible rfl)
    (try simp only [Act.put, List.getElem_toArray, List.getElem_cons_succ, List.getElem_cons_zero, List.setIfInBounds_toArray, List.set_cons_succ, List.set_cons_zero])
    refine wpAnyH_ready (rs := [0, 4, 9]) (by kernel_rfl) (by simp) ?_
    refine AllReadyH.cons rfl (fun K hK => ?_) ?_
    · go_simp
      have S2 := Lib.hid (S1.out.emptyI)
      have B2 := Lib.hid (B0.out.alloc B0.out.size (.cells #[] 3))
      have he2 : wq.heap.size ≤ wd.heap.size := B0.out.size
      refine hK.out _ _ (CE.out _ B2.out) (fun hHeld2 => ?_)
      generalize hge : wd.heap.size = e2 at S2 B2 he2 hHeld2 ⊢
      generalize World.alloc wd _ = w2 at S2 B2 hHeld2 ⊢
      clear hK K hge S1 B0
      refine wpAnyH_ready (rs := [3, 4, 9]) (by kernel_rfl) (by simp) ?_
      refine AllReadyH.cons rfl (fun K hK => ?_) ?_
      · have SP := Lib.hid (S2.out.pick 0 rfl)
        simp only [List.eraseIdx_cons_zero] at SP
        have OW := Lib.hid (own_flat (SP.out.own 0 rfl).1).1
        refine step_app_rd rfl (.tmp 6) (.tmp 8) 25 (by rfl) Tryz.underlying25 w.heap.size (.slice (some ⟨e2, 0, none⟩) 0 0) [] d.mn (by rfl) (by exact OW.out) _ (by rfl) (by exact M1.out.below S2.out.1 (Nat.le_refl _)) N1.out (by simp only [List.length_nil]; omega) S2.out.1.size ?_
        intro v3 w3 hown hg hat
        have S3 := Lib.hid (SP.out.appRow (by exact hown) hg hat)
        obtain ⟨A3, a3, rfl⟩ : ∃ A c, v3 = .slice A d.mn.length c := slice_ints (S3.out.rd 0 rfl)
        have B3 := Lib.hid (B2.out.grown hg B2.out.size (fun k hk => by simp [Value.ownBlock] at hk; have := he2; omega))
        refine hK.out _ _ (CE.out _ B3.out) (fun hHeld3 => ?_)
        clear hK K hown hg hat SP OW S2 B2
        refine wpAnyH_ready (rs := [4, 9]) (by kernel_rfl) (by simp) ?_
        refine AllReadyH.cons rfl (fun K hK => ?_) ?_
        · go_simp
          have S4 := Lib.hid (S3.out.emptyI)
          have B4 := Lib.hid (B3.out.alloc B3.out.size (.cells #[] 3))
          have he4 : wq.heap.size ≤ w3.heap.size := B3.out.size
          refine hK.out _ _ (CE.out _ B4.out) (fun hHeld4 => ?_)
          generalize hge : w3.heap.size = e4 at S4 B4 he4 hHeld4 ⊢
          generalize World.alloc w3 _ = w4 at S4 B4 hHeld4 ⊢
          clear hK K hge S3 B3
          refine wpAnyH_ready (rs := [7, 9]) (by kernel_rfl) (by simp) ?_
          refine AllReadyH.cons rfl (fun K hK => ?_) ?_
          · have SP := Lib.hid (S4.out.pick 0 rfl)
            simp only [List.eraseIdx_cons_zero] at SP
            have OW := Lib.hid (own_flat (SP.out.own 0 rfl).1).1
            refine step_app_rd rfl (.tmp 10) (.tmp 12) 25 (by rfl) Tryz.underlying25 w.heap.size (.slice (some ⟨e4, 0, none⟩) 0 0) [] d.mx (by rfl) (by exact OW.out) _ (by rfl) (by exact M2.out.below S4.out.1 (Nat.le_refl _)) N2.out (by simp only [List.length_nil]; omega) S4.out.1.size ?_
            intro v5 w5 hown hg hat
            have S5 := Lib.hid (SP.out.appRow (by exact hown) hg hat)
            obtain ⟨A5, a5, rfl⟩ : ∃ A c, v5 = .slice A d.mx.length c := slice_ints (S5.out.rd 0 rfl)
            have B5 := Lib.hid (B4.out.grown hg B4.out.size (fun k hk => by simp [Value.ownBlock] at hk; have := he4; omega))
            refine hK.out _ _ (CE.out _ B5.out) (fun hHeld5 => ?_)
            clear hK K hown hg hat SP OW S4 B4
            refine wpAnyH_take (i := 8) (v := ?_) rfl (by kernel_rfl) (by kernel_rfl) (by kernel_rfl) (fun _ _ _ h => h) (Or.inl ⟨by rfl, ?_⟩) (by assumption) ?_
            rotate_left
            · (intro W hSw; (try dsimp only at hSw); go_simp <;> with_reducible rfl)
            (try simp only [Act.put, List.getElem_toArray, List.getElem_cons_succ, List.getElem_cons_zero, List.setIfInBounds_toArray, List.set_cons_succ, List.set_cons_zero])
            refine wpAnyH_ready (rs := [9]) (by kernel_rfl) (by simp) ?_
            refine AllReadyH.cons rfl (fun K hK => ?_) AllReadyH.nil
            go_simp
            have S6 := Lib.hid (S5.out.box 45 [.slice none 0 0, .slice none 0 0, .slice none 0 0])
            have B6 := Lib.hid (B5.out.alloc B5.out.size (.cells #[.slice none 0 0, .slice none 0 0, .slice none 0 0] 45))
            have hg0 : wq.heap.size ≤ w5.heap.size := B5.out.size
            refine hK.out _ _ (CE.out _ B6.out) (fun hHeld6 => ?_)
            generalize hgg : w5.heap.size = gb at S6 B6 hg0 hHeld6 ⊢
            generalize World.alloc w5 _ = w6 at S6 B6 hHeld6 ⊢
            clear hK K hgg S5 B5
            obtain ⟨y0, y1, y2, yf⟩ := (S6.out.bk 0 rfl).c3
            refine wpAnyH_ready (rs := [10]) (by kernel_rfl) (by simp) ?_
            refine AllReadyH.cons rfl (fun K hK => ?_) AllReadyH.nil
            go_simp
            have S7 := Lib.hid (((S6.out.boxSet 0 rfl 0 (.slice A3 d.mn.length a3)).boxSet 0 rfl 1 (.slice A5 d.mx.length a5)).boxSet 0 rfl 2 (.slice none 0 0))
            simp only [List.set_cons_zero, List.set_cons_succ] at S7
            refine hK.out _ _ (CE.out _ (((B6.out.setCell (by exact hg0) _).setCell (by exact hg0) _).setCell (by exact hg0) _)) (fun hHeld7 => ?_)
            clear hK K y0 y1 y2 yf S6
            refine wpAnyH_done (by kernel_rfl) ?_ _
            go_wp2_with fail
            go_meet
            case rel => exact ⟨_, _, _, _, _, _, _, rfl, (((S7.out.pick 2 rfl).pick 2 rfl).pick 2 rfl)⟩
          refine AllReadyH.cons rfl (fun K hK => ?_) AllReadyH.nil
          go_simp
          have S5 := Lib.hid (S4.out.box 45 [.slice none 0 0, .slice none 0 0, .slice none 0 0])
          have B5 := Lib.hid (B4.out.alloc B4.out.size (.cells #[.slice none 0 0, .slice none 0 0, .slice none 0 0] 45))
          have hg0 : wq.heap.size ≤ w4.heap.size := B4.out.size
          refine hK.out _ _ (CE.out _ B5.out) (fun hHeld5 => ?_)
          generalize hgg : w4.heap.size = gb at S5 B5 hg0 hHeld5 ⊢
          generalize World.alloc w4 _ = w5 at S5 B5 hHeld5 ⊢
          clear hK K hgg S4 B4
          refine wpAnyH_ready (rs := [7]) (by kernel_rfl) (by simp) ?_
          refine AllReadyH.cons rfl (fun K hK => ?_) AllReadyH.nil
          have SP := Lib.hid (S5.out.pick 1 rfl)
          simp only [List.eraseIdx_cons_succ, List.eraseIdx_cons_zero] at SP
          have OW := Lib.hid (own_flat (SP.out.own 0 rfl).1).1
          refine step_app_rd rfl (.tmp 10) (.tmp 12) 25 (by rfl) Tryz.underlying25 w.heap.size (.slice (some ⟨e4, 0, none⟩) 0 0) [] d.mx (by rfl) (by exact OW.out) _ (by rfl) (by exact M2.out.below S5.out.1 (Nat.le_refl _)) N2.out (by simp only [List.length_nil]; omega) S5.out.1.size ?_
          intro v6 w6 hown hg hat
          have S6 := Lib.hid (SP.out.appRow (by exact hown) hg hat)
          obtain ⟨A6, a6, rfl⟩ : ∃ A c, v6 = .slice A d.mx.length c := slice_ints (S6.out.rd 0 rfl)
          have B6 := Lib.hid (B5.out.grown hg B5.out.size (fun k hk => by simp [Value.ownBlock] at hk; have := he4; omega))
          refine hK.out _ _ (CE.out _ B6.out) (fun hHeld6 => ?_)
          clear hK K hown hg hat SP OW S5 B5
          refine wpAnyH_take (i := 8) (v := ?_) rfl (by kernel_rfl) (by kernel_rfl) (by kernel_rfl) (fun _ _ _ h => h) (Or.inl ⟨by rfl, ?_⟩) (by assumption) ?_
          rotate_left
          · (intro W hSw; (try dsimp only at hSw); go_simp <;> with_reducible rfl)
          (try simp only [Act.put, List.getElem_toArray, List.getElem_cons_succ, List.getElem_cons_zero, List.setIfInBounds_toArray, List.set_cons_succ, List.set_cons_zero])
          obtain ⟨y0, y1, y2, yf⟩ := (S6.out.bk 1 rfl).c3
          refine wpAnyH_ready (rs := [10]) (by kernel_rfl) (by simp) ?_
          refine AllReadyH.cons rfl (fun K hK => ?_) AllReadyH.nil
          go_simp
          have S7 := Lib.hid (((S6.out.boxSet 1 rfl 0 (.slice A3 d.mn.length a3)).boxSet 1 rfl 1 (.slice A6 d.mx.length a6)).boxSet 1 rfl 2 (.slice none 0 0))
          simp only [List.set_cons_zero, List.set_cons_succ] at S7
          refine hK.out _ _ (CE.out _ (((B6.out.setCell (by exact hg0) _).setCell (by exact hg0) _).setCell (by exact hg0) _)) (fun hHeld7 => ?_)
          clear hK K y0 y1 y2 yf S6
          refine wpAnyH_done (by kernel_rfl) ?_ _
          go_wp2_with fail
          go_meet
          case rel => exact ⟨_, _, _, _, _, _, _, rfl, (((S7.out.pick 2 rfl).pick 1 rfl).pick 2 rfl)⟩
        refine AllReadyH.cons rfl (fun K hK => ?_) AllReadyH.nil
        go_simp
        have S4 := Lib.hid (S3.out.box 45 [.slice none 0 0, .slice none 0 0, .slice none 0 0])
        have B4 := Lib.hid (B3.out.alloc B3.out.size (.cells #[.slice none 0 0, .slice none 0 0, .slice none 0 0] 45))
        have hg0 : wq.heap.size ≤ w3.heap.size := B3.out.size
        refine hK.out _ _ (CE.out _ B4.out) (fun hHeld4 => ?_)
        generalize hgg : w3.heap.size = gb at S4 B4 hg0 hHeld4 ⊢
        generalize World.alloc w3 _ = w4 at S4 B4 hHeld4 ⊢
        clear hK K hgg S3 B3
        refine wpAnyH_ready (rs := [4]) (by kernel_rfl) (by simp) ?_
        refine AllReadyH.cons rfl (fun K hK => ?_) AllReadyH.nil
        go_simp
        have S5 := Lib.hid (S4.out.emptyI)
        have B5 := Lib.hid (B4.out.alloc B4.out.size (.cells #[] 3))
        have he5 : wq.heap.size ≤ w4.heap.size := B4.out.size
        refine hK.out _ _ (CE.out _ B5.out) (fun hHeld5 => ?_)
        generalize hge : w4.heap.size = e5 at S5 B5 he5 hHeld5 ⊢
        generalize World.alloc w4 _ = w5 at S5 B5 hHeld5 ⊢
        clear hK K hge S4 B4
        refine wpAnyH_ready (rs := [7]) (by kernel_rfl) (by simp) ?_
        refine AllReadyH.cons rfl (fun K hK => ?_) AllReadyH.nil
        have SP := Lib.hid (S5.out.pick 0 rfl)
        simp only [List.eraseIdx_cons_zero] at SP
        have OW := Lib.hid (own_flat (SP.out.own 0 rfl).1).1
        refine step_app_rd rfl (.tmp 10) (.tmp 12) 25 (by rfl) Tryz.underlying25 w.heap.size (.slice (some ⟨e5, 0, none⟩) 0 0) [] d.mx (by rfl) (by exact OW.out) _ (by rfl) (by exact M2.out.below S5.out.1 (Nat.le_refl _)) N2.out (by simp only [List.length_nil]; omega) S5.out.1.size ?_
        intro v6 w6 hown hg hat
        have S6 := Lib.hid (SP.out.appRow (by exact hown) hg hat)
        obtain ⟨A6, a6, rfl⟩ : ∃ A c, v6 = .slice A d.mx.length c := slice_ints (S6.out.rd 0 rfl)
        have B6 := Lib.hid (B5.out.grown hg B5.out.size (fun k hk => by simp [Value.ownBlock] at hk; have := he5; omega))
        refine hK.out _ _ (CE.out _ B6.out) (fun hHeld6 => ?_)
        clear hK K hown hg hat SP OW S5 B5
        refine wpAnyH_take (i := 8) (v := ?_) rfl (by kernel_rfl) (by kernel_rfl) (by kernel_rfl) (fun _ _ _ h => h) (Or.inl ⟨by rfl, ?_⟩) (by assumption) ?_
        rotate_left
        · (intro W hSw; (try dsimp only at hSw); go_simp <;> with_reducible rfl)
        (try simp only [Act.put, List.getElem_toArray, List.getElem_cons_succ, List.getElem_cons_zero, List.setIfInBounds_toArray, List.set_cons_succ, List.set_cons_zero])
        obtain ⟨y0, y1, y2, yf⟩ := (S6.out.bk 1 rfl).c3
        refine wpAnyH_ready (rs := [10]) (by kernel_rfl) (by simp) ?_
        refine AllReadyH.cons rfl (fun K hK => ?_) AllReadyH.nil
        go_simp
        have S7 := Lib.hid (((S6.out.boxSet 1 rfl 0 (.slice A3 d.mn.length a3)).boxSet 1 rfl 1 (.slice A6 d.mx.length a6)).boxSet 1 rfl 2 (.slice none 0 0))
        simp only [List.set_cons_zero, List.set_cons_succ] at S7
        refine hK.out _ _ (CE.out _ (((B6.out.setCell (by exact hg0) _).setCell (by exact hg0) _).setCell (by exact hg0) _)) (fun hHeld7 => ?_)
        clear hK K y0 y1 y2 yf S6
        refine wpAnyH_done (by kernel_rfl) ?_ _
        go_wp2_with fail
        go_meet
        case rel => exact ⟨_, _, _, _, _, _, _, rfl, (((S7.out.pick 2 rfl).pick 1 rfl).pick 2 rfl)⟩
      refine AllReadyH.cons rfl (fun K hK => ?_) ?_
      · go_simp
        have S3 := Lib.hid (S2.out.emptyI)
        have B3 := Lib.hid (B2.out.alloc B2.out.size (.cells #[] 3))
        have he3 : wq.heap.size ≤ w2.heap.size := B2.out.size
        refine hK.out _ _ (CE.out _ B3.out) (fun hHeld3 => ?_)
        generalize hge : w2.heap.size = e3 at S3 B3 he3 hHeld3 ⊢
        generalize World.alloc w2 _ = w3 at S3 B3 hHeld3 ⊢
        clear hK K hge S2 B2
        refine wpAnyH_ready (rs := [3, 9]) (by kernel_rfl) (by simp) ?_
        refine AllReadyH.cons rfl (fun K hK => ?_) ?_
        · have SP := Lib.hid (S3.out.pick 1 rfl)
          simp only [List.eraseIdx_cons_succ, List.eraseIdx_cons_zero] at SP
          have OW := Lib.hid (own_flat (SP.out.own 0 rfl).1).1
          refine step_app_rd rfl (.tmp 6) (.tmp 8) 25 (by rfl) Tryz.underlying25 w.heap.size (.slice (some ⟨e2, 0, none⟩) 0 0) [] d.mn (by rfl) (by exact OW.out) _ (by rfl) (by exact M1.out.below S3.out.1 (Nat.le_refl _)) N1.out (by simp only [List.length_nil]; omega) S3.out.1.size ?_
          intro v4 w4 hown hg hat
          have S4 := Lib.hid (SP.out.appRow (by exact hown) hg hat)
          obtain ⟨A4, a4, rfl⟩ : ∃ A c, v4 = .slice A d.mn.length c := slice_ints (S4.out.rd 0 rfl)
          have B4 := Lib.hid (B3.out.grown hg B3.out.size (fun k hk => by simp [Value.ownBlock] at hk; have := he2; omega))
          refine hK.out _ _ (CE.out _ B4.out) (fun hHeld4 => ?_)
          clear hK K hown hg hat SP OW S3 B3
          refine wpAnyH_ready (rs := [7, 9]) (by kernel_rfl) (by simp) ?_
          refine AllReadyH.cons rfl (fun K hK => ?_) ?_
          · have SP := Lib.hid (S4.out.pick 1 rfl)
            simp only [List.eraseIdx_cons_succ, List.eraseIdx_cons_zero] at SP
            have OW := Lib.hid (own_flat (SP.out.own 0 rfl).1).1
            refine step_app_rd rfl (.tmp 10) (.tmp 12) 25 (by rfl) Tryz.underlying25 w.heap.size (.slice (some ⟨e3, 0, none⟩) 0 0) [] d.mx (by rfl) (by exact OW.out) _ (by rfl) (by exact M2.out.below S4.out.1 (Nat.le_refl _)) N2.out (by simp only [List.length_nil]; omega) S4.out.1.size ?_
            intro v5 w5 hown hg hat
            have S5 := Lib.hid (SP.out.appRow (by exact hown) hg hat)
            obtain ⟨A5, a5, rfl⟩ : ∃ A c, v5 = .slice A d.mx.length c := slice_ints (S5.out.rd 0 rfl)
            have B5 := Lib.hid (B4.out.grown hg B4.out.size (fun k hk => by simp [Value.ownBlock] at hk; have := he3; omega))
            refine hK.out _ _ (CE.out _ B5.out) (fun hHeld5 => ?_)
            clear hK K hown hg hat SP OW S4 B4
            refine wpAnyH_take (i := 8) (v := ?_) rfl (by kernel_rfl) (by kernel_rfl) (by kernel_rfl) (fun _ _ _ h => h) (Or.inl ⟨by rfl, ?_⟩) (by assumption) ?_
            rotate_left
            · (intro W hSw; (try dsimp only at hSw); go_simp <;> with_reducible rfl)
            (try simp only [Act.put, List.getElem_toArray, List.getElem_cons_succ, List.getElem_cons_zero, List.setIfInBounds_toArray, List.set_cons_succ, List.set_cons_zero])
            refine wpAnyH_ready (rs := [9]) (by kernel_rfl) (by simp) ?_
            refine AllReadyH.cons rfl (fun K hK => ?_) AllReadyH.nil
            go_simp
            have S6 := Lib.hid (S5.out.box 45 [.slice none 0 0, .slice none 0 0, .slice none 0 0])
            have B6 := Lib.hid (B5.out.alloc B5.out.size (.cells #[.slice none 0 0, .slice none 0 0, .slice none 0 0] 45))
            have hg0 : wq.heap.size ≤ w5.heap.size := B5.out.size
            refine hK.out _ _ (CE.out _ B6.out) (fun hHeld6 => ?_)
            generalize hgg : w5.heap.size = gb at S6 B6 hg0 hHeld6 ⊢
            generalize World.alloc w5 _ = w6 at S6 B6 hHeld6 ⊢
            clear hK K hgg S5 B5
            obtain ⟨y0, y1, y2, yf⟩ := (S6.out.bk 0 rfl).c3
            refine wpAnyH_ready (rs := [10]) (by kernel_rfl) (by simp) ?_
            refine AllReadyH.cons rfl (fun K hK => ?_) AllReadyH.nil
            go_simp
            have S7 := Lib.hid (((S6.out.boxSet 0 rfl 0 (.slice A4 d.mn.length a4)).boxSet 0 rfl 1 (.slice A5 d.mx.length a5)).boxSet 0 rfl 2 (.slice none 0 0))
            simp only [List.set_cons_zero, List.set_cons_succ] at S7
            refine hK.out _ _ (CE.out _ (((B6.out.setCell (by exact hg0) _).setCell (by exact hg0) _).setCell (by exact hg0) _)) (fun hHeld7 => ?_)
            clear hK K y0 y1 y2 yf S6
            refine wpAnyH_done (by kernel_rfl) ?_ _
            go_wp2_with fail
            go_meet
            case rel => exact ⟨_, _, _, _, _, _, _, rfl, (((S7.out.pick 2 rfl).pick 2 rfl).pick 2 rfl)⟩
          refine AllReadyH.cons rfl (fun K hK => ?_) AllReadyH.nil
          go_simp
          have S5 := Lib.hid (S4.out.box 45 [.slice none 0 0, .slice none 0 0, .slice none 0 0])
          have B5 := Lib.hid (B4.out.alloc B4.out.size (.cells #[.slice none 0 0, .slice none 0 0, .slice none 0 0] 45))
          have hg0 : wq.heap.size ≤ w4.heap.size := B4.out.size
          refine hK.out _ _ (CE.out _ B5.out) (fun hHeld5 => ?_)
          generalize hgg : w4.heap.size = gb at S5 B5 hg0 hHeld5 ⊢
          generalize World.alloc w4 _ = w5 at S5 B5 hHeld5 ⊢
          clear hK K hgg S4 B4
          refine wpAnyH_ready (rs := [7]) (by kernel_rfl) (by simp) ?_
          refine AllReadyH.cons rfl (fun K hK => ?_) AllReadyH.nil
          have SP := Lib.hid (S5.out.pick 2 rfl)
          simp only [List.eraseIdx_cons_succ, List.eraseIdx_cons_zero] at SP
          have OW := Lib.hid (own_flat (SP.out.own 0 rfl).1).1
          refine step_app_rd rfl (.tmp 10) (.tmp 12) 25 (by rfl) Tryz.underlying25 w.heap.size (.slice (some ⟨e3, 0, none⟩) 0 0) [] d.mx (by rfl) (by exact OW.out) _ (by rfl) (by exact M2.out.below S5.out.1 (Nat.le_refl _)) N2.out (by simp only [List.length_nil]; omega) S5.out.1.size ?_
          intro v6 w6 hown hg hat
          have S6 := Lib.hid (SP.out.appRow (by exact hown) hg hat)
          obtain ⟨A6, a6, rfl⟩ : ∃ A c, v6 = .slice A d.mx.length c := slice_ints (S6.out.rd 0 rfl)
          have B6 := Lib.hid (B5.out.grown hg B5.out.size (fun k hk => by simp [Value.ownBlock] at hk; have := he3; omega))
          refine hK.out _ _ (CE.out _ B6.out) (fun hHeld6 => ?_)
          clear hK K hown hg hat SP OW S5 B5
          refine wpAnyH_take (i := 8) (v := ?_) rfl (by kernel_rfl) (by kernel_rfl) (by kernel_rfl) (fun _ _ _ h => h) (Or.inl ⟨by rfl, ?_⟩) (by assumption) ?_
          rotate_left
          · (intro W hSw; (try dsimp only at hSw); go_simp <;> with_reducible rfl)
          (try simp only [Act.put, List.getElem_toArray, List.getElem_cons_succ, List.getElem_cons_zero, List.setIfInBounds_toArray, List.set_cons_succ, List.set_cons_zero])
          obtain ⟨y0, y1, y2, yf⟩ := (S6.out.bk 1 rfl).c3
          refine wpAnyH_ready (rs := [10]) (by kernel_rfl) (by simp) ?_
          refine AllReadyH.cons rfl (fun K hK => ?_) AllReadyH.nil
          go_simp
          have S7 := Lib.hid (((S6.out.boxSet 1 rfl 0 (.slice A4 d.mn.length a4)).boxSet 1 rfl 1 (.slice A6 d.mx.length a6)).boxSet 1 rfl 2 (.slice none 0 0))
          simp only [List.set_cons_zero, List.set_cons_succ] at S7
          refine hK.out _ _ (CE.out _ (((B6.out.setCell (by exact hg0) _).setCell (by exact hg0) _).setCell (by exact hg0) _)) (fun hHeld7 => ?_)
          clear hK K y0 y1 y2 yf S6
          refine wpAnyH_done (by kernel_rfl) ?_ _
          go_wp2_with fail
          go_meet
          case rel => exact ⟨_, _, _, _, _, _, _, rfl, (((S7.out.pick 2 rfl).pick 1 rfl).pick 2 rfl)⟩
        refine AllReadyH.cons rfl (fun K hK => ?_) AllReadyH.nil
        go_simp
        have S4 := Lib.hid (S3.out.box 45 [.slice none 0 0, .slice none 0 0, .slice none 0 0])
        have B4 := Lib.hid (B3.out.alloc B3.out.size (.cells #[.slice none 0 0, .slice none 0 0, .slice none 0 0] 45))
        have hg0 : wq.heap.size ≤ w3.heap.size := B3.out.size
        refine hK.out _ _ (CE.out _ B4.out) (fun hHeld4 => ?_)
        generalize hgg : w3.heap.size = gb at S4 B4 hg0 hHeld4 ⊢
        generalize World.alloc w3 _ = w4 at S4 B4 hHeld4 ⊢
        clear hK K hgg S3 B3
        refine wpAnyH_ready (rs := [3]) (by kernel_rfl) (by simp) ?_
        refine AllReadyH.cons rfl (fun K hK => ?_) AllReadyH.nil
        have SP := Lib.hid (S4.out.pick 2 rfl)
        simp only [List.eraseIdx_cons_succ, List.eraseIdx_cons_zero] at SP
        have OW := Lib.hid (own_flat (SP.out.own 0 rfl).1).1
        refine step_app_rd rfl (.tmp 6) (.tmp 8) 25 (by rfl) Tryz.underlying25 w.heap.size (.slice (some ⟨e2, 0, none⟩) 0 0) [] d.mn (by rfl) (by exact OW.out) _ (by rfl) (by exact M1.out.below S4.out.1 (Nat.le_refl _)) N1.out (by simp only [List.length_nil]; omega) S4.out.1.size ?_
        intro v5 w5 hown hg hat
        have S5 := Lib.hid (SP.out.appRow (by exact hown) hg hat)
        obtain ⟨A5, a5, rfl⟩ : ∃ A c, v5 = .slice A d.mn.length c := slice_ints (S5.out.rd 0 rfl)
        have B5 := Lib.hid (B4.out.grown hg B4.out.size (fun k hk => by simp [Value.ownBlock] at hk; have := he2; omega))
        refine hK.out _ _ (CE.out _ B5.out) (fun hHeld5 => ?_)
        clear hK K hown hg hat SP OW S4 B4
        refine wpAnyH_ready (rs := [7]) (by kernel_rfl) (by simp) ?_
        refine AllReadyH.cons rfl (fun K hK => ?_) AllReadyH.nil
        have SP := Lib.hid (S5.out.pick 2 rfl)
        simp only [List.eraseIdx_cons_succ, List.eraseIdx_cons_zero] at SP
        have OW := Lib.hid (own_flat (SP.out.own 0 rfl).1).1
        refine step_app_rd rfl (.tmp 10) (.tmp 12) 25 (by rfl) Tryz.underlying25 w.heap.size (.slice (some ⟨e3, 0, none⟩) 0 0) [] d.mx (by rfl) (by exact OW.out) _ (by rfl) (by exact M2.out.below S5.out.1 (Nat.le_refl _)) N2.out (by simp only [List.length_nil]; omega) S5.out.1.size ?_
        intro v6 w6 hown hg hat
        have S6 := Lib.hid (SP.out.appRow (by exact hown) hg hat)
        obtain ⟨A6, a6, rfl⟩ : ∃ A c, v6 = .slice A d.mx.length c := slice_ints (S6.out.rd 0 rfl)
        have B6 := Lib.hid (B5.out.grown hg B5.out.size (fun k hk => by simp [Value.ownBlock] at hk; have := he3; omega))
        refine hK.out _ _ (CE.out _ B6.out) (fun hHeld6 => ?_)
        clear hK K hown hg hat SP OW S5 B5
        refine wpAnyH_take (i := 8) (v := ?_) rfl (by kernel_rfl) (by kernel_rfl) (by kernel_rfl) (fun _ _ _ h => h) (Or.inl ⟨by rfl, ?_⟩) (by assumption) ?_
        rotate_left
        · (intro W hSw; (try dsimp only at hSw); go_simp <;> with_reducible rfl)
        (try simp only [Act.put, List.getElem_toArray, List.getElem_cons_succ, List.getElem_cons_zero, List.setIfInBounds_toArray, List.set_cons_succ, List.set_cons_zero])
        obtain ⟨y0, y1, y2, yf⟩ := (S6.out.bk 2 rfl).c3
        refine wpAnyH_ready (rs := [10]) (by kernel_rfl) (by simp) ?_
        refine AllReadyH.cons rfl (fun K hK => ?_) AllReadyH.nil
        go_simp
        have S7 := Lib.hid (((S6.out.boxSet 2 rfl 0 (.slice A5 d.mn.length a5)).boxSet 2 rfl 1 (.slice A6 d.mx.length a6)).boxSet 2 rfl 2 (.slice none 0 0))
        simp only [List.set_cons_zero, List.set_cons_succ] at S7
        refine hK.out _ _ (CE.out _ (((B6.out.setCell (by exact hg0) _).setCell (by exact hg0) _).setCell (by exact hg0) _)) (fun hHeld7 => ?_)
        clear hK K y0 y1 y2 yf S6
        refine wpAnyH_done (by kernel_rfl) ?_ _
        go_wp2_with fail
        go_meet
        case rel => exact ⟨_, _, _, _, _, _, _, rfl, (((S7.out.pick 1 rfl).pick 1 rfl).pick 2 rfl)⟩
      refine AllReadyH.cons rfl (fun K hK => ?_) AllReadyH.nil
      go_simp
      have S3 := Lib.hid (S2.out.box 45 [.slice none 0 0, .slice none 0 0, .slice none 0 0])
      have B3 := Lib.hid (B2.out.alloc B2.out.size (.cells #[.slice none 0 0, .slice none 0 0, .slice none 0 0] 45))
      have hg0 : wq.heap.size ≤ w2.heap.size := B2.out.size
      refine hK.out _ _ (CE.out _ B3.out) (fun hHeld3 => ?_)
      generalize hgg : w2.heap.size = gb at S3 B3 hg0 hHeld3 ⊢
      generalize World.alloc w2 _ = w3 at S3 B3 hHeld3 ⊢
      clear hK K hgg S2 B2
      refine wpAnyH_ready (rs := [3, 4]) (by kernel_rfl) (by simp) ?_
      refine AllReadyH.cons rfl (fun K hK => ?_) ?_
      · have SP := Lib.hid (S3.out.pick 1 rfl)
        simp only [List.eraseIdx_cons_succ, List.eraseIdx_cons_zero] at SP
        have OW := Lib.hid (own_flat (SP.out.own 0 rfl).1).1
        refine step_app_rd rfl (.tmp 6) (.tmp 8) 25 (by rfl) Tryz.underlying25 w.heap.size (.slice (some ⟨e2, 0, none⟩) 0 0) [] d.mn (by rfl) (by exact OW.out) _ (by rfl) (by exact M1.out.below S3.out.1 (Nat.le_refl _)) N1.out (by simp only [List.length_nil]; omega) S3.out.1.size ?_
        intro v4 w4 hown hg hat
        have S4 := Lib.hid (SP.out.appRow (by exact hown) hg hat)
        obtain ⟨A4, a4, rfl⟩ : ∃ A c, v4 = .slice A d.mn.length c := slice_ints (S4.out.rd 0 rfl)
        have B4 := Lib.hid (B3.out.grown hg B3.out.size (fun k hk => by simp [Value.ownBlock] at hk; have := he2; omega))
        refine hK.out _ _ (CE.out _ B4.out) (fun hHeld4 => ?_)
        clear hK K hown hg hat SP OW S3 B3
        refine wpAnyH_ready (rs := [4]) (by kernel_rfl) (by simp) ?_
        refine AllReadyH.cons rfl (fun K hK => ?_) AllReadyH.nil
        go_simp
        have S5 := Lib.hid (S4.out.emptyI)
        have B5 := Lib.hid (B4.out.alloc B4.out.size (.cells #[] 3))
        have he5 : wq.heap.size ≤ w4.heap.size := B4.out.size
        refine hK.out _ _ (CE.out _ B5.out) (fun hHeld5 => ?_)
        generalize hge : w4.heap.size = e5 at S5 B5 he5 hHeld5 ⊢
        generalize World.alloc w4 _ = w5 at S5 B5 hHeld5 ⊢
        clear hK K hge S4 B4
        refine wpAnyH_ready (rs := [7]) (by kernel_rfl) (by simp) ?_
        refine AllReadyH.cons rfl (fun K hK => ?_) AllReadyH.nil
        have SP := Lib.hid (S5.out.pick 0 rfl)
        simp only [List.eraseIdx_cons_zero] at SP
        have OW := Lib.hid (own_flat (SP.out.own 0 rfl).1).1
        refine step_app_rd rfl (.tmp 10) (.tmp 12) 25 (by rfl) Tryz.underlying25 w.heap.size (.slice (some ⟨e5, 0, none⟩) 0 0) [] d.mx (by rfl) (by exact OW.out) _ (by rfl) (by exact M2.out.below S5.out.1 (Nat.le_refl _)) N2.out (by simp only [List.length_nil]; omega) S5.out.1.size ?_
        intro v6 w6 hown hg hat
        have S6 := Lib.hid (SP.out.appRow (by exact hown) hg hat)
        obtain ⟨A6, a6, rfl⟩ : ∃ A c, v6 = .slice A d.mx.length c := slice_ints (S6.out.rd 0 rfl)
        have B6 := Lib.hid (B5.out.grown hg B5.out.size (fun k hk => by simp [Value.ownBlock] at hk; have := he5; omega))
        refine hK.out _ _ (CE.out _ B6.out) (fun hHeld6 => ?_)
        clear hK K hown hg hat SP OW S5 B5
        refine wpAnyH_take (i := 8) (v := ?_) rfl (by kernel_rfl) (by kernel_rfl) (by kernel_rfl) (fun _ _ _ h => h) (Or.inl ⟨by rfl, ?_⟩) (by assumption) ?_
        rotate_left
        · (intro W hSw; (try dsimp only at hSw); go_simp <;> with_reducible rfl)
        (try simp only [Act.put, List.getElem_toArray, List.getElem_cons_succ, List.getElem_cons_zero, List.setIfInBounds_toArray, List.set_cons_succ, List.set_cons_zero])
        obtain ⟨y0, y1, y2, yf⟩ := (S6.out.bk 2 rfl).c3
        refine wpAnyH_ready (rs := [10]) (by kernel_rfl) (by simp) ?_
        refine AllReadyH.cons rfl (fun K hK => ?_) AllReadyH.nil
        go_simp
        have S7 := Lib.hid (((S6.out.boxSet 2 rfl 0 (.slice A4 d.mn.length a4)).boxSet 2 rfl 1 (.slice A6 d.mx.length a6)).boxSet 2 rfl 2 (.slice none 0 0))
        simp only [List.set_cons_zero, List.set_cons_succ] at S7
        refine hK.out _ _ (CE.out _ (((B6.out.setCell (by exact hg0) _).setCell (by exact hg0) _).setCell (by exact hg0) _)) (fun hHeld7 => ?_)
        clear hK K y0 y1 y2 yf S6
        refine wpAnyH_done (by kernel_rfl) ?_ _
        go_wp2_with fail
        go_meet
        case rel => exact ⟨_, _, _, _, _, _, _, rfl, (((S7.out.pick 1 rfl).pick 1 rfl).pick 2 rfl)⟩
      refine AllReadyH.cons rfl (fun K hK => ?_) AllReadyH.nil
      go_simp
      have S4 := Lib.hid (S3.out.emptyI)
      have B4 := Lib.hid (B3.out.alloc B3.out.size (.cells #[] 3))
      have he4 : wq.heap.size ≤ w3.heap.size := B3.out.size
      refine hK.out _ _ (CE.out _ B4.out) (fun hHeld4 => ?_)
      generalize hge : w3.heap.size = e4 at S4 B4 he4 hHeld4 ⊢
      generalize World.alloc w3 _ = w4 at S4 B4 hHeld4 ⊢
      clear hK K hge S3 B3
      refine wpAnyH_ready (rs := [3]) (by kernel_rfl) (by simp) ?_
      refine AllReadyH.cons rfl (fun K hK => ?_) AllReadyH.nil
      have SP := Lib.hid (S4.out.pick 2 rfl)
      simp only [List.eraseIdx_cons_succ, List.eraseIdx_cons_zero] at SP
      have OW := Lib.hid (own_flat (SP.out.own 0 rfl).1).1
      refine step_app_rd rfl (.tmp 6) (.tmp 8) 25 (by rfl) Tryz.underlying25 w.heap.size (.slice (some ⟨e2, 0, none⟩) 0 0) [] d.mn (by rfl) (by exact OW.out) _ (by rfl) (by exact M1.out.below S4.out.1 (Nat.le_refl _)) N1.out (by simp only [List.length_nil]; omega) S4.out.1.size ?_
      intro v5 w5 hown hg hat
      have S5 := Lib.hid (SP.out.appRow (by exact hown) hg hat)
      obtain ⟨A5, a5, rfl⟩ : ∃ A c, v5 = .slice A d.mn.length c := slice_ints (S5.out.rd 0 rfl)
      have B5 := Lib.hid (B4.out.grown hg B4.out.size (fun k hk => by simp [Value.ownBlock] at hk; have := he2; omega))
      refine hK.out _ _ (CE.out _ B5.out) (fun hHeld5 => ?_)
      clear hK K hown hg hat SP OW S4 B4
      refine wpAnyH_ready (rs := [7]) (by kernel_rfl) (by simp) ?_
      refine AllReadyH.cons rfl (fun K hK => ?_) AllReadyH.nil
      have SP := Lib.hid (S5.out.pick 1 rfl)
      simp only [List.eraseIdx_cons_succ, List.eraseIdx_cons_zero] at SP
      have OW := Lib.hid (own_flat (SP.out.own 0 rfl).1).1
      refine step_app_rd rfl (.tmp 10) (.tmp 12) 25 (by rfl) Tryz.underlying25 w.heap.size (.slice (some ⟨e4, 0, none⟩) 0 0) [] d.mx (by rfl) (by exact OW.out) _ (by rfl) (by exact M2.out.below S5.out.1 (Nat.le_refl _)) N2.out (by simp only [List.length_nil]; omega) S5.out.1.size ?_
      intro v6 w6 hown hg hat
      have S6 := Lib.hid (SP.out.appRow (by exact hown) hg hat)
      obtain ⟨A6, a6, rfl⟩ : ∃ A c, v6 = .slice A d.mx.length c := slice_ints (S6.out.rd 0 rfl)
      have B6 := Lib.hid (B5.out.grown hg B5.out.size (fun k hk => by simp [Value.ownBlock] at hk; have := he4; omega))
      refine hK.out _ _ (CE.out _ B6.out) (fun hHeld6 => ?_)
      clear hK K hown hg hat SP OW S5 B5
      refine wpAnyH_take (i := 8) (v := ?_) rfl (by kernel_rfl) (by kernel_rfl) (by kernel_rfl) (fun _ _ _ h => h) (Or.inl ⟨by rfl, ?_⟩) (by assumption) ?_
      rotate_left
      · (intro W hSw; (try dsimp only at hSw); go_simp <;> with_reducible rfl)
      (try simp only [Act.put, List.getElem_toArray, List.getElem_cons_succ, List.getElem_cons_zero, List.setIfInBounds_toArray, List.set_cons_succ, List.set_cons_zero])
      obtain ⟨y0, y1, y2, yf⟩ := (S6.out.bk 2 rfl).c3
      refine wpAnyH_ready (rs := [10]) (by kernel_rfl) (by simp) ?_
      refine AllReadyH.cons rfl (fun K hK => ?_) AllReadyH.nil
      go_simp
      have S7 := Lib.hid (((S6.out.boxSet 2 rfl 0 (.slice A5 d.mn.length a5)).boxSet 2 rfl 1 (.slice A6 d.mx.length a6)).boxSet 2 rfl 2 (.slice none 0 0))
      simp only [List.set_cons_zero, List.set_cons_succ] at S7
      refine hK.out _ _ (CE.out _ (((B6.out.setCell (by exact hg0) _).setCell (by exact hg0) _).setCell (by exact hg0) _)) (fun hHeld7 => ?_)
      clear hK K y0 y1 y2 yf S6
      refine wpAnyH_done (by kernel_rfl) ?_ _
      go_wp2_with fail
      go_meet
      case rel => exact ⟨_, _, _, _, _, _, _, rfl, (((S7.out.pick 1 rfl).pick 1 rfl).pick 2 rfl)⟩
    refine AllReadyH.cons rfl (fun K hK => ?_) ?_
    · go_simp
      have S2 := Lib.hid (S1.out.emptyI)
      have B2 := Lib.hid (B0.out.alloc B0.out.size (.cells #[] 3))
      have he2 : wq.heap.size ≤ wd.heap.size := B0.out.size
      refine hK.out _ _ (CE.out _ B2.out) (fun hHeld2 => ?_)
      generalize hge : wd.heap.size = e2 at S2 B2 he2 hHeld2 ⊢
      generalize World.alloc wd _ = w2 at S2 B2 hHeld2 ⊢
      clear hK K hge S1 B0
      refine wpAnyH_ready (rs := [0, 9]) (by kernel_rfl) (by simp) ?_
      refine AllReadyH.cons rfl (fun K hK => ?_) ?_
      · go_simp
        have S3 := Lib.hid (S2.out.emptyI)
        have B3 := Lib.hid (B2.out.alloc B2.out.size (.cells #[] 3))
        have he3 : wq.heap.size ≤ w2.heap.size := B2.out.size
        refine hK.out _ _ (CE.out _ B3.out) (fun hHeld3 => ?_)
        generalize hge : w2.heap.size = e3 at S3 B3 he3 hHeld3 ⊢
        generalize World.alloc w2 _ = w3 at S3 B3 hHeld3 ⊢
        clear hK K hge S2 B2
        refine wpAnyH_ready (rs := [3, 9]) (by kernel_rfl) (by simp) ?_
        refine AllReadyH.cons rfl (fun K hK => ?_) ?_
        · have SP := Lib.hid (S3.out.pick 0 rfl)
          simp only [List.eraseIdx_cons_zero] at SP
          have OW := Lib.hid (own_flat (SP.out.own 0 rfl).1).1
          refine step_app_rd rfl (.tmp 6) (.tmp 8) 25 (by rfl) Tryz.underlying25 w.heap.size (.slice (some ⟨e3, 0, none⟩) 0 0) [] d.mn (by rfl) (by exact OW.out) _ (by rfl) (by exact M1.out.below S3.out.1 (Nat.le_refl _)) N1.out (by simp only [List.length_nil]; omega) S3.out.1.size ?_
          intro v4 w4 hown hg hat
          have S4 := Lib.hid (SP.out.appRow (by exact hown) hg hat)
          obtain ⟨A4, a4, rfl⟩ : ∃ A c, v4 = .slice A d.mn.length c := slice_ints (S4.out.rd 0 rfl)
          have B4 := Lib.hid (B3.out.grown hg B3.out.size (fun k hk => by simp [Value.ownBlock] at hk; have := he3; omega))
          refine hK.out _ _ (CE.out _ B4.out) (fun hHeld4 => ?_)
          clear hK K hown hg hat SP OW S3 B3
          refine wpAnyH_ready (rs := [7, 9]) (by kernel_rfl) (by simp) ?_
          refine AllReadyH.cons rfl (fun K hK => ?_) ?_
          · have SP := Lib.hid (S4.out.pick 1 rfl)
            simp only [List.eraseIdx_cons_succ, List.eraseIdx_cons_zero] at SP
            have OW := Lib.hid (own_flat (SP.out.own 0 rfl).1).1
            refine step_app_rd rfl (.tmp 10) (.tmp 12) 25 (by rfl) Tryz.underlying25 w.heap.size (.slice (some ⟨e2, 0, none⟩) 0 0) [] d.mx (by rfl) (by exact OW.out) _ (by rfl) (by exact M2.out.below S4.out.1 (Nat.le_refl _)) N2.out (by simp only [List.length_nil]; omega) S4.out.1.size ?_
            intro v5 w5 hown hg hat
            have S5 := Lib.hid (SP.out.appRow (by exact hown) hg hat)
            obtain ⟨A5, a5, rfl⟩ : ∃ A c, v5 = .slice A d.mx.length c := slice_ints (S5.out.rd 0 rfl)
            have B5 := Lib.hid (B4.out.grown hg B4.out.size (fun k hk => by simp [Value.ownBlock] at hk; have := he2; omega))
            refine hK.out _ _ (CE.out _ B5.out) (fun hHeld5 => ?_)
            clear hK K hown hg hat SP OW S4 B4
            refine wpAnyH_take (i := 8) (v := ?_) rfl (by kernel_rfl) (by kernel_rfl) (by kernel_rfl) (fun _ _ _ h => h) (Or.inl ⟨by rfl, ?_⟩) (by assumption) ?_
            rotate_left
            · (intro W hSw; (try dsimp only at hSw); go_simp <;> with_reducible rfl)
            (try simp only [Act.put, List.getElem_toArray, List.getElem_cons_succ, List.getElem_cons_zero, List.setIfInBounds_toArray, List.set_cons_succ, List.set_cons_zero])
            refine wpAnyH_ready (rs := [9]) (by kernel_rfl) (by simp) ?_
            refine AllReadyH.cons rfl (fun K hK => ?_) AllReadyH.nil
            go_simp
            have S6 := Lib.hid (S5.out.box 45 [.slice none 0 0, .slice none 0 0, .slice none 0 0])
            have B6 := Lib.hid (B5.out.alloc B5.out.size (.cells #[.slice none 0 0, .slice none 0 0, .slice none 0 0] 45))
            have hg0 : wq.heap.size ≤ w5.heap.size := B5.out.size
            refine hK.out _ _ (CE.out _ B6.out) (fun hHeld6 => ?_)
            generalize hgg : w5.heap.size = gb at S6 B6 hg0 hHeld6 ⊢
            generalize World.alloc w5 _ = w6 at S6 B6 hHeld6 ⊢
            clear hK K hgg S5 B5
            obtain ⟨y0, y1, y2, yf⟩ := (S6.out.bk 0 rfl).c3
            refine wpAnyH_ready (rs := [10]) (by kernel_rfl) (by simp) ?_
            refine AllReadyH.cons rfl (fun K hK => ?_) AllReadyH.nil
            go_simp
            have S7 := Lib.hid (((S6.out.boxSet 0 rfl 0 (.slice A4 d.mn.length a4)).boxSet 0 rfl 1 (.slice A5 d.mx.length a5)).boxSet 0 rfl 2 (.slice none 0 0))
            simp only [List.set_cons_zero, List.set_cons_succ] at S7
            refine hK.out _ _ (CE.out _ (((B6.out.setCell (by exact hg0) _).setCell (by exact hg0) _).setCell (by exact hg0) _)) (fun hHeld7 => ?_)
            clear hK K y0 y1 y2 yf S6
            refine wpAnyH_done (by kernel_rfl) ?_ _
            go_wp2_with fail
            go_meet
            case rel => exact ⟨_, _, _, _, _, _, _, rfl, (((S7.out.pick 2 rfl).pick 2 rfl).pick 2 rfl)⟩
          refine AllReadyH.cons rfl (fun K hK => ?_) AllReadyH.nil
          go_simp
          have S5 := Lib.hid (S4.out.box 45 [.slice none 0 0, .slice none 0 0, .slice none 0 0])
          have B5 := Lib.hid (B4.out.alloc B4.out.size (.cells #[.slice none 0 0, .slice none 0 0, .slice none 0 0] 45))
          have hg0 : wq.heap.size ≤ w4.heap.size := B4.out.size
          refine hK.out _ _ (CE.out _ B5.out) (fun hHeld5 => ?_)
          generalize hgg : w4.heap.size = gb at S5 B5 hg0 hHeld5 ⊢
          generalize World.alloc w4 _ = w5 at S5 B5 hHeld5 ⊢
          clear hK K hgg S4 B4
          refine wpAnyH_ready (rs := [7]) (by kernel_rfl) (by simp) ?_
          refine AllReadyH.cons rfl (fun K hK => ?_) AllReadyH.nil
          have SP := Lib.hid (S5.out.pick 2 rfl)
          simp only [List.eraseIdx_cons_succ, List.eraseIdx_cons_zero] at SP
          have OW := Lib.hid (own_flat (SP.out.own 0 rfl).1).1
          refine step_app_rd rfl (.tmp 10) (.tmp 12) 25 (by rfl) Tryz.underlying25 w.heap.size (.slice (some ⟨e2, 0, none⟩) 0 0) [] d.mx (by rfl) (by exact OW.out) _ (by rfl) (by exact M2.out.below S5.out.1 (Nat.le_refl _)) N2.out (by simp only [List.length_nil]; omega) S5.out.1.size ?_
          intro v6 w6 hown hg hat
          have S6 := Lib.hid (SP.out.appRow (by exact hown) hg hat)
          obtain ⟨A6, a6, rfl⟩ : ∃ A c, v6 = .slice A d.mx.length c := slice_ints (S6.out.rd 0 rfl)
          have B6 := Lib.hid (B5.out.grown hg B5.out.size (fun k hk => by simp [Value.ownBlock] at hk; have := he2; omega))
          refine hK.out _ _ (CE.out _ B6.out) (fun hHeld6 => ?_)
          clear hK K hown hg hat SP OW S5 B5
          refine wpAnyH_take (i := 8) (v := ?_) rfl (by kernel_rfl) (by kernel_rfl) (by kernel_rfl) (fun _ _ _ h => h) (Or.inl ⟨by rfl, ?_⟩) (by assumption) ?_
          rotate_left
          · (intro W hSw; (try dsimp only at hSw); go_simp <;> with_reducible rfl)
          (try simp only [Act.put, List.getElem_toArray, List.getElem_cons_succ, List.getElem_cons_zero, List.setIfInBounds_toArray, List.set_cons_succ, List.set_cons_zero])
          obtain ⟨y0, y1, y2, yf⟩ := (S6.out.bk 1 rfl).c3
          refine wpAnyH_ready (rs := [10]) (by kernel_rfl) (by simp) ?_
          refine AllReadyH.cons rfl (fun K hK => ?_) AllReadyH.nil
          go_simp
          have S7 := Lib.hid (((S6.out.boxSet 1 rfl 0 (.slice A4 d.mn.length a4)).boxSet 1 rfl 1 (.slice A6 d.mx.length a6)).boxSet 1 rfl 2 (.slice none 0 0))
          simp only [List.set_cons_zero, List.set_cons_succ] at S7
          refine hK.out _ _ (CE.out _ (((B6.out.setCell (by exact hg0) _).setCell (by exact hg0) _).setCell (by exact hg0) _)) (fun hHeld7 => ?_)
          clear hK K y0 y1 y2 yf S6
          refine wpAnyH_done (by kernel_rfl) ?_ _
          go_wp2_with fail
          go_meet
          case rel => exact ⟨_, _, _, _, _, _, _, rfl, (((S7.out.pick 2 rfl).pick 1 rfl).pick 2 rfl)⟩
        refine AllReadyH.cons rfl (fun K hK => ?_) AllReadyH.nil
        go_simp
        have S4 := Lib.hid (S3.out.box 45 [.slice none 0 0, .slice none 0 0, .slice none 0 0])
        have B4 := Lib.hid (B3.out.alloc B3.out.size (.cells #[.slice none 0 0, .slice none 0 0, .slice none 0 0] 45))
        have hg0 : wq.heap.size ≤ w3.heap.size := B3.out.size
        refine hK.out _ _ (CE.out _ B4.out) (fun hHeld4 => ?_)
        generalize hgg : w3.heap.size = gb at S4 B4 hg0 hHeld4 ⊢
        generalize World.alloc w3 _ = w4 at S4 B4 hHeld4 ⊢
        clear hK K hgg S3 B3
        refine wpAnyH_ready (rs := [3]) (by kernel_rfl) (by simp) ?_
        refine AllReadyH.cons rfl (fun K hK => ?_) AllReadyH.nil
        have SP := Lib.hid (S4.out.pick 1 rfl)
        simp only [List.eraseIdx_cons_succ, List.eraseIdx_cons_zero] at SP
        have OW := Lib.hid (own_flat (SP.out.own 0 rfl).1).1
        refine step_app_rd rfl (.tmp 6) (.tmp 8) 25 (by rfl) Tryz.underlying25 w.heap.size (.slice (some ⟨e3, 0, none⟩) 0 0) [] d.mn (by rfl) (by exact OW.out) _ (by rfl) (by exact M1.out.below S4.out.1 (Nat.le_refl _)) N1.out (by simp only [List.length_nil]; omega) S4.out.1.size ?_
        intro v5 w5 hown hg hat
        have S5 := Lib.hid (SP.out.appRow (by exact hown) hg hat)
        obtain ⟨A5, a5, rfl⟩ : ∃ A c, v5 = .slice A d.mn.length c := slice_ints (S5.out.rd 0 rfl)
        have B5 := Lib.hid (B4.out.grown hg B4.out.size (fun k hk => by simp [Value.ownBlock] at hk; have := he3; omega))
        refine hK.out _ _ (CE.out _ B5.out) (fun hHeld5 => ?_)
        clear hK K hown hg hat SP OW S4 B4
        refine wpAnyH_ready (rs := [7]) (by kernel_rfl) (by simp) ?_
        refine AllReadyH.cons rfl (fun K hK => ?_) AllReadyH.nil
        have SP := Lib.hid (S5.out.pick 2 rfl)
        simp only [List.eraseIdx_cons_succ, List.eraseIdx_cons_zero] at SP
        have OW := Lib.hid (own_flat (SP.out.own 0 rfl).1).1
        refine step_app_rd rfl (.tmp 10) (.tmp 12) 25 (by rfl) Tryz.underlying25 w.heap.size (.slice (some ⟨e2, 0, none⟩) 0 0) [] d.mx (by rfl) (by exact OW.out) _ (by rfl) (by exact M2.out.below S5.out.1 (Nat.le_refl _)) N2.out (by simp only [List.length_nil]; omega) S5.out.1.size ?_
        intro v6 w6 hown hg hat
        have S6 := Lib.hid (SP.out.appRow (by exact hown) hg hat)
        obtain ⟨A6, a6, rfl⟩ : ∃ A c, v6 = .slice A d.mx.length c := slice_ints (S6.out.rd 0 rfl)
        have B6 := Lib.hid (B5.out.grown hg B5.out.size (fun k hk => by simp [Value.ownBlock] at hk; have := he2; omega))
        refine hK.out _ _ (CE.out _ B6.out) (fun hHeld6 => ?_)
        clear hK K hown hg hat SP OW S5 B5
        refine wpAnyH_take (i := 8) (v := ?_) rfl (by kernel_rfl) (by kernel_rfl) (by kernel_rfl) (fun _ _ _ h => h) (Or.inl ⟨by rfl, ?_⟩) (by assumption) ?_
        rotate_left
        · (intro W hSw; (try dsimp only at hSw); go_simp <;> with_reducible rfl)
        (try simp only [Act.put, List.getElem_toArray, List.getElem_cons_succ, List.getElem_cons_zero, List.setIfInBounds_toArray, List.set_cons_succ, List.set_cons_zero])
        obtain ⟨y0, y1, y2, yf⟩ := (S6.out.bk 2 rfl).c3
        refine wpAnyH_ready (rs := [10]) (by kernel_rfl) (by simp) ?_
        refine AllReadyH.cons rfl (fun K hK => ?_) AllReadyH.nil
        go_simp
        have S7 := Lib.hid (((S6.out.boxSet 2 rfl 0 (.slice A5 d.mn.length a5)).boxSet 2 rfl 1 (.slice A6 d.mx.length a6)).boxSet 2 rfl 2 (.slice none 0 0))
        simp only [List.set_cons_zero, List.set_cons_succ] at S7
        refine hK.out _ _ (CE.out _ (((B6.out.setCell (by exact hg0) _).setCell (by exact hg0) _).setCell (by exact hg0) _)) (fun hHeld7 => ?_)
        clear hK K y0 y1 y2 yf S6
        refine wpAnyH_done (by kernel_rfl) ?_ _
        go_wp2_with fail
        go_meet
        case rel => exact ⟨_, _, _, _, _, _, _, rfl, (((S7.out.pick 1 rfl).pick 1 rfl).pick 2 rfl)⟩
      refine AllReadyH.cons rfl (fun K hK => ?_) AllReadyH.nil
      go_simp
      have S3 := Lib.hid (S2.out.box 45 [.slice none 0 0, .slice none 0 0, .slice none 0 0])
      have B3 := Lib.hid (B2.out.alloc B2.out.size (.cells #[.slice none 0 0, .slice none 0 0, .slice none 0 0] 45))
      have hg0 : wq.heap.size ≤ w2.heap.size := B2.out.size
      refine hK.out _ _ (CE.out _ B3.out) (fun hHeld3 => ?_)
      generalize hgg : w2.heap.size = gb at S3 B3 hg0 hHeld3 ⊢
      generalize World.alloc w2 _ = w3 at S3 B3 hHeld3 ⊢
      clear hK K hgg S2 B2
      refine wpAnyH_ready (rs := [0]) (by kernel_rfl) (by simp) ?_
      refine AllReadyH.cons rfl (fun K hK => ?_) AllReadyH.nil
      go_simp
      have S4 := Lib.hid (S3.out.emptyI)
      have B4 := Lib.hid (B3.out.alloc B3.out.size (.cells #[] 3))
      have he4 : wq.heap.size ≤ w3.heap.size := B3.out.size
      refine hK.out _ _ (CE.out _ B4.out) (fun hHeld4 => ?_)
      generalize hge : w3.heap.size = e4 at S4 B4 he4 hHeld4 ⊢
      generalize World.alloc w3 _ = w4 at S4 B4 hHeld4 ⊢
      clear hK K hge S3 B3
      refine wpAnyH_ready (rs := [3]) (by kernel_rfl) (by simp) ?_
      refine AllReadyH.cons rfl (fun K hK => ?_) AllReadyH.nil
      have SP := Lib.hid (S4.out.pick 0 rfl)
      simp only [List.eraseIdx_cons_zero] at SP
      have OW := Lib.hid (own_flat (SP.out.own 0 rfl).1).1
      refine step_app_rd rfl (.tmp 6) (.tmp 8) 25 (by rfl) Tryz.underlying25 w.heap.size (.slice (some ⟨e4, 0, none⟩) 0 0) [] d.mn (by rfl) (by exact OW.out) _ (by rfl) (by exact M1.out.below S4.out.1 (Nat.le_refl _)) N1.out (by simp only [List.length_nil]; omega) S4.out.1.size ?_
      intro v5 w5 hown hg hat
      have S5 := Lib.hid (SP.out.appRow (by exact hown) hg hat)
      obtain ⟨A5, a5, rfl⟩ : ∃ A c, v5 = .slice A d.mn.length c := slice_ints (S5.out.rd 0 rfl)
      have B5 := Lib.hid (B4.out.grown hg B4.out.size (fun k hk => by simp [Value.ownBlock] at hk; have := he4; omega))
      refine hK.out _ _ (CE.out _ B5.out) (fun hHeld5 => ?_)
      clear hK K hown hg hat SP OW S4 B4
      refine wpAnyH_ready (rs := [7]) (by kernel_rfl) (by simp) ?_
      refine AllReadyH.cons rfl (fun K hK => ?_) AllReadyH.nil
      have SP := Lib.hid (S5.out.pick 2 rfl)
      simp only [List.eraseIdx_cons_succ, List.eraseIdx_cons_zero] at SP
      have OW := Lib.hid (own_flat (SP.out.own 0 rfl).1).1
      refine step_app_rd rfl (.tmp 10) (.tmp 12) 25 (by rfl) Tryz.underlying25 w.heap.size (.slice (some ⟨e2, 0, none⟩) 0 0) [] d.mx (by rfl) (by exact OW.out) _ (by rfl) (by exact M2.out.below S5.out.1 (Nat.le_refl _)) N2.out (by simp only [List.length_nil]; omega) S5.out.1.size ?_
      intro v6 w6 hown hg hat
      have S6 := Lib.hid (SP.out.appRow (by exact hown) hg hat)
      obtain ⟨A6, a6, rfl⟩ : ∃ A c, v6 = .slice A d.mx.length c := slice_ints (S6.out.rd 0 rfl)
      have B6 := Lib.hid (B5.out.grown hg B5.out.size (fun k hk => by simp [Value.ownBlock] at hk; have := he2; omega))
      refine hK.out _ _ (CE.out _ B6.out) (fun hHeld6 => ?_)
      clear hK K hown hg hat SP OW S5 B5
      refine wpAnyH_take (i := 8) (v := ?_) rfl (by kernel_rfl) (by kernel_rfl) (by kernel_rfl) (fun _ _ _ h => h) (Or.inl ⟨by rfl, ?_⟩) (by assumption) ?_
      rotate_left
      · (intro W hSw; (try dsimp only at hSw); go_simp <;> with_reducible rfl)
      (try simp only [Act.put, List.getElem_toArray, List.getElem_cons_succ, List.getElem_cons_zero, List.setIfInBounds_toArray, List.set_cons_succ, List.set_cons_zero])
      obtain ⟨y0, y1, y2, yf⟩ := (S6.out.bk 2 rfl).c3
      refine wpAnyH_ready (rs := [10]) (by kernel_rfl) (by simp) ?_
      refine AllReadyH.cons rfl (fun K hK => ?_) AllReadyH.nil
      go_simp
      have S7 := Lib.hid (((S6.out.boxSet 2 rfl 0 (.slice A5 d.mn.length a5)).boxSet 2 rfl 1 (.slice A6 d.mx.length a6)).boxSet 2 rfl 2 (.slice none 0 0))
      simp only [List.set_cons_zero, List.set_cons_succ] at S7
      refine hK.out _ _ (CE.out _ (((B6.out.setCell (by exact hg0) _).setCell (by exact hg0) _).setCell (by exact hg0) _)) (fun hHeld7 => ?_)
      clear hK K y0 y1 y2 yf S6
      refine wpAnyH_done (by kernel_rfl) ?_ _
      go_wp2_with fail
      go_meet
      case rel => exact ⟨_, _, _, _, _, _, _, rfl, (((S7.out.pick 1 rfl).pick 1 rfl).pick 2 rfl)⟩
    refine AllReadyH.cons rfl (fun K hK => ?_) AllReadyH.nil
    go_simp
    have S2 := Lib.hid (S1.out.box 45 [.slice none 0 0, .slice none 0 0, .slice none 0 0])
    have B2 := Lib.hid (B0.out.alloc B0.out.size (.cells #[.slice none 0 0, .slice none 0 0, .slice none 0 0] 45))
    have hg0 : wq.heap.size ≤ wd.heap.size := B0.out.size
    refine hK.out _ _ (CE.out _ B2.out) (fun hHeld2 => ?_)
    generalize hgg : wd.heap.size = gb at S2 B2 hg0 hHeld2 ⊢
    generalize World.alloc wd _ = w2 at S2 B2 hHeld2 ⊢
    clear hK K hgg S1 B0
    refine wpAnyH_ready (rs := [0, 4]) (by kernel_rfl) (by simp) ?_
    refine AllReadyH.cons rfl (fun K hK => ?_) ?_
    · go_simp
      have S3 := Lib.hid (S2.out.emptyI)
      have B3 := Lib.hid (B2.out.alloc B2.out.size (.cells #[] 3))
      have he3 : wq.heap.size ≤ w2.heap.size := B2.out.size
      refine hK.out _ _ (CE.out _ B3.out) (fun hHeld3 => ?_)
      generalize hge : w2.heap.size = e3 at S3 B3 he3 hHeld3 ⊢
      generalize World.alloc w2 _ = w3 at S3 B3 hHeld3 ⊢
      clear hK K hge S2 B2
      refine wpAnyH_ready (rs := [3, 4]) (by kernel_rfl) (by simp) ?_
      refine AllReadyH.cons rfl (fun K hK => ?_) ?_
      · have SP := Lib.hid (S3.out.pick 0 rfl)
        simp only [List.eraseIdx_cons_zero] at SP
        have OW := Lib.hid (own_flat (SP.out.own 0 rfl).1).1
        refine step_app_rd rfl (.tmp 6) (.tmp 8) 25 (by rfl) Tryz.underlying25 w.heap.size (.slice (some ⟨e3, 0, none⟩) 0 0) [] d.mn (by rfl) (by exact OW.out) _ (by rfl) (by exact M1.out.below S3.out.1 (Nat.le_refl _)) N1.out (by simp only [List.length_nil]; omega) S3.out.1.size ?_
        intro v4 w4 hown hg hat
        have S4 := Lib.hid (SP.out.appRow (by exact hown) hg hat)
        obtain ⟨A4, a4, rfl⟩ : ∃ A c, v4 = .slice A d.mn.length c := slice_ints (S4.out.rd 0 rfl)
        have B4 := Lib.hid (B3.out.grown hg B3.out.size (fun k hk => by simp [Value.ownBlock] at hk; have := he3; omega))
        refine hK.out _ _ (CE.out _ B4.out) (fun hHeld4 => ?_)
        clear hK K hown hg hat SP OW S3 B3
        refine wpAnyH_ready (rs := [4]) (by kernel_rfl) (by simp) ?_
        refine AllReadyH.cons rfl (fun K hK => ?_) AllReadyH.nil
        go_simp
        have S5 := Lib.hid (S4.out.emptyI)
        have B5 := Lib.hid (B4.out.alloc B4.out.size (.cells #[] 3))
        have he5 : wq.heap.size ≤ w4.heap.size := B4.out.size
        refine hK.out _ _ (CE.out _ B5.out) (fun hHeld5 => ?_)
        generalize hge : w4.heap.size = e5 at S5 B5 he5 hHeld5 ⊢
        generalize World.alloc w4 _ = w5 at S5 B5 hHeld5 ⊢
        clear hK K hge S4 B4
        refine wpAnyH_ready (rs := [7]) (by kernel_rfl) (by simp) ?_
        refine AllReadyH.cons rfl (fun K hK => ?_) AllReadyH.nil
        have SP := Lib.hid (S5.out.pick 0 rfl)
        simp only [List.eraseIdx_cons_zero] at SP
        have OW := Lib.hid (own_flat (SP.out.own 0 rfl).1).1
        refine step_app_rd rfl (.tmp 10) (.tmp 12) 25 (by rfl) Tryz.underlying25 w.heap.size (.slice (some ⟨e5, 0, none⟩) 0 0) [] d.mx (by rfl) (by exact OW.out) _ (by rfl) (by exact M2.out.below S5.out.1 (Nat.le_refl _)) N2.out (by simp only [List.length_nil]; omega) S5.out.1.size ?_
        intro v6 w6 hown hg hat
        have S6 := Lib.hid (SP.out.appRow (by exact hown) hg hat)
        obtain ⟨A6, a6, rfl⟩ : ∃ A c, v6 = .slice A d.mx.length c := slice_ints (S6.out.rd 0 rfl)
        have B6 := Lib.hid (B5.out.grown hg B5.out.size (fun k hk => by simp [Value.ownBlock] at hk; have := he5; omega))
        refine hK.out _ _ (CE.out _ B6.out) (fun hHeld6 => ?_)
        clear hK K hown hg hat SP OW S5 B5
        refine wpAnyH_take (i := 8) (v := ?_) rfl (by kernel_rfl) (by kernel_rfl) (by kernel_rfl) (fun _ _ _ h => h) (Or.inl ⟨by rfl, ?_⟩) (by assumption) ?_
        rotate_left
        · (intro W hSw; (try dsimp only at hSw); go_simp <;> with_reducible rfl)
        (try simp only [Act.put, List.getElem_toArray, List.getElem_cons_succ, List.getElem_cons_zero, List.setIfInBounds_toArray, List.set_cons_succ, List.set_cons_zero])
        obtain ⟨y0, y1, y2, yf⟩ := (S6.out.bk 2 rfl).c3
        refine wpAnyH_ready (rs := [10]) (by kernel_rfl) (by simp) ?_
        refine AllReadyH.cons rfl (fun K hK => ?_) AllReadyH.nil
        go_simp
        have S7 := Lib.hid (((S6.out.boxSet 2 rfl 0 (.slice A4 d.mn.length a4)).boxSet 2 rfl 1 (.slice A6 d.mx.length a6)).boxSet 2 rfl 2 (.slice none 0 0))
        simp only [List.set_cons_zero, List.set_cons_succ] at S7
        refine hK.out _ _ (CE.out _ (((B6.out.setCell (by exact hg0) _).setCell (by exact hg0) _).setCell (by exact hg0) _)) (fun hHeld7 => ?_)
        clear hK K y0 y1 y2 yf S6
        refine wpAnyH_done (by kernel_rfl) ?_ _
        go_wp2_with fail
        go_meet
        case rel => exact ⟨_, _, _, _, _, _, _, rfl, (((S7.out.pick 1 rfl).pick 1 rfl).pick 2 rfl)⟩
      refine AllReadyH.cons rfl (fun K hK => ?_) AllReadyH.nil
      go_simp
      have S4 := Lib.hid (S3.out.emptyI)
      have B4 := Lib.hid (B3.out.alloc B3.out.size (.cells #[] 3))
      have he4 : wq.heap.size ≤ w3.heap.size := B3.out.size
      refine hK.out _ _ (CE.out _ B4.out) (fun hHeld4 => ?_)
      generalize hge : w3.heap.size = e4 at S4 B4 he4 hHeld4 ⊢
      generalize World.alloc w3 _ = w4 at S4 B4 hHeld4 ⊢
      clear hK K hge S3 B3
      refine wpAnyH_ready (rs := [3]) (by kernel_rfl) (by simp) ?_
      refine AllReadyH.cons rfl (fun K hK => ?_) AllReadyH.nil
      have SP := Lib.hid (S4.out.pick 1 rfl)
      simp only [List.eraseIdx_cons_succ, List.eraseIdx_cons_zero] at SP
      have OW := Lib.hid (own_flat (SP.out.own 0 rfl).1).1
      refine step_app_rd rfl (.tmp 6) (.tmp 8) 25 (by rfl) Tryz.underlying25 w.heap.size (.slice (some ⟨e3, 0, none⟩) 0 0) [] d.mn (by rfl) (by exact OW.out) _ (by rfl) (by exact M1.out.below S4.out.1 (Nat.le_refl _)) N1.out (by simp only [List.length_nil]; omega) S4.out.1.size ?_
      intro v5 w5 hown hg hat
      have S5 := Lib.hid (SP.out.appRow (by exact hown) hg hat)
      obtain ⟨A5, a5, rfl⟩ : ∃ A c, v5 = .slice A d.mn.length c := slice_ints (S5.out.rd 0 rfl)
      have B5 := Lib.hid (B4.out.grown hg B4.out.size (fun k hk => by simp [Value.ownBlock] at hk; have := he3; omega))
      refine hK.out _ _ (CE.out _ B5.out) (fun hHeld5 => ?_)
      clear hK K hown hg hat SP OW S4 B4
      refine wpAnyH_ready (rs := [7]) (by kernel_rfl) (by simp) ?_
      refine AllReadyH.cons rfl (fun K hK => ?_) AllReadyH.nil
      have SP := Lib.hid (S5.out.pick 1 rfl)
      simp only [List.eraseIdx_cons_succ, List.eraseIdx_cons_zero] at SP
      have OW := Lib.hid (own_flat (SP.out.own 0 rfl).1).1
      refine step_app_rd rfl (.tmp 10) (.tmp 12) 25 (by rfl) Tryz.underlying25 w.heap.size (.slice (some ⟨e4, 0, none⟩) 0 0) [] d.mx (by rfl) (by exact OW.out) _ (by rfl) (by exact M2.out.below S5.out.1 (Nat.le_refl _)) N2.out (by simp only [List.length_nil]; omega) S5.out.1.size ?_
      intro v6 w6 hown hg hat
      have S6 := Lib.hid (SP.out.appRow (by exact hown) hg hat)
      obtain ⟨A6, a6, rfl⟩ : ∃ A c, v6 = .slice A d.mx.length c := slice_ints (S6.out.rd 0 rfl)
      have B6 := Lib.hid (B5.out.grown hg B5.out.size (fun k hk => by simp [Value.ownBlock] at hk; have := he4; omega))
      refine hK.out _ _ (CE.out _ B6.out) (fun hHeld6 => ?_)
      clear hK K hown hg hat SP OW S5 B5
      refine wpAnyH_take (i := 8) (v := ?_) rfl (by kernel_rfl) (by kernel_rfl) (by kernel_rfl) (fun _ _ _ h => h) (Or.inl ⟨by rfl, ?_⟩) (by assumption) ?_
      rotate_left
      · (intro W hSw; (try dsimp only at hSw); go_simp <;> with_reducible rfl)
      (try simp only [Act.put, List.getElem_toArray, List.getElem_cons_succ, List.getElem_cons_zero, List.setIfInBounds_toArray, List.set_cons_succ, List.set_cons_zero])
      obtain ⟨y0, y1, y2, yf⟩ := (S6.out.bk 2 rfl).c3
      refine wpAnyH_ready (rs := [10]) (by kernel_rfl) (by simp) ?_
      refine AllReadyH.cons rfl (fun K hK => ?_) AllReadyH.nil
      go_simp
      have S7 := Lib.hid (((S6.out.boxSet 2 rfl 0 (.slice A5 d.mn.length a5)).boxSet 2 rfl 1 (.slice A6 d.mx.length a6)).boxSet 2 rfl 2 (.slice none 0 0))
      simp only [List.set_cons_zero, List.set_cons_succ] at S7
      refine hK.out _ _ (CE.out _ (((B6.out.setCell (by exact hg0) _).setCell (by exact hg0) _).setCell (by exact hg0) _)) (fun hHeld7 => ?_)
      clear hK K y0 y1 y2 yf S6
      refine wpAnyH_done (by kernel_rfl) ?_ _
      go_wp2_with fail
      go_meet
      case rel => exact ⟨_, _, _, _, _, _, _, rfl, (((S7.out.pick 1 rfl).pick 1 rfl).pick 2 rfl)⟩
    refine AllReadyH.cons rfl (fun K hK => ?_) AllReadyH.nil
    go_simp
    have S3 := Lib.hid (S2.out.emptyI)
    have B3 := Lib.hid (B2.out.alloc B2.out.size (.cells #[] 3))
    have he3 : wq.heap.size ≤ w2.heap.size := B2.out.size
    refine hK.out _ _ (CE.out _ B3.out) (fun hHeld3 => ?_)
    generalize hge : w2.heap.size = e3 at S3 B3 he3 hHeld3 ⊢
    generalize World.alloc w2 _ = w3 at S3 B3 hHeld3 ⊢
    clear hK K hge S2 B2
    refine wpAnyH_ready (rs := [0]) (by kernel_rfl) (by simp) ?_
    refine AllReadyH.cons rfl (fun K hK => ?_) AllReadyH.nil
    go_simp
    have S4 := Lib.hid (S3.out.emptyI)
    have B4 := Lib.hid (B3.out.alloc B3.out.size (.cells #[] 3))
    have he4 : wq.heap.size ≤ w3.heap.size := B3.out.size
    refine hK.out _ _ (CE.out _ B4.out) (fun hHeld4 => ?_)
    generalize hge : w3.heap.size = e4 at S4 B4 he4 hHeld4 ⊢
    generalize World.alloc w3 _ = w4 at S4 B4 hHeld4 ⊢
    clear hK K hge S3 B3
    refine wpAnyH_ready (rs := [3]) (by kernel_rfl) (by simp) ?_
    refine AllReadyH.cons rfl (fun K hK => ?_) AllReadyH.nil
    have SP := Lib.hid (S4.out.pick 0 rfl)
    simp only [List.eraseIdx_cons_zero] at SP
    have OW := Lib.hid (own_flat (SP.out.own 0 rfl).1).1
    refine step_app_rd rfl (.tmp 6) (.tmp 8) 25 (by rfl) Tryz.underlying25 w.heap.size (.slice (some ⟨e4, 0, none⟩) 0 0) [] d.mn (by rfl) (by exact OW.out) _ (by rfl) (by exact M1.out.below S4.out.1 (Nat.le_refl _)) N1.out (by simp only [List.length_nil]; omega) S4.out.1.size ?_
    intro v5 w5 hown hg hat
    have S5 := Lib.hid (SP.out.appRow (by exact hown) hg hat)
    obtain ⟨A5, a5, rfl⟩ : ∃ A c, v5 = .slice A d.mn.length c := slice_ints (S5.out.rd 0 rfl)
    have B5 := Lib.hid (B4.out.grown hg B4.out.size (fun k hk => by simp [Value.ownBlock] at hk; have := he4; omega))
    refine hK.out _ _ (CE.out _ B5.out) (fun hHeld5 => ?_)
    clear hK K hown hg hat SP OW S4 B4
    refine wpAnyH_ready (rs := [7]) (by kernel_rfl) (by simp) ?_
    refine AllReadyH.cons rfl (fun K hK => ?_) AllReadyH.nil
    have SP := Lib.hid (S5.out.pick 1 rfl)
    simp only [List.eraseIdx_cons_succ, List.eraseIdx_cons_zero] at SP
    have OW := Lib.hid (own_flat (SP.out.own 0 rfl).1).1
    refine step_app_rd rfl (.tmp 10) (.tmp 12) 25 (by rfl) Tryz.underlying25 w.heap.size (.slice (some ⟨e3, 0, none⟩) 0 0) [] d.mx (by rfl) (by exact OW.out) _ (by rfl) (by exact M2.out.below S5.out.1 (Nat.le_refl _)) N2.out (by simp only [List.length_nil]; omega) S5.out.1.size ?_
    intro v6 w6 hown hg hat
    have S6 := Lib.hid (SP.out.appRow (by exact hown) hg hat)
    obtain ⟨A6, a6, rfl⟩ : ∃ A c, v6 = .slice A d.mx.length c := slice_ints (S6.out.rd 0 rfl)
    have B6 := Lib.hid (B5.out.grown hg B5.out.size (fun k hk => by simp [Value.ownBlock] at hk; have := he3; omega))
    refine hK.out _ _ (CE.out _ B6.out) (fun hHeld6 => ?_)
    clear hK K hown hg hat SP OW S5 B5
    refine wpAnyH_take (i := 8) (v := ?_) rfl (by kernel_rfl) (by kernel_rfl) (by kernel_rfl) (fun _ _ _ h => h) (Or.inl ⟨by rfl, ?_⟩) (by assumption) ?_
    rotate_left
    · (intro W hSw; (try dsimp only at hSw); go_simp <;> with_reducible rfl)
    (try simp only [Act.put, List.getElem_toArray, List.getElem_cons_succ, List.getElem_cons_zero, List.setIfInBounds_toArray, List.set_cons_succ, List.set_cons_zero])
    obtain ⟨y0, y1, y2, yf⟩ := (S6.out.bk 2 rfl).c3
    refine wpAnyH_ready (rs := [10]) (by kernel_rfl) (by simp) ?_
    refine AllReadyH.cons rfl (fun K hK => ?_) AllReadyH.nil
    go_simp
    have S7 := Lib.hid (((S6.out.boxSet 2 rfl 0 (.slice A5 d.mn.length a5)).boxSet 2 rfl 1 (.slice A6 d.mx.length a6)).boxSet 2 rfl 2 (.slice none 0 0))
    simp only [List.set_cons_zero, List.set_cons_succ] at S7
    refine hK.out _ _ (CE.out _ (((B6.out.setCell (by exact hg0) _).setCell (by exact hg0) _).setCell (by exact hg0) _)) (fun hHeld7 => ?_)
    clear hK K y0 y1 y2 yf S6
    refine wpAnyH_done (by kernel_rfl) ?_ _
    go_wp2_with fail
    go_meet
    case rel => exact ⟨_, _, _, _, _, _, _, rfl, (((S7.out.pick 1 rfl).pick 1 rfl).pick 2 rfl)⟩
  case rest =>
    obtain ⟨gb, A1, A2, a1, a2, F1, F2, rfl, hS⟩ := hcut
    have S2 := Lib.hid (hS.nilR 25 1 cellsI1)
    clear S0q hS S1z hlw
    obtain ⟨e0, e1, e2, ef⟩ := (S2.out.bk 5 rfl).c3
    go_wp2_with fail
    clear e0 e1 e2 ef
    go_loopw [18] (fun i wr => ∃ (k : Nat) (U3 : Option Addr) (u3 : Nat) (F3 : List Nat), k ≤ d.md.length ∧ i = .int .i64 k ∧ Sn w wr [⟨trSu (d.md.take k), .slice U3 k u3, F3⟩, boxI gb 45 [.slice A1 d.mn.length a1, .slice A2 d.mx.length a2, .slice U3 k u3], ⟨trI d.mx, .slice A2 d.mx.length a2, F2⟩, ⟨trI d.mn, .slice A1 d.mn.length a1, F1⟩, boxI (w.heap.size + 1) 45 [.slice none 0 0, .slice none 0 0, .slice none 0 0], boxI w.heap.size 45 [.slice D1 d.mn.length t1, .slice D2 d.mx.length t2, .slice D3 d.md.length t3]]) (fun i _ => d.md.length - (intOf i).toNat)
    case atStart => exact ⟨0, none, 0, _, Nat.zero_le _, rfl, S2.out⟩
    case round =>
      obtain ⟨k, U3, u3, F3, hkl, rfl, hS⟩ := hrel
      have S3 := Lib.hid hS
      clear hS S2
      by_cases hlt : k < d.md.length
      · have hlt' : (k : Int) < (d.md.length : Int) := by omega
        have k0 : (0 : Int) ≤ (k : Int) := by omega
        obtain ⟨b3, o3, rfl, hb3, hc3⟩ := Y3.out k hlt
        obtain ⟨A5, c5, hc3b, rm5, nl5⟩ := hc3 k hlt
        have z3 := (S3.out.1.cell (p := ⟨b3, o3 + k, none⟩) hb3).trans hc3b
        have RM := Lib.hid (rd_flat rm5)
        have NM := Lib.hid nl5
        have LM := Lib.hid (HSU.out k hlt)
        have HLN := Lib.hid (show (d.md.take k).length = k from by rw [List.length_take]; omega)
        have NX := Lib.hid (show d.md.take k ++ [d.md[k]] = d.md.take (k + 1) from by rw [List.take_succ_eq_append_getElem hlt])
        generalize d.md[k] = row at z3 RM NM LM NX
        clear hc3 hc3b rm5 nl5
        obtain ⟨y0, y1, y2, yf⟩ := (S3.out.bk 1 rfl).c3
        go_wp2_with fail
        have hly := (S3.out.bk 1 rfl).lt
        obtain ⟨_, _, _, _, hF0⟩ := rowsD_raw (S3.out.own 0 rfl).1
        have hng : gb ∉ (Value.slice U3 k u3).ownBlock.toList := fun h => S3.out.2.apart (i := 0) (j := 1) rfl rfl (by omega) gb (by rw [hF0]; exact List.mem_append.2 (.inl h)) (by simp [boxI])
        have S9 := Lib.hid S3.out.drew1
        clear S3 hF0 z3
        have CE := Lib.hid (fun (W : World) (h : Wr (Value.slice U3 k u3).ownBlock.toList wr.drew W) => show Hid (Wr (Value.slice U3 k u3).ownBlock.toList wr.drew W) ∧ W.cell? ⟨gb, 2, none⟩ = some (.slice U3 k u3) from ⟨Lib.hid h, (wr_cell h (p := ⟨gb, 2, none⟩) hly hng).trans (by exact by simpa using y2)⟩)
        have INIT := Lib.hid (CE.out _ (Wr.refl _ _))
        have KW := Lib.hid (fun (W2 W : World) (hb : Wr (Value.slice U3 k u3).ownBlock.toList W W2) (h : Hid (Wr (Value.slice U3 k u3).ownBlock.toList wr.drew W) ∧ W.cell? ⟨gb, 2, none⟩ = some (.slice U3 k u3)) => CE.out W2 (h.1.out.trans hb))
        clear y0 y1 y2 yf hly hng
        refine wpAnyZ_start 8 (fun W => Hid (Wr (Value.slice U3 k u3).ownBlock.toList wr.drew W) ∧ W.cell? ⟨gb, 2, none⟩ = some (.slice U3 k u3)) (by kernel_rfl) INIT.out (fun hHeld => ?_)
        clear INIT
        generalize hwd : wr.drew = wd at S9 CE KW hHeld ⊢
        refine wpAnyZ_take (i := 0) (v := ?_) rfl (by kernel_rfl) (by kernel_rfl) (by kernel_rfl) (fun _ _ _ h => h) (Or.inl ⟨by rfl, ?_⟩) (by assumption) ?_
        rotate_left
        · (intro W hSw; (try dsimp only at hSw); go_simp <;> with_reducible rfl)
        (try simp only [Act.put])
        refine wpAnyZ_take (i := 1) (v := ?_) rfl (by kernel_rfl) (by kernel_rfl) (by kernel_rfl) (fun _ _ _ h => h) (Or.inl ⟨by rfl, ?_⟩) (by assumption) ?_
        rotate_left
        · (intro W hSw; (try dsimp only at hSw); go_simp <;> with_reducible rfl)
        (try simp only [Act.put])
        refine wpAnyZ_take (i := 3) (v := ?_) rfl (by kernel_rfl) (by kernel_rfl) (by kernel_rfl) (fun _ _ _ h => h) (Or.inl ⟨by rfl, ?_⟩) (by assumption) ?_
        rotate_left
        · (intro W hSw; (try dsimp only at hSw); go_simp <;> with_reducible rfl)
        (try simp only [Act.put])
        have S4 := Lib.hid S9.out.emptyI
        have he : wd.heap.size ≤ wd.heap.size := Nat.le_refl _
        refine wpAnyZ_one (i := 2) (by kernel_rfl) rfl (fun K hK => ?_)
        go_simp
        refine hK.out _ _ (KW.out _ _ (Wr.of_below ((Below.refl _ _).alloc (Nat.le_refl _) _) (Nat.le_refl _)) hHeld) (fun hHeld2 => ?_)
        clear hK K
        generalize hge : wd.heap.size = ee at S4 he ⊢
        generalize World.alloc wd _ = w2 at S4 hHeld2 ⊢
        have OW := Lib.hid (own_flat (S4.out.own 0 rfl).1).1
        refine wpAnyZ_one (i := 4) (by kernel_rfl) rfl (fun K hK => ?_)
        refine step_app_rd rfl (.tmp 24) (.tmp 25) 25 (by rfl) Tryz.underlying25 w.heap.size (.slice (some ⟨ee, 0, none⟩) 0 0) [] row (by rfl) (by exact OW.out) _ (by rfl) (by exact RM.out.below S4.out.1 (Nat.le_refl _)) NM.out (by have := LM.out; simp only [List.length_nil]; omega) S4.out.1.size ?_
        intro v7 w3 hown hg hat
        have S10 := Lib.hid (S4.out.appRow (by exact hown) hg hat)
        obtain ⟨A7, c7, rfl⟩ : ∃ A c, v7 = .slice A row.length c := slice_ints (S10.out.rd 0 rfl)
        refine hK.out _ _ (CE.out _ (hHeld2.1.out.fresh (Wr.of_grown hg) (by rw [hge]; exact Nat.le_refl _))) (fun hHeld3 => ?_)
        clear hK K hown hg hat OW S4 he hge hwd
        have S11 := Lib.hid (show Sn w w3 (⟨trI row, .slice A7 row.length c7, (Value.slice A7 row.length c7).ownBlock.toList⟩ :: ⟨trSu (d.md.take k), .slice U3 k u3, F3⟩ :: _) from S10.out)
        clear S9 S10
        have SW := Lib.hid S11.out.wrap
        obtain ⟨vs, G, ov, ol, hF⟩ := rowsD_raw (SW.out.own 1 rfl).1
        rw [HLN.out] at ov
        have OV := Lib.hid ov
        have OL := Lib.hid ol
        have HF := Lib.hid hF
        have hzs := S11.out.1.size
        clear ov ol hF
        refine wpAnyZ_one (i := 5) (by kernel_rfl) rfl (fun K hK => ?_)
        go_simp
        refine hK.out _ _ (KW.out _ _ (Wr.of_below ((Below.refl _ _).alloc (Nat.le_refl _) _) (Nat.le_refl _)) hHeld3) (fun hHeld5 => ?_)
        clear hK K
        refine wpAnyZ_one (i := 6) (by kernel_rfl) rfl (fun K hK => ?_)
        refine step_append_lies _ (by rfl) (.tmp 23) (.tmp 27) 43 (by rfl) w.heap.size 25 ii (.slice none 0 0) 1 24 Tryz.underlying43 hj0 hjz hjs hjb rfl (by decide) _ k vs (by rfl) (by exact OV.out.alloc _) ⟨w3.heap.size, 0, none⟩ 1 1 [.slice A7 row.length c7] (by rfl) (by rfl) (by exact one_cell _ _ _) (by simp [Value.oneCell']) (by decide) (by unfold maxLen; omega) (by omega) (by simp; omega) (w3.heap.size + 1) (by simp) ?_
        intro g' c' w8 hown8 hg8 hat8 hlt8
        have hg9 : (w3.alloc (.cells #[.slice A7 row.length c7] 25)).grownBy w8 (Value.slice U3 k u3).ownBlock := hg8
        have hat9 : (Value.slice (some ⟨g', 0, none⟩) (k + 1) c').ownBlock = (Value.slice U3 k u3).ownBlock ∨ (Value.slice (some ⟨g', 0, none⟩) (k + 1) c').ownBlock = some (w3.heap.size + 1) := by
          have h4 : (Value.slice U3 k u3).ownBlock = some g' ∨ g' = w3.heap.size + 1 := hat8
          rcases h4 with h4 | h4
          · exact .inl h4.symm
          · exact .inr (by subst h4; rfl)
        obtain ⟨F3', h9⟩ := Sn.appG (f := cellsI1) (x := row) (by rw [HLN.out]) SW.out OL.out HF.out hown8 hg9 hat9
        have S12 := Lib.hid h9
        refine hK.out _ _ (KW.out _ _ (Wr.of_grown hg9) hHeld5) (fun hHeld6 => ?_)
        clear hK K hg8 hg9 hat8 hat9 h9 hown8 SW OV OL HF hlt8 S11
        rw [NX.out] at S12
        obtain ⟨f0, f1, f2, ff⟩ := (S12.out.bk 1 rfl).c3
        refine wpAnyZ_take (i := 7) (v := ?_) rfl (by kernel_rfl) (by kernel_rfl) (by kernel_rfl) (fun _ _ _ h => h) (Or.inl ⟨by rfl, ?_⟩) (by assumption) ?_
        rotate_left
        · (intro W hSw; (try dsimp only at hSw); go_simp <;> with_reducible rfl)
        (try simp only [Act.put])
        refine wpAnyZ_last (by kernel_rfl) (by kernel_rfl) rfl (fun K hK => ?_)
        go_simp
        refine hK.out _ _ ?_
        clear hK K
        have S13 := Lib.hid (S12.out.boxSet 1 rfl 2 (.slice (some ⟨g', 0, none⟩) (k + 1) c'))
        simp only [List.set_cons_zero, List.set_cons_succ] at S13
        generalize World.setCell w8 _ _ = w9 at S13 ⊢
        clear S12 KW CE f0 f1 f2 ff
        go_wp2
        go_roundw
        case rel => exact ⟨k + 1, some ⟨g', 0, none⟩, c', F3', by omega, by go_num, S13.out⟩
        case measure => simp [intOf]; omega
      · have hge : ¬ (k : Int) < (d.md.length : Int) := by omega
        obtain rfl : k = d.md.length := by omega
        rw [List.take_length] at S3
        obtain ⟨y0, y1, y2, yf⟩ := (S3.out.bk 1 rfl).c3
        obtain ⟨q0, q1, q2, qf⟩ := (S3.out.bk 4 rfl).c3
        have hgr : gb ≠ w.heap.size + 1 := fun e => S3.out.2.apart (i := 1) (j := 4) rfl rfl (by omega) gb (by simp [boxI]) (by simp [boxI, e])
        go_wp2
        have SZ := ((S3.out.boxSet 4 rfl 0 (.slice A1 d.mn.length a1)).boxSet 4 rfl 1 (.slice A2 d.mx.length a2)).boxSet 4 rfl 2 (.slice U3 d.md.length u3)
        have P := SZ.nil0
        have P := (P.pick 1 rfl).pack
        have P := (P.pick 2 rfl).pack
        have P := (P.pick 2 rfl).pack
        refine bodyPost_ret (v := .agg #[.slice A1 d.mn.length a1, .slice A2 d.mx.length a2, .slice U3 d.md.length u3]) (by simp [results, Tryz.results76, go_sem, q0, q1, q2]) rfl (by first | exact ⟨_, _, rfl, (P.own 0 rfl).1, (P.own 0 rfl).2, SZ.1⟩ | exact ⟨_, (P.own 0 rfl).1, (P.own 0 rfl).2, SZ.1⟩ | exact ⟨_, rfl, _, (P.own 0 rfl).1, (P.own 0 rfl).2, SZ.1⟩)
end Go.Proofs.YtgbpomakomddjabGreat
end

section
namespace Go.Proofs.YtgbpomakomddjabGreat
open Go.RowKit Go.Shelf
set_option linter.unusedVariables false

end Go.Proofs.YtgbpomakomddjabGreat
end

section
namespace Go.Proofs.YtgbpomakomddjabGreat
open Go.RowKit Go.Shelf
set_option linter.unusedVariables false

theorem Sn.unpack {w0 W : World} {L : List Item} {t : Tr} {ts : List Tr} {v : Value} {vs : List Value} {F : List Nat} (h : Sn w0 W (⟨.agg (t :: ts), .agg ⟨v :: vs⟩, F⟩ :: L)) : ∃ G K, Sn w0 W (⟨t, v, G⟩ :: ⟨.agg ts, .agg ⟨vs⟩, K⟩ :: L) := by
  obtain ⟨oa, na, pa, rest⟩ := h.2
  obtain ⟨us, he, v1, us', G, K, hu, o1, o2, rfl⟩ := oa
  have e1 : (v :: vs) = us := by injection he with he; injection he
  rw [← e1] at hu
  obtain ⟨rfl, rfl⟩ : v1 = v ∧ us' = vs := by injection hu with a b; exact ⟨a.symm, b.symm⟩
  obtain ⟨n1, n2, n3⟩ := List.nodup_append.1 na
  refine ⟨G, K, h.1, o1, n1, fun s hs k hk => ?_, ⟨us', rfl, o2⟩, n2, fun s hs k hk => pa s hs k (List.mem_append.2 (.inr hk)), rest⟩
  rcases List.mem_cons.1 hs with rfl | hs
  · exact fun e => n3 k hk k e rfl
  · exact pa s hs k (List.mem_append.2 (.inl hk))
/-- A domain of one's own, its rows apart: the least starts first. -/
theorem Sn.undom {w0 W : World} {L : List Item} {d : Dm} {v1 v2 v3 : Value} {F : List Nat} (h : Sn w0 W (⟨trDm d, .agg #[v1, v2, v3], F⟩ :: L)) : ∃ F1 F2 F3, Sn w0 W (⟨trI d.mn, v1, F1⟩ :: ⟨trI d.mx, v2, F2⟩ :: ⟨trSu d.md, v3, F3⟩ :: L) := by
  obtain ⟨F1, G1, h1⟩ := Sn.unpack (t := trI d.mn) (ts := [trI d.mx, trSu d.md]) (v := v1) (vs := [v2, v3]) h
  obtain ⟨F2, G2, h2⟩ := Sn.unpack (t := trI d.mx) (ts := [trSu d.md]) (v := v2) (vs := [v3]) (h1.pick 1 rfl)
  obtain ⟨F3, G3, h3⟩ := Sn.unpack (t := trSu d.md) (ts := []) (v := v3) (vs := []) (h2.pick 1 rfl)
  have h4 := (((h3.drop 1).pick 1 rfl).pick 2 rfl)
  exact ⟨F1, F2, F3, h4⟩
theorem rest_1 {d : Dm} {n : Nat} {ac va : Int} : restA d ⟨1, ac, va⟩ n = ⟨d.mn.set n (max (mnD d n) (brT va)), d.mx, d.md⟩ := rfl
theorem rest_2 {d : Dm} {n : Nat} {ac va : Int} : restA d ⟨2, ac, va⟩ n = ⟨d.mn, d.mx.set n (min (mxD d n) (brT va)), d.md⟩ := rfl
theorem rest_3 {d : Dm} {n : Nat} {ac va : Int} : restA d ⟨3, ac, va⟩ n = ⟨d.mn, d.mx, d.md.set n (interB (mdD d n) [brT va])⟩ := rfl
theorem rest_4 {d : Dm} {n : Nat} {ac va : Int} : restA d ⟨4, ac, va⟩ n = ⟨d.mn, d.mx, d.md.set n (pickB (neB (brT va)) (mdD d n))⟩ := rfl
theorem rest_o {d : Dm} {n : Nat} {ki ac va : Int} (h1 : ¬ ki = 1) (h2 : ¬ ki = 2) (h3 : ¬ ki = 3) (h4 : ¬ ki = 4) : restA d ⟨ki, ac, va⟩ n = d := by simp [restA, h1, h2, h3, h4]
theorem mk_rdDom {w : World} {d : Dm} {v1 v2 v3 : Value} (h1 : (trI d.mn).rd w v1) (h2 : (trI d.mx).rd w v2) (h3 : (trSu d.md).rd w v3) : (trDm d).rd w (.agg #[v1, v2, v3]) := ⟨_, rfl, _, _, rfl, h1, _, _, rfl, h2, _, _, rfl, h3, rfl⟩
set_option maxRecDepth 100000 in
set_option maxHeartbeats 8000000 in
theorem inPlace_any (d : Dm) (l : Lt) (g : Nat) (A1 A2 A3 : Option Addr) (a1 a2 a3 : Nat) (F1 F2 F3 : List Nat) (L : List Item) (W0 w : World) (hsz : (trDm d).sz ≤ 1048576)
    (h : Sn W0 w (⟨trI d.mn, .slice A1 d.mn.length a1, F1⟩ :: ⟨trI d.mx, .slice A2 d.mx.length a2, F2⟩ :: ⟨trSu d.md, .slice A3 d.md.length a3, F3⟩ :: boxI g 45 [.slice A1 d.mn.length a1, .slice A2 d.mx.length a2, .slice A3 d.md.length a3] :: L)) :
    Calls Tryz.prog 45 #[.pointer (some ⟨g, 0, none⟩), ltV l] w fun e w' => e = .returned (.tuple #[]) ∧ ∃ F3', Sn W0 w' (⟨trI (restD d l).mn, .slice A1 d.mn.length a1, F1⟩ :: ⟨trI (restD d l).mx, .slice A2 d.mx.length a2, F2⟩ :: ⟨trSu (restD d l).md, .slice A3 d.md.length a3, F3'⟩ :: boxI g 45 [.slice A1 d.mn.length a1, .slice A2 d.mx.length a2, .slice A3 d.md.length a3] :: L) := by
  obtain ⟨ki, ac, va⟩ := l
  have HN := Lib.hid (fun h => @rest_no d ⟨ki, ac, va⟩ h)
  have HY := Lib.hid (fun n h e => @rest_yes d ⟨ki, ac, va⟩ n h e)
  generalize restD d ⟨ki, ac, va⟩ = res at HN HY ⊢
  have ZM := Lib.hid (fun j (h : j < d.md.length) => Nat.le_trans (su_at h) (by rw [dm_sz] at hsz; omega : (trSu d.md).sz ≤ 1048576))
  clear hsz
  have S0 := Lib.hid (h.box 56 [.int .i64 ki, .int .i64 ac, .int .i64 va])
  have hsW := h.1.size
  have hgl := (h.bk 3 rfl).lt
  clear h
  unfold ltV
  go_enter Tryz.func45, Tryz.ntmps45
  go_wp2_with fail
  generalize World.alloc w _ = wq at S0 ⊢
  generalize w.heap.size = gl at S0 hgl ⊢
  obtain ⟨q0, q1, q2, qf⟩ := (S0.out.bk 0 rfl).c3
  go_quiet (first | (go_at_call 81; exact quiet_left (clampT_any _ _)) | fail)
  generalize hwr : World.drewN wq _ = wr
  have hbr : Below wq.heap.size wq wr := hwr ▸ below_drewN (Below.refl _ _) _
  have S1 := Lib.hid (S0.out.go hbr)
  clear hwr hbr S0 q0 q1 q2 qf
  obtain ⟨e0, e1, e2, ef⟩ := (S1.out.bk 4 rfl).c3
  go_wp2_with fail
  refine (hasAct_any d ac _ _ (by exact mk_rdDom (S1.out.rd 1 rfl) (S1.out.rd 2 rfl) (S1.out.rd 3 rfl))).mono ?_
  rintro e w2 ⟨rfl, b⟩
  have S2 := Lib.hid (S1.out.go b)
  clear S1 b e0 e1 e2 ef
  by_cases ht : thereD d ac
  rotate_left
  · rw [decide_eq_false ht]
    have RES := Lib.hid (HN.out ht)
    go_wp2
    refine bodyPost_ret (v := .tuple #[]) (by simp [results, Tryz.results45, go_sem]) rfl ⟨rfl, F3, by rw [RES.out]; exact S2.out.drop 0⟩
  rw [decide_eq_true ht]
  obtain ⟨n, rfl⟩ : ∃ n : Nat, ac = (n : Int) := ⟨ac.toNat, by have := ht.1; omega⟩
  have RES := Lib.hid (HY.out n ht rfl)
  obtain ⟨k0, k1, k2, k3⟩ := ht
  have n1 : n < d.mn.length := by omega
  have n2 : n < d.mx.length := by omega
  have n3 : n < d.md.length := by omega
  obtain ⟨b1, rfl, hac1⟩ := (S2.out.pick 1 rfl).formI (by omega)
  obtain ⟨b2, rfl, hac2⟩ := (S2.out.pick 2 rfl).formI (by omega)
  obtain ⟨b3, rfl, hac3, hlt3⟩ := (S2.out.pick 3 rfl).formR (by omega)
  clear HN HY
  obtain ⟨q0, q1, q2, qf⟩ := (S2.out.bk 0 rfl).c3
  obtain ⟨e0, e1, e2, ef⟩ := (S2.out.bk 4 rfl).c3
  have hlq := (S2.out.bk 0 rfl).lt
  have hle := (S2.out.bk 4 rfl).lt
  by_cases h1 : ki = 1
  · subst h1
    rw [rest_1] at RES
    go_wp2_with fail
    have CI := (S2.out.pick 1 rfl).cellI n1
    have hc := CI.1
    have hlb := ((S2.out.pick 1 rfl).own 0 rfl)
    have hlt9 := (Tr.own_lt _ _ _ hlb.1 b1 (by rw [(own_flat hlb.1).2]; simp [Value.ownBlock])).2
    rw [← mnD_at] at hc
    have S3 := Lib.hid S2.out.drew1
    clear S2 CI hlb
    generalize hxx : mnD d n = xx at hc RES
    have CE := Lib.hid (fun (W : World) (h : Wr [] w2.drew W) => show Hid (Wr [] w2.drew W) ∧ W.cell? ⟨g, 0, none⟩ = some (.slice (some ⟨b1, 0, none⟩) d.mn.length a1) ∧ W.cell? ⟨b1, n, none⟩ = some (.int .i64 xx) from ⟨Lib.hid h, (wr_cell h (p := ⟨g, 0, none⟩) hle (by simp)).trans (by exact by simpa using e0), (wr_cell h (p := ⟨b1, n, none⟩) (by show b1 < _; simpa using hlt9) (by simp)).trans (by exact by simpa using hc)⟩)
    have INIT := Lib.hid (CE.out _ (Wr.refl _ _))
    have KW := Lib.hid (fun (W2 W : World) (hb : Wr [] W W2) (h : Hid (Wr [] w2.drew W) ∧ W.cell? ⟨g, 0, none⟩ = some (.slice (some ⟨b1, 0, none⟩) d.mn.length a1) ∧ W.cell? ⟨b1, n, none⟩ = some (.int .i64 xx)) => CE.out W2 (h.1.out.trans hb))
    clear e0 e1 e2 ef q0 q1 q2 qf hc hlq hle hlt9
    refine wpAnyZ_start 15 (fun W => Hid (Wr [] w2.drew W) ∧ W.cell? ⟨g, 0, none⟩ = some (.slice (some ⟨b1, 0, none⟩) d.mn.length a1) ∧ W.cell? ⟨b1, n, none⟩ = some (.int .i64 xx)) (by kernel_rfl) INIT.out (fun hHeld => ?_)
    clear CE INIT KW
    refine wpAnyZ_take (i := 0) (v := ?_) rfl (by kernel_rfl) (by kernel_rfl) (by kernel_rfl) (fun _ _ _ h => h) (Or.inl ⟨by rfl, ?_⟩) (by assumption) ?_
    rotate_left
    · (intro W hSw; (try dsimp only at hSw); go_simp <;> with_reducible rfl)
    (try simp only [Act.put])
    refine wpAnyZ_take (i := 1) (v := ?_) rfl (by kernel_rfl) (by kernel_rfl) (by kernel_rfl) (fun _ _ _ h => h) (Or.inl ⟨by rfl, ?_⟩) (by assumption) ?_
    rotate_left
    · (intro W hSw; (try dsimp only at hSw); go_simp <;> with_reducible rfl)
    (try simp only [Act.put])
    refine wpAnyZ_take (i := 2) (v := ?_) rfl (by kernel_rfl) (by kernel_rfl) (by kernel_rfl) (fun _ _ _ h => h) (Or.inl ⟨by rfl, ?_⟩) (by assumption) ?_
    rotate_left
    · (intro W hSw; (try dsimp only at hSw); go_simp <;> with_reducible rfl)
    (try simp only [Act.put])
    refine wpAnyZ_take (i := 3) (v := ?_) rfl (by kernel_rfl) (by kernel_rfl) (by kernel_rfl) (fun _ _ _ h => h) (Or.inl ⟨by rfl, ?_⟩) (by assumption) ?_
    rotate_left
    · (intro W hSw; (try dsimp only at hSw); go_simp <;> with_reducible rfl)
    (try simp only [Act.put])
    refine wpAnyZ_take (i := 4) (v := ?_) rfl (by kernel_rfl) (by kernel_rfl) (by kernel_rfl) (fun _ _ _ h => h) (Or.inl ⟨by rfl, ?_⟩) (by assumption) ?_
    rotate_left
    · (intro W hSw; (try dsimp only at hSw); go_simp <;> with_reducible rfl)
    (try simp only [Act.put])
    refine wpAnyZ_take (i := 5) (v := ?_) rfl (by kernel_rfl) (by kernel_rfl) (by kernel_rfl) (fun _ _ _ h => h) (Or.inl ⟨by rfl, ?_⟩) (by assumption) ?_
    rotate_left
    · (intro W hSw; (try dsimp only at hSw); go_simp <;> with_reducible rfl)
    (try simp only [Act.put])
    refine wpAnyZ_take (i := 6) (v := ?_) rfl (by kernel_rfl) (by kernel_rfl) (by kernel_rfl) (fun _ _ _ h => h) (Or.inl ⟨by rfl, ?_⟩) (by assumption) ?_
    rotate_left
    · (intro W hSw; (try dsimp only at hSw); go_simp <;> with_reducible rfl)
    (try simp only [Act.put])
    refine wpAnyZ_take (i := 7) (v := ?_) rfl (by kernel_rfl) (by kernel_rfl) (by kernel_rfl) (fun _ _ _ h => h) (Or.inl ⟨by rfl, ?_⟩) (by assumption) ?_
    rotate_left
    · (intro W hSw; (try dsimp only at hSw); go_simp <;> with_reducible rfl)
    (try simp only [Act.put])
    refine wpAnyZ_take (i := 8) (v := ?_) rfl (by kernel_rfl) (by kernel_rfl) (by kernel_rfl) (fun _ _ _ h => h) (Or.inl ⟨by rfl, ?_⟩) (by assumption) ?_
    rotate_left
    · (intro W hSw; (try dsimp only at hSw); go_simp <;> with_reducible rfl)
    (try simp only [Act.put])
    refine wpAnyZ_take (i := 9) (v := ?_) rfl (by kernel_rfl) (by kernel_rfl) (by kernel_rfl) (fun _ _ _ h => h) (Or.inl ⟨by rfl, ?_⟩) (by assumption) ?_
    rotate_left
    · (intro W hSw; (try dsimp only at hSw); go_simp <;> with_reducible rfl)
    (try simp only [Act.put])
    refine wpAnyZ_take (i := 10) (v := ?_) rfl (by kernel_rfl) (by kernel_rfl) (by kernel_rfl) (fun _ _ _ h => h) (Or.inl ⟨by rfl, ?_⟩) (by assumption) ?_
    rotate_left
    · (intro W hSw; (try dsimp only at hSw); go_simp <;> with_reducible rfl)
    (try simp only [Act.put])
    refine wpAnyZ_take (i := 11) (v := ?_) rfl (by kernel_rfl) (by kernel_rfl) (by kernel_rfl) (fun _ _ _ h => h) (Or.inl ⟨by rfl, ?_⟩) (by assumption) ?_
    rotate_left
    · (intro W hSw; (try dsimp only at hSw); go_simp <;> with_reducible rfl)
    (try simp only [Act.put])
    refine wpAnyZ_take (i := 12) (v := ?_) rfl (by kernel_rfl) (by kernel_rfl) (by kernel_rfl) (fun _ _ _ h => h) (Or.inl ⟨by rfl, ?_⟩) (by assumption) ?_
    rotate_left
    · (intro W hSw; (try dsimp only at hSw); go_simp <;> with_reducible rfl)
    (try simp only [Act.put])
    refine wpAnyZ_take (i := 13) (v := ?_) rfl (by kernel_rfl) (by kernel_rfl) (by kernel_rfl) (fun _ _ _ h => h) (Or.inl ⟨by rfl, ?_⟩) (by assumption) ?_
    rotate_left
    · (intro W hSw; (try dsimp only at hSw); go_simp <;> with_reducible rfl)
    (try simp only [Act.put])
    have CF := (S3.out.pick 1 rfl).cellI n1
    have hcf := CF.1
    have hff := CF.2
    have S4 := Lib.hid ((S3.out.pick 1 rfl).setI n (max xx (brT va)))
    simp only [List.eraseIdx_cons_succ, List.eraseIdx_cons_zero] at S4
    refine wpAnyZ_take (i := 14) (v := ?_) rfl (by kernel_rfl) (by kernel_rfl) (by kernel_rfl) (fun _ _ _ h => h) (Or.inl ⟨by rfl, ?_⟩) (by assumption) ?_
    rotate_left
    · (intro W hSw; (try dsimp only at hSw); go_simp <;> with_reducible rfl)
    (try simp only [Act.put])
    refine wpAnyZ_last (by kernel_rfl) (by kernel_rfl) rfl (fun K hK => ?_)
    go_simp
    refine hK.out _ _ ?_
    clear hK K
    go_wp2
    go_end0
    refine ⟨rfl, F3, ?_⟩
    rw [RES.out]
    first
      | exact S4.out.drop 1
      | (have hmm : (max xx (brT va)) = (if brT va < xx then brT va else xx) := by omega
         rw [hmm] at *
         exact S4.out.drop 1)
  by_cases h2 : ki = 2
  · subst h2
    rw [rest_2] at RES
    go_wp2_with fail
    have CI := (S2.out.pick 2 rfl).cellI n2
    have hc := CI.1
    have hlb := ((S2.out.pick 2 rfl).own 0 rfl)
    have hlt9 := (Tr.own_lt _ _ _ hlb.1 b2 (by rw [(own_flat hlb.1).2]; simp [Value.ownBlock])).2
    rw [← mxD_at] at hc
    have S3 := Lib.hid S2.out.drew1
    clear S2 CI hlb
    generalize hxx : mxD d n = xx at hc RES
    have CE := Lib.hid (fun (W : World) (h : Wr [] w2.drew W) => show Hid (Wr [] w2.drew W) ∧ W.cell? ⟨g, 1, none⟩ = some (.slice (some ⟨b2, 0, none⟩) d.mx.length a2) ∧ W.cell? ⟨b2, n, none⟩ = some (.int .i64 xx) from ⟨Lib.hid h, (wr_cell h (p := ⟨g, 1, none⟩) hle (by simp)).trans (by exact by simpa using e1), (wr_cell h (p := ⟨b2, n, none⟩) (by show b2 < _; simpa using hlt9) (by simp)).trans (by exact by simpa using hc)⟩)
    have INIT := Lib.hid (CE.out _ (Wr.refl _ _))
    have KW := Lib.hid (fun (W2 W : World) (hb : Wr [] W W2) (h : Hid (Wr [] w2.drew W) ∧ W.cell? ⟨g, 1, none⟩ = some (.slice (some ⟨b2, 0, none⟩) d.mx.length a2) ∧ W.cell? ⟨b2, n, none⟩ = some (.int .i64 xx)) => CE.out W2 (h.1.out.trans hb))
    clear e0 e1 e2 ef q0 q1 q2 qf hc hlq hle hlt9
    refine wpAnyZ_start 15 (fun W => Hid (Wr [] w2.drew W) ∧ W.cell? ⟨g, 1, none⟩ = some (.slice (some ⟨b2, 0, none⟩) d.mx.length a2) ∧ W.cell? ⟨b2, n, none⟩ = some (.int .i64 xx)) (by kernel_rfl) INIT.out (fun hHeld => ?_)
    clear CE INIT KW
    refine wpAnyZ_take (i := 0) (v := ?_) rfl (by kernel_rfl) (by kernel_rfl) (by kernel_rfl) (fun _ _ _ h => h) (Or.inl ⟨by rfl, ?_⟩) (by assumption) ?_
    rotate_left
    · (intro W hSw; (try dsimp only at hSw); go_simp <;> with_reducible rfl)
    (try simp only [Act.put])
    refine wpAnyZ_take (i := 1) (v := ?_) rfl (by kernel_rfl) (by kernel_rfl) (by kernel_rfl) (fun _ _ _ h => h) (Or.inl ⟨by rfl, ?_⟩) (by assumption) ?_
    rotate_left
    · (intro W hSw; (try dsimp only at hSw); go_simp <;> with_reducible rfl)
    (try simp only [Act.put])
    refine wpAnyZ_take (i := 2) (v := ?_) rfl (by kernel_rfl) (by kernel_rfl) (by kernel_rfl) (fun _ _ _ h => h) (Or.inl ⟨by rfl, ?_⟩) (by assumption) ?_
    rotate_left
    · (intro W hSw; (try dsimp only at hSw); go_simp <;> with_reducible rfl)
    (try simp only [Act.put])
    refine wpAnyZ_take (i := 3) (v := ?_) rfl (by kernel_rfl) (by kernel_rfl) (by kernel_rfl) (fun _ _ _ h => h) (Or.inl ⟨by rfl, ?_⟩) (by assumption) ?_
    rotate_left
    · (intro W hSw; (try dsimp only at hSw); go_simp <;> with_reducible rfl)
    (try simp only [Act.put])
    refine wpAnyZ_take (i := 4) (v := ?_) rfl (by kernel_rfl) (by kernel_rfl) (by kernel_rfl) (fun _ _ _ h => h) (Or.inl ⟨by rfl, ?_⟩) (by assumption) ?_
    rotate_left
    · (intro W hSw; (try dsimp only at hSw); go_simp <;> with_reducible rfl)
    (try simp only [Act.put])
    refine wpAnyZ_take (i := 5) (v := ?_) rfl (by kernel_rfl) (by kernel_rfl) (by kernel_rfl) (fun _ _ _ h => h) (Or.inl ⟨by rfl, ?_⟩) (by assumption) ?_
    rotate_left
    · (intro W hSw; (try dsimp only at hSw); go_simp <;> with_reducible rfl)
    (try simp only [Act.put])
    refine wpAnyZ_take (i := 6) (v := ?_) rfl (by kernel_rfl) (by kernel_rfl) (by kernel_rfl) (fun _ _ _ h => h) (Or.inl ⟨by rfl, ?_⟩) (by assumption) ?_
    rotate_left
    · (intro W hSw; (try dsimp only at hSw); go_simp <;> with_reducible rfl)
    (try simp only [Act.put])
    refine wpAnyZ_take (i := 7) (v := ?_) rfl (by kernel_rfl) (by kernel_rfl) (by kernel_rfl) (fun _ _ _ h => h) (Or.inl ⟨by rfl, ?_⟩) (by assumption) ?_
    rotate_left
    · (intro W hSw; (try dsimp only at hSw); go_simp <;> with_reducible rfl)
    (try simp only [Act.put])
    refine wpAnyZ_take (i := 8) (v := ?_) rfl (by kernel_rfl) (by kernel_rfl) (by kernel_rfl) (fun _ _ _ h => h) (Or.inl ⟨by rfl, ?_⟩) (by assumption) ?_
    rotate_left
    · (intro W hSw; (try dsimp only at hSw); go_simp <;> with_reducible rfl)
    (try simp only [Act.put])
    refine wpAnyZ_take (i := 9) (v := ?_) rfl (by kernel_rfl) (by kernel_rfl) (by kernel_rfl) (fun _ _ _ h => h) (Or.inl ⟨by rfl, ?_⟩) (by assumption) ?_
    rotate_left
    · (intro W hSw; (try dsimp only at hSw); go_simp <;> with_reducible rfl)
    (try simp only [Act.put])
    refine wpAnyZ_take (i := 10) (v := ?_) rfl (by kernel_rfl) (by kernel_rfl) (by kernel_rfl) (fun _ _ _ h => h) (Or.inl ⟨by rfl, ?_⟩) (by assumption) ?_
    rotate_left
    · (intro W hSw; (try dsimp only at hSw); go_simp <;> with_reducible rfl)
    (try simp only [Act.put])
    refine wpAnyZ_take (i := 11) (v := ?_) rfl (by kernel_rfl) (by kernel_rfl) (by kernel_rfl) (fun _ _ _ h => h) (Or.inl ⟨by rfl, ?_⟩) (by assumption) ?_
    rotate_left
    · (intro W hSw; (try dsimp only at hSw); go_simp <;> with_reducible rfl)
    (try simp only [Act.put])
    refine wpAnyZ_take (i := 12) (v := ?_) rfl (by kernel_rfl) (by kernel_rfl) (by kernel_rfl) (fun _ _ _ h => h) (Or.inl ⟨by rfl, ?_⟩) (by assumption) ?_
    rotate_left
    · (intro W hSw; (try dsimp only at hSw); go_simp <;> with_reducible rfl)
    (try simp only [Act.put])
    refine wpAnyZ_take (i := 13) (v := ?_) rfl (by kernel_rfl) (by kernel_rfl) (by kernel_rfl) (fun _ _ _ h => h) (Or.inl ⟨by rfl, ?_⟩) (by assumption) ?_
    rotate_left
    · (intro W hSw; (try dsimp only at hSw); go_simp <;> with_reducible rfl)
    (try simp only [Act.put])
    have CF := (S3.out.pick 2 rfl).cellI n2
    have hcf := CF.1
    have hff := CF.2
    have S4 := Lib.hid ((S3.out.pick 2 rfl).setI n (min xx (brT va)))
    simp only [List.eraseIdx_cons_succ, List.eraseIdx_cons_zero] at S4
    refine wpAnyZ_take (i := 14) (v := ?_) rfl (by kernel_rfl) (by kernel_rfl) (by kernel_rfl) (fun _ _ _ h => h) (Or.inl ⟨by rfl, ?_⟩) (by assumption) ?_
    rotate_left
    · (intro W hSw; (try dsimp only at hSw); go_simp <;> with_reducible rfl)
    (try simp only [Act.put])
    refine wpAnyZ_last (by kernel_rfl) (by kernel_rfl) rfl (fun K hK => ?_)
    go_simp
    refine hK.out _ _ ?_
    clear hK K
    go_wp2
    go_end0
    refine ⟨rfl, F3, ?_⟩
    rw [RES.out]
    first
      | exact (S4.out.pick 2 rfl).drop 2
      | (have hmm : (min xx (brT va)) = (if brT va < xx then brT va else xx) := by omega
         rw [hmm] at *
         exact (S4.out.pick 2 rfl).drop 2)
  by_cases h3 : ki = 3
  · subst h3
    rw [rest_3] at RES
    go_wp2_with fail
    obtain ⟨_, A9, c9, he9, y9⟩ := own_rowsI (S2.out.own 3 rfl).1
    obtain ⟨b9, o9, e9, hb9, hj9⟩ := y9 n n3
    have ee9 : b9 = b3 ∧ o9 = 0 := by injection he9 with h1 h2 h3; rw [← h1] at e9; injection e9 with e9; injection e9 with x y; exact ⟨x.symm, y.symm⟩
    obtain ⟨rfl, rfl⟩ := ee9
    obtain ⟨A7, c7, hc7, rm7, nl7⟩ := hj9 n n3
    rw [Nat.zero_add] at hc7
    have RM := Lib.hid (rd_flat rm7)
    have NM := Lib.hid nl7
    have LM := Lib.hid (ZM.out n n3)
    rw [← mdD_at (d := d)] at RM NM LM hc7
    clear he9 e9 hj9 rm7 nl7 y9
    have hb8 : b9 < w2.heap.size := hb9
    have S3 := Lib.hid S2.out.drew1
    have BB := Lib.hid ((Below.refl w2.heap.size w2).drew)
    clear S2
    generalize hxx : mdD d n = row at hc7 RES RM NM LM
    have CE := Lib.hid (fun (W : World) (h : Wr [] w2.drew W) => show Hid (Wr [] w2.drew W) ∧ W.cell? ⟨g, 2, none⟩ = some (.slice (some ⟨b9, 0, none⟩) d.md.length a3) ∧ W.cell? ⟨b9, n, none⟩ = some (.slice A7 row.length c7) from ⟨Lib.hid h, (wr_cell h (p := ⟨g, 2, none⟩) hle (by simp)).trans (by exact by simpa using e2), (wr_cell h (p := ⟨b9, n, none⟩) (by show b9 < _; simpa using hb8) (by simp)).trans (by exact by simpa using hc7)⟩)
    have INIT := Lib.hid (CE.out _ (Wr.refl _ _))
    have KW := Lib.hid (fun (W2 W : World) (hb : Wr [] W W2) (h : Hid (Wr [] w2.drew W) ∧ W.cell? ⟨g, 2, none⟩ = some (.slice (some ⟨b9, 0, none⟩) d.md.length a3) ∧ W.cell? ⟨b9, n, none⟩ = some (.slice A7 row.length c7)) => CE.out W2 (h.1.out.trans hb))
    clear e0 e1 e2 ef q0 q1 q2 qf hc7 hlq hle hb8 hb9
    refine wpAnyZ_start 16 (fun W => Hid (Wr [] w2.drew W) ∧ W.cell? ⟨g, 2, none⟩ = some (.slice (some ⟨b9, 0, none⟩) d.md.length a3) ∧ W.cell? ⟨b9, n, none⟩ = some (.slice A7 row.length c7)) (by kernel_rfl) INIT.out (fun hHeld => ?_)
    clear CE INIT
    generalize hwd : w2.drew = wd at S3 KW hHeld BB ⊢
    clear hwd
    refine wpAnyZ_take (i := 0) (v := ?_) rfl (by kernel_rfl) (by kernel_rfl) (by kernel_rfl) (fun _ _ _ h => h) (Or.inl ⟨by rfl, ?_⟩) (by assumption) ?_
    rotate_left
    · (intro W hSw; (try dsimp only at hSw); go_simp <;> with_reducible rfl)
    (try simp only [Act.put])
    refine wpAnyZ_take (i := 1) (v := ?_) rfl (by kernel_rfl) (by kernel_rfl) (by kernel_rfl) (fun _ _ _ h => h) (Or.inl ⟨by rfl, ?_⟩) (by assumption) ?_
    rotate_left
    · (intro W hSw; (try dsimp only at hSw); go_simp <;> with_reducible rfl)
    (try simp only [Act.put])
    refine wpAnyZ_take (i := 2) (v := ?_) rfl (by kernel_rfl) (by kernel_rfl) (by kernel_rfl) (fun _ _ _ h => h) (Or.inl ⟨by rfl, ?_⟩) (by assumption) ?_
    rotate_left
    · (intro W hSw; (try dsimp only at hSw); go_simp <;> with_reducible rfl)
    (try simp only [Act.put])
    refine wpAnyZ_take (i := 3) (v := ?_) rfl (by kernel_rfl) (by kernel_rfl) (by kernel_rfl) (fun _ _ _ h => h) (Or.inl ⟨by rfl, ?_⟩) (by assumption) ?_
    rotate_left
    · (intro W hSw; (try dsimp only at hSw); go_simp <;> with_reducible rfl)
    (try simp only [Act.put])
    refine wpAnyZ_take (i := 4) (v := ?_) rfl (by kernel_rfl) (by kernel_rfl) (by kernel_rfl) (fun _ _ _ h => h) (Or.inl ⟨by rfl, ?_⟩) (by assumption) ?_
    rotate_left
    · (intro W hSw; (try dsimp only at hSw); go_simp <;> with_reducible rfl)
    (try simp only [Act.put])
    refine wpAnyZ_take (i := 5) (v := ?_) rfl (by kernel_rfl) (by kernel_rfl) (by kernel_rfl) (fun _ _ _ h => h) (Or.inl ⟨by rfl, ?_⟩) (by assumption) ?_
    rotate_left
    · (intro W hSw; (try dsimp only at hSw); go_simp <;> with_reducible rfl)
    (try simp only [Act.put])
    refine wpAnyZ_take (i := 6) (v := ?_) rfl (by kernel_rfl) (by kernel_rfl) (by kernel_rfl) (fun _ _ _ h => h) (Or.inl ⟨by rfl, ?_⟩) (by assumption) ?_
    rotate_left
    · (intro W hSw; (try dsimp only at hSw); go_simp <;> with_reducible rfl)
    (try simp only [Act.put])
    refine wpAnyZ_take (i := 7) (v := ?_) rfl (by kernel_rfl) (by kernel_rfl) (by kernel_rfl) (fun _ _ _ h => h) (Or.inl ⟨by rfl, ?_⟩) (by assumption) ?_
    rotate_left
    · (intro W hSw; (try dsimp only at hSw); go_simp <;> with_reducible rfl)
    (try simp only [Act.put])
    refine wpAnyZ_take (i := 8) (v := ?_) rfl (by kernel_rfl) (by kernel_rfl) (by kernel_rfl) (fun _ _ _ h => h) (Or.inl ⟨by rfl, ?_⟩) (by assumption) ?_
    rotate_left
    · (intro W hSw; (try dsimp only at hSw); go_simp <;> with_reducible rfl)
    (try simp only [Act.put])
    refine wpAnyZ_take (i := 9) (v := ?_) rfl (by kernel_rfl) (by kernel_rfl) (by kernel_rfl) (fun _ _ _ h => h) (Or.inl ⟨by rfl, ?_⟩) (by assumption) ?_
    rotate_left
    · (intro W hSw; (try dsimp only at hSw); go_simp <;> with_reducible rfl)
    (try simp only [Act.put])
    refine wpAnyZ_take (i := 10) (v := ?_) rfl (by kernel_rfl) (by kernel_rfl) (by kernel_rfl) (fun _ _ _ h => h) (Or.inl ⟨by rfl, ?_⟩) (by assumption) ?_
    rotate_left
    · (intro W hSw; (try dsimp only at hSw); go_simp <;> with_reducible rfl)
    (try simp only [Act.put])
    refine wpAnyZ_take (i := 11) (v := ?_) rfl (by kernel_rfl) (by kernel_rfl) (by kernel_rfl) (fun _ _ _ h => h) (Or.inl ⟨by rfl, ?_⟩) (by assumption) ?_
    rotate_left
    · (intro W hSw; (try dsimp only at hSw); go_simp <;> with_reducible rfl)
    (try simp only [Act.put])
    refine wpAnyZ_take (i := 12) (v := ?_) rfl (by kernel_rfl) (by kernel_rfl) (by kernel_rfl) (fun _ _ _ h => h) (Or.inl ⟨by rfl, ?_⟩) (by assumption) ?_
    rotate_left
    · (intro W hSw; (try dsimp only at hSw); go_simp <;> with_reducible rfl)
    (try simp only [Act.put])
    have SA := Lib.hid (S3.out.go ((Below.refl _ _).alloc (Nat.le_refl _) (.cells #[.int .i64 (brT va)] 3)))
    have BA := Lib.hid (BB.out.alloc (BB.out.size) (.cells #[.int .i64 (brT va)] 3))
    have RN := Lib.hid (rd_new wd (brT va) 3)
    refine wpAnyZ_one (i := 13) (by kernel_rfl) rfl (fun K hK => ?_)
    go_simp
    refine hK.out _ _ (KW.out _ _ (Wr.of_below ((Below.refl _ _).alloc (Nat.le_refl _) _) (Nat.le_refl _)) hHeld) (fun hHeld13 => ?_)
    clear hK K
    refine wpAnyZ_one (i := 14) (by kernel_rfl) rfl (fun K hK => ?_)
    go_simp
    go_at_call 83
    refine (implInter_any row [brT va] _ _ _ (by exact RM.out.below BA.out (Nat.le_refl _)) NM.out (by exact RN.out) (nilOk_some _ _ _) (by have := LM.out; omega) (by simp)).mono ?_
    rintro e w14 ⟨v7, rfl, o7, bb7⟩
    (first | done | go_wp2_with fail)
    refine hK.out _ _ (KW.out _ _ (Wr.of_below bb7 (Nat.le_refl _)) hHeld13) (fun hHeld14 => ?_)
    clear hK K
    have S4 := Lib.hid (SA.out.new (flat_own (by simpa using o7)).1 (flat_own o7).2 bb7)
    clear RN
    obtain ⟨A8, c8, rfl⟩ : ∃ A c, v7 = .slice A (interB row [brT va]).length c := slice_ints (S4.out.rd 0 rfl)
    have S5 := Lib.hid (show Sn W0 w14 (⟨trI (interB row [brT va]), .slice A8 (interB row [brT va]).length c8, (Value.slice A8 (interB row [brT va]).length c8).ownBlock.toList⟩ :: ⟨trSu d.md, .slice (some ⟨b9, 0, none⟩) d.md.length a3, F3⟩ :: _) from (S4.out.pick 4 rfl).pick 1 rfl)
    simp only [List.eraseIdx_cons_succ, List.eraseIdx_cons_zero] at S5
    obtain ⟨F3', h6⟩ := S5.out.putR rfl n3
    have S6 := Lib.hid h6
    obtain ⟨vsr, Gr, owr, olr, _⟩ := rowsD_raw (S5.out.own 1 rfl).1
    have hcr := owr.frozenAt n
    have hcc := owr.cellAt n (by have := owr.1; omega)
    obtain ⟨xr, hxr⟩ : ∃ x, vsr[n]? = some x := ⟨vsr[n]'(by have := owr.1; omega), List.getElem?_eq_getElem _⟩
    rw [hxr] at hcc
    clear S4 S5 h6 SA o7 bb7 owr olr hxr
    refine wpAnyZ_take (i := 15) (v := ?_) rfl (by kernel_rfl) (by kernel_rfl) (by kernel_rfl) (fun _ _ _ h => h) (Or.inl ⟨by rfl, ?_⟩) (by assumption) ?_
    rotate_left
    · (intro W hSw; (try dsimp only at hSw); go_simp <;> with_reducible rfl)
    (try simp only [Act.put])
    refine wpAnyZ_last (by kernel_rfl) (by kernel_rfl) rfl (fun K hK => ?_)
    go_simp
    refine hK.out _ _ ?_
    clear hK K
    go_wp2
    go_end0
    refine ⟨rfl, F3', ?_⟩
    rw [RES.out]
    exact ((S6.out.drop 1).pick 2 rfl).pick 2 rfl
  by_cases h4 : ki = 4
  · subst h4
    rw [rest_4] at RES
    go_wp2_with fail
    obtain ⟨_, A9, c9, he9, y9⟩ := own_rowsI (S2.out.own 3 rfl).1
    obtain ⟨b9, o9, e9, hb9, hj9⟩ := y9 n n3
    have ee9 : b9 = b3 ∧ o9 = 0 := by injection he9 with h1 h2 h3; rw [← h1] at e9; injection e9 with e9; injection e9 with x y; exact ⟨x.symm, y.symm⟩
    obtain ⟨rfl, rfl⟩ := ee9
    obtain ⟨A7, c7, hc7, rm7, nl7⟩ := hj9 n n3
    rw [Nat.zero_add] at hc7
    have RM := Lib.hid (rd_flat rm7)
    have NM := Lib.hid nl7
    have LM := Lib.hid (ZM.out n n3)
    rw [← mdD_at (d := d)] at RM NM LM hc7
    clear he9 e9 hj9 rm7 nl7 y9
    have hb8 : b9 < w2.heap.size := hb9
    have S3 := Lib.hid S2.out.drew1
    have BB := Lib.hid ((Below.refl w2.heap.size w2).drew)
    clear S2
    generalize hxx : mdD d n = row at hc7 RES RM NM LM
    have CE := Lib.hid (fun (W : World) (h : Wr [] w2.drew W) => show Hid (Wr [] w2.drew W) ∧ W.cell? ⟨g, 2, none⟩ = some (.slice (some ⟨b9, 0, none⟩) d.md.length a3) ∧ W.cell? ⟨b9, n, none⟩ = some (.slice A7 row.length c7) from ⟨Lib.hid h, (wr_cell h (p := ⟨g, 2, none⟩) hle (by simp)).trans (by exact by simpa using e2), (wr_cell h (p := ⟨b9, n, none⟩) (by show b9 < _; simpa using hb8) (by simp)).trans (by exact by simpa using hc7)⟩)
    have INIT := Lib.hid (CE.out _ (Wr.refl _ _))
    have KW := Lib.hid (fun (W2 W : World) (hb : Wr [] W W2) (h : Hid (Wr [] w2.drew W) ∧ W.cell? ⟨g, 2, none⟩ = some (.slice (some ⟨b9, 0, none⟩) d.md.length a3) ∧ W.cell? ⟨b9, n, none⟩ = some (.slice A7 row.length c7)) => CE.out W2 (h.1.out.trans hb))
    clear e0 e1 e2 ef q0 q1 q2 qf hc7 hlq hle hb8 hb9
    refine wpAnyZ_start 15 (fun W => Hid (Wr [] w2.drew W) ∧ W.cell? ⟨g, 2, none⟩ = some (.slice (some ⟨b9, 0, none⟩) d.md.length a3) ∧ W.cell? ⟨b9, n, none⟩ = some (.slice A7 row.length c7)) (by kernel_rfl) INIT.out (fun hHeld => ?_)
    clear CE INIT
    generalize hwd : w2.drew = wd at S3 KW hHeld BB ⊢
    clear hwd
    refine wpAnyZ_take (i := 0) (v := ?_) rfl (by kernel_rfl) (by kernel_rfl) (by kernel_rfl) (fun _ _ _ h => h) (Or.inl ⟨by rfl, ?_⟩) (by assumption) ?_
    rotate_left
    · (intro W hSw; (try dsimp only at hSw); go_simp <;> with_reducible rfl)
    (try simp only [Act.put])
    refine wpAnyZ_take (i := 1) (v := ?_) rfl (by kernel_rfl) (by kernel_rfl) (by kernel_rfl) (fun _ _ _ h => h) (Or.inl ⟨by rfl, ?_⟩) (by assumption) ?_
    rotate_left
    · (intro W hSw; (try dsimp only at hSw); go_simp <;> with_reducible rfl)
    (try simp only [Act.put])
    refine wpAnyZ_take (i := 2) (v := ?_) rfl (by kernel_rfl) (by kernel_rfl) (by kernel_rfl) (fun _ _ _ h => h) (Or.inl ⟨by rfl, ?_⟩) (by assumption) ?_
    rotate_left
    · (intro W hSw; (try dsimp only at hSw); go_simp <;> with_reducible rfl)
    (try simp only [Act.put])
    refine wpAnyZ_take (i := 3) (v := ?_) rfl (by kernel_rfl) (by kernel_rfl) (by kernel_rfl) (fun _ _ _ h => h) (Or.inl ⟨by rfl, ?_⟩) (by assumption) ?_
    rotate_left
    · (intro W hSw; (try dsimp only at hSw); go_simp <;> with_reducible rfl)
    (try simp only [Act.put])
    refine wpAnyZ_take (i := 4) (v := ?_) rfl (by kernel_rfl) (by kernel_rfl) (by kernel_rfl) (fun _ _ _ h => h) (Or.inl ⟨by rfl, ?_⟩) (by assumption) ?_
    rotate_left
    · (intro W hSw; (try dsimp only at hSw); go_simp <;> with_reducible rfl)
    (try simp only [Act.put])
    refine wpAnyZ_take (i := 5) (v := ?_) rfl (by kernel_rfl) (by kernel_rfl) (by kernel_rfl) (fun _ _ _ h => h) (Or.inl ⟨by rfl, ?_⟩) (by assumption) ?_
    rotate_left
    · (intro W hSw; (try dsimp only at hSw); go_simp <;> with_reducible rfl)
    (try simp only [Act.put])
    refine wpAnyZ_take (i := 6) (v := ?_) rfl (by kernel_rfl) (by kernel_rfl) (by kernel_rfl) (fun _ _ _ h => h) (Or.inl ⟨by rfl, ?_⟩) (by assumption) ?_
    rotate_left
    · (intro W hSw; (try dsimp only at hSw); go_simp <;> with_reducible rfl)
    (try simp only [Act.put])
    refine wpAnyZ_take (i := 7) (v := ?_) rfl (by kernel_rfl) (by kernel_rfl) (by kernel_rfl) (fun _ _ _ h => h) (Or.inl ⟨by rfl, ?_⟩) (by assumption) ?_
    rotate_left
    · (intro W hSw; (try dsimp only at hSw); go_simp <;> with_reducible rfl)
    (try simp only [Act.put])
    refine wpAnyZ_take (i := 8) (v := ?_) rfl (by kernel_rfl) (by kernel_rfl) (by kernel_rfl) (fun _ _ _ h => h) (Or.inl ⟨by rfl, ?_⟩) (by assumption) ?_
    rotate_left
    · (intro W hSw; (try dsimp only at hSw); go_simp <;> with_reducible rfl)
    (try simp only [Act.put])
    refine wpAnyZ_take (i := 9) (v := ?_) rfl (by kernel_rfl) (by kernel_rfl) (by kernel_rfl) (fun _ _ _ h => h) (Or.inl ⟨by rfl, ?_⟩) (by assumption) ?_
    rotate_left
    · (intro W hSw; (try dsimp only at hSw); go_simp <;> with_reducible rfl)
    (try simp only [Act.put])
    refine wpAnyZ_take (i := 10) (v := ?_) rfl (by kernel_rfl) (by kernel_rfl) (by kernel_rfl) (fun _ _ _ h => h) (Or.inl ⟨by rfl, ?_⟩) (by assumption) ?_
    rotate_left
    · (intro W hSw; (try dsimp only at hSw); go_simp <;> with_reducible rfl)
    (try simp only [Act.put])
    refine wpAnyZ_take (i := 11) (v := ?_) rfl (by kernel_rfl) (by kernel_rfl) (by kernel_rfl) (fun _ _ _ h => h) (Or.inl ⟨by rfl, ?_⟩) (by assumption) ?_
    rotate_left
    · (intro W hSw; (try dsimp only at hSw); go_simp <;> with_reducible rfl)
    (try simp only [Act.put])
    refine wpAnyZ_take (i := 12) (v := ?_) rfl (by kernel_rfl) (by kernel_rfl) (by kernel_rfl) (fun _ _ _ h => h) (Or.inl ⟨by rfl, ?_⟩) (by assumption) ?_
    rotate_left
    · (intro W hSw; (try dsimp only at hSw); go_simp <;> with_reducible rfl)
    (try simp only [Act.put])
    have BA := BB
    refine wpAnyZ_one (i := 13) (by kernel_rfl) rfl (fun K hK => ?_)
    go_simp
    go_at_call 84
    refine (implRemove_any row (brT va) _ _ (by exact RM.out.below BB.out (Nat.le_refl _)) (by have := LM.out; omega)).mono ?_
    rintro e w13 ⟨v7, rfl, o7, bb7⟩
    (first | done | go_wp2_with fail)
    refine hK.out _ _ (KW.out _ _ (Wr.of_below bb7 (Nat.le_refl _)) hHeld) (fun hHeld13 => ?_)
    clear hK K
    have S4 := Lib.hid (S3.out.new (flat_own (by simpa using o7)).1 (flat_own o7).2 bb7)
    obtain ⟨A8, c8, rfl⟩ : ∃ A c, v7 = .slice A (pickB (neB (brT va)) row).length c := slice_ints (S4.out.rd 0 rfl)
    have S5 := Lib.hid (show Sn W0 w13 (⟨trI (pickB (neB (brT va)) row), .slice A8 (pickB (neB (brT va)) row).length c8, (Value.slice A8 (pickB (neB (brT va)) row).length c8).ownBlock.toList⟩ :: ⟨trSu d.md, .slice (some ⟨b9, 0, none⟩) d.md.length a3, F3⟩ :: _) from (S4.out.pick 4 rfl).pick 1 rfl)
    simp only [List.eraseIdx_cons_succ, List.eraseIdx_cons_zero] at S5
    obtain ⟨F3', h6⟩ := S5.out.putR rfl n3
    have S6 := Lib.hid h6
    obtain ⟨vsr, Gr, owr, olr, _⟩ := rowsD_raw (S5.out.own 1 rfl).1
    have hcr := owr.frozenAt n
    have hcc := owr.cellAt n (by have := owr.1; omega)
    obtain ⟨xr, hxr⟩ : ∃ x, vsr[n]? = some x := ⟨vsr[n]'(by have := owr.1; omega), List.getElem?_eq_getElem _⟩
    rw [hxr] at hcc
    clear S4 S5 h6 o7 bb7 owr olr hxr
    refine wpAnyZ_take (i := 14) (v := ?_) rfl (by kernel_rfl) (by kernel_rfl) (by kernel_rfl) (fun _ _ _ h => h) (Or.inl ⟨by rfl, ?_⟩) (by assumption) ?_
    rotate_left
    · (intro W hSw; (try dsimp only at hSw); go_simp <;> with_reducible rfl)
    (try simp only [Act.put])
    refine wpAnyZ_last (by kernel_rfl) (by kernel_rfl) rfl (fun K hK => ?_)
    go_simp
    refine hK.out _ _ ?_
    clear hK K
    go_wp2
    go_end0
    refine ⟨rfl, F3', ?_⟩
    rw [RES.out]
    exact ((S6.out.drop 1).pick 2 rfl).pick 2 rfl
  rw [rest_o h1 h2 h3 h4] at RES
  go_wp2
  go_end0
  exact ⟨rfl, F3, by rw [RES.out]; exact S2.out.drop 0⟩
end Go.Proofs.YtgbpomakomddjabGreat
end

section
namespace Go.Proofs.YtgbpomakomddjabGreat
open Go.RowKit Go.Shelf
set_option linter.unusedVariables false

theorem su_set : ∀ {D : List (List Int)} {n : Nat} {r : List Int}, (h : n < D.length) → r.length ≤ D[n].length → (trSu (D.set n r)).sz ≤ (trSu D).sz
  | x :: D, 0, r, _, hr => by
    simp only [List.set_cons_zero, List.getElem_cons_zero] at hr ⊢
    rw [su_sz, su_sz]
    simp only [List.flatMap_cons, szL_app, List.length_cons]
    simp only [cellsI1, szL, trI_sz]
    omega
  | x :: D, n + 1, r, h, hr => by
    have h1 := su_set (D := D) (n := n) (r := r) (by simpa using h) (by simpa using hr)
    rw [List.set_cons_succ]
    rw [su_sz, su_sz] at h1 ⊢
    simp only [List.flatMap_cons, szL_app, List.length_cons]
    omega
theorem rest_sz (d : Dm) (l : Lt) : (trDm (restD d l)).sz ≤ (trDm d).sz := by
  unfold restD
  split
  next h =>
    obtain ⟨h0, h1, h2, h3⟩ := h
    have hn : l.ac.toNat < d.md.length := by omega
    unfold restA
    split
    · rw [dm_sz, dm_sz]; simp
    split
    · rw [dm_sz, dm_sz]; simp
    split
    · rw [dm_sz, dm_sz]
      have := su_set (r := interB (mdD d l.ac.toNat) [brT l.va]) hn (by rw [← mdD_at]; exact inter_len _ _)
      simp only
      omega
    split
    · rw [dm_sz, dm_sz]
      have := su_set (r := (mdD d l.ac.toNat).filter fun x => x != brT l.va) hn (by rw [← mdD_at]; exact List.length_filter_le _ _)
      simp only
      omega
    · exact Nat.le_refl _
  next h => exact Nat.le_refl _
theorem max_b (x y : Int) (w : World) : Calls Tryz.prog 116 #[.int .i64 x, .int .i64 y] w fun e w' => e = .returned (.int .i64 (max x y)) ∧ Below w.heap.size w w' := (max_any x y w).mono fun e w' h => ⟨h.1, h.2 ▸ Below.refl _ _⟩
theorem min_b (x y : Int) (w : World) : Calls Tryz.prog 117 #[.int .i64 x, .int .i64 y] w fun e w' => e = .returned (.int .i64 (min x y)) ∧ Below w.heap.size w w' := (min_any x y w).mono fun e w' h => ⟨h.1, h.2 ▸ Below.refl _ _⟩
set_option maxRecDepth 100000 in
set_option maxHeartbeats 8000000 in
theorem specRestrict_any (d : Dm) (l : Lt) (v : Value) (w : World) {BB : Nat} {GG : List Nat} (ho : (trDm d).own w BB v GG) (hsz : (trDm d).sz ≤ 1048576) :
    Calls Tryz.prog 77 #[v, ltV l] w fun e w' => ∃ u F, e = .returned u ∧ (trDm (restD d l)).own w' w.heap.size u F ∧ F.Nodup ∧ Below w.heap.size w w' := by
  obtain ⟨ki, ac, va⟩ := l
  have HN := Lib.hid (fun h => @rest_no d ⟨ki, ac, va⟩ h)
  have HY := Lib.hid (fun n h e => @rest_yes d ⟨ki, ac, va⟩ n h e)
  generalize restD d ⟨ki, ac, va⟩ = res at HN HY ⊢
  have ZM := Lib.hid (fun j (h : j < d.md.length) => Nat.le_trans (su_at h) (by rw [dm_sz] at hsz; omega : (trSu d.md).sz ≤ 1048576))
  have HO := Lib.hid ho
  have hd := Tr.own_rd _ _ _ ho
  clear ho
  have HD := Lib.hid hd
  obtain ⟨D1, t1, D2, t2, D3, t3, rfl, m1, m2, m3⟩ := rdDomain_t hd
  obtain ⟨hd1, B5, d5, he, y1⟩ := rdI (rd_flat m1)
  injection he with he _ he2
  subst he he2
  have Y1 := Lib.hid y1
  obtain ⟨hd2, B6, d6, he, y2⟩ := rdI (rd_flat m2)
  injection he with he _ he2
  subst he he2
  have Y2 := Lib.hid y2
  obtain ⟨hd3, B7, d7, he, y3⟩ := rdIntSS_t m3
  injection he with he _ he2
  subst he he2
  have Y3 := Lib.hid y3
  have M1 := Lib.hid (rd_flat m1)
  have M2 := Lib.hid (rd_flat m2)
  clear hd m1 m2 m3 y1 y2 y3
  unfold maxLen at hd1 hd2
  have S0 := Lib.hid ((((Sn.start w).box 45 [.slice D1 d.mn.length t1, .slice D2 d.mx.length t2, .slice D3 d.md.length t3]).box 56 [.int .i64 ki, .int .i64 ac, .int .i64 va]).box 45 [.slice none 0 0, .slice none 0 0, .slice none 0 0])
  simp only [World.size_alloc] at S0
  unfold ltV
  go_enter Tryz.func77, Tryz.ntmps77
  go_wp2_with fail
  refine (specCopyD_any d _ _ (by exact Tr.own_below HO.out S0.out.1 (Nat.le_refl _)) hsz).mono ?_
  rintro e w1 ⟨u1, G1, rfl, o1, h1, b1⟩
  obtain ⟨X0, x0, X1, x1, X2, x2, rfl, _⟩ := rdDomain_t (Tr.own_rd _ _ _ o1)
  obtain ⟨F1, F2, F3, hS⟩ := (S0.out.new o1 h1 b1).undom
  have S1 := Lib.hid (hS.box 45 [.slice X0 d.mn.length x0, .slice X1 d.mx.length x1, .slice X2 d.md.length x2])
  clear S0 o1 h1 b1 hS
  obtain ⟨e0, e1, e2, ef⟩ := (S1.out.bk 6 rfl).c3
  obtain ⟨q0, q1, q2, qf⟩ := (S1.out.bk 5 rfl).c3
  go_wp2_with fail
  clear e0 e1 e2 ef
  clear q0 q1 q2 qf
  refine (l12There_any d ac _ _ (by exact S1.out.old HD.out)).mono ?_
  rintro e w2 ⟨rfl, b⟩
  have S2 := Lib.hid (S1.out.go b)
  clear S1 b
  by_cases ht : thereD d ac
  rotate_left
  · rw [decide_eq_false ht]
    have RES := Lib.hid (HN.out ht)
    obtain ⟨y0, y1, y2, yf⟩ := (S2.out.bk 0 rfl).c3
    obtain ⟨p0, p1, p2, pf⟩ := (S2.out.bk 4 rfl).c3
    have hgr : w1.heap.size ≠ w.heap.size + 1 + 1 := fun e => S2.out.2.apart (i := 0) (j := 4) rfl rfl (by omega) w1.heap.size (by simp [boxI]) (by simp [boxI, e])
    go_wp2
    have SZ := ((S2.out.boxSet 4 rfl 0 (.slice X0 d.mn.length x0)).boxSet 4 rfl 1 (.slice X1 d.mx.length x1)).boxSet 4 rfl 2 (.slice X2 d.md.length x2)
    have P := SZ.nil0
    have P := (P.pick 4 rfl).pack
    have P := (P.pick 3 rfl).pack
    have P := (P.pick 2 rfl).pack
    have PO := (P.own 0 rfl).1
    have PN := (P.own 0 rfl).2
    refine bodyPost_ret (v := .agg #[.slice X0 d.mn.length x0, .slice X1 d.mx.length x1, .slice X2 d.md.length x2]) (by simp [results, Tryz.results77, go_sem, p0, p1, p2]) rfl (by first | exact ⟨_, _, rfl, by rw [RES.out]; exact PO, PN, SZ.1⟩ | exact ⟨_, by rw [RES.out]; exact PO, PN, SZ.1⟩ | exact ⟨_, rfl, _, by rw [RES.out]; exact PO, PN, SZ.1⟩)
  rw [decide_eq_true ht]
  obtain ⟨n, rfl⟩ : ∃ n : Nat, ac = (n : Int) := ⟨ac.toNat, by have := ht.1; omega⟩
  have RES := Lib.hid (HY.out n ht rfl)
  obtain ⟨k0, k1, k2, k3⟩ := ht
  have n1 : n < d.mn.length := by omega
  have n2 : n < d.mx.length := by omega
  have n3 : n < d.md.length := by omega
  clear HN HY
  obtain ⟨q0, q1, q2, qf⟩ := (S2.out.bk 5 rfl).c3
  go_wp2_with fail
  clear q0 q1 q2 qf
  refine (brought_any va _).mono ?_
  rintro e w9 ⟨rfl, rfl⟩
  obtain ⟨b1, rfl, hac1⟩ := (S2.out.pick 1 rfl).formI (by omega)
  obtain ⟨b2, rfl, hac2⟩ := (S2.out.pick 2 rfl).formI (by omega)
  obtain ⟨b3, rfl, hac3, hlt3⟩ := (S2.out.pick 3 rfl).formR (by omega)
  obtain ⟨d1, s1, rfl, hd5, hc5⟩ := Y1.out n n1
  obtain ⟨d2, s2, rfl, hd6, hc6⟩ := Y2.out n n2
  obtain ⟨d3, s3, rfl, hd7, hc7⟩ := Y3.out n n3
  obtain ⟨A7, c7, hx7, rm7⟩ := hc7 n n3
  have z1 := (S2.out.1.cell (p := ⟨d1, s1 + n, none⟩) hd5).trans (hc5 n n1)
  have z2 := (S2.out.1.cell (p := ⟨d2, s2 + n, none⟩) hd6).trans (hc6 n n2)
  have z3 := (S2.out.1.cell (p := ⟨d3, s3 + n, none⟩) hd7).trans hx7
  rw [← mnD_at] at z1
  rw [← mxD_at] at z2
  have RM := Lib.hid (rd_flat rm7)
  have LM := Lib.hid (ZM.out n n3)
  rw [← mdD_at (d := d)] at RM LM z3
  clear hc5 hc6 hc7 hx7 rm7
  have hv1 := Nat.lt_of_lt_of_le hd5 S2.out.1.size
  have hv2 := Nat.lt_of_lt_of_le hd6 S2.out.1.size
  have hv3 := Nat.lt_of_lt_of_le hd7 S2.out.1.size
  obtain ⟨y0, y1, y2, yf⟩ := (S2.out.bk 0 rfl).c3
  obtain ⟨q0, q1, q2, qf⟩ := (S2.out.bk 5 rfl).c3
  obtain ⟨e0, e1, e2, ef⟩ := (S2.out.bk 6 rfl).c3
  have hly := (S2.out.bk 0 rfl).lt
  have hlq := (S2.out.bk 5 rfl).lt
  have hle := (S2.out.bk 6 rfl).lt
  by_cases h1 : ki = 1
  · subst h1
    rw [rest_1] at RES
    go_wp2_with fail
    have S3 := Lib.hid S2.out.drew1
    clear S2
    generalize hxx : mnD d n = xx at z1 RES
    have CE := Lib.hid (fun (W : World) (h : Wr [] w2.drew W) => show Hid (Wr [] w2.drew W) ∧ W.cell? ⟨w1.heap.size, 0, none⟩ = some (.slice (some ⟨b1, 0, none⟩) d.mn.length x0) ∧ W.cell? ⟨w.heap.size + 1, 1, none⟩ = some (.int .i64 (n : Int)) ∧ W.cell? ⟨w.heap.size, 0, none⟩ = some (.slice (some ⟨d1, s1, none⟩) d.mn.length t1) ∧ W.cell? ⟨d1, s1 + n, none⟩ = some (.int .i64 xx) from ⟨Lib.hid h, (wr_cell h (p := ⟨w1.heap.size, 0, none⟩) hly (by simp)).trans (by exact by simpa using y0), (wr_cell h (p := ⟨w.heap.size + 1, 1, none⟩) hlq (by simp)).trans (by exact by simpa using q1), (wr_cell h (p := ⟨w.heap.size, 0, none⟩) hle (by simp)).trans (by exact by simpa using e0), (wr_cell h (p := ⟨d1, s1 + n, none⟩) (by show d1 < _; simpa using hv1) (by simp)).trans (by exact by simpa using z1)⟩)
    have INIT := Lib.hid (CE.out _ (Wr.refl _ _))
    have KW := Lib.hid (fun (W2 W : World) (hb : Wr [] W W2) (h : Hid (Wr [] w2.drew W) ∧ W.cell? ⟨w1.heap.size, 0, none⟩ = some (.slice (some ⟨b1, 0, none⟩) d.mn.length x0) ∧ W.cell? ⟨w.heap.size + 1, 1, none⟩ = some (.int .i64 (n : Int)) ∧ W.cell? ⟨w.heap.size, 0, none⟩ = some (.slice (some ⟨d1, s1, none⟩) d.mn.length t1) ∧ W.cell? ⟨d1, s1 + n, none⟩ = some (.int .i64 xx)) => CE.out W2 (h.1.out.trans hb))
    clear y0 y1 y2 yf q0 q1 q2 qf e0 e1 e2 ef z1 z2 z3 hv1 hv2 hv3 hly hlq hle
    refine wpAnyZ_start 13 (fun W => Hid (Wr [] w2.drew W) ∧ W.cell? ⟨w1.heap.size, 0, none⟩ = some (.slice (some ⟨b1, 0, none⟩) d.mn.length x0) ∧ W.cell? ⟨w.heap.size + 1, 1, none⟩ = some (.int .i64 (n : Int)) ∧ W.cell? ⟨w.heap.size, 0, none⟩ = some (.slice (some ⟨d1, s1, none⟩) d.mn.length t1) ∧ W.cell? ⟨d1, s1 + n, none⟩ = some (.int .i64 xx)) (by kernel_rfl) INIT.out (fun hHeld => ?_)
    clear CE INIT
    refine wpAnyZ_take (i := 0) (v := ?_) rfl (by kernel_rfl) (by kernel_rfl) (by kernel_rfl) (fun _ _ _ h => h) (Or.inl ⟨by rfl, ?_⟩) (by assumption) ?_
    rotate_left
    · (intro W hSw; (try dsimp only at hSw); go_simp <;> with_reducible rfl)
    (try simp only [Act.put])
    refine wpAnyZ_take (i := 1) (v := ?_) rfl (by kernel_rfl) (by kernel_rfl) (by kernel_rfl) (fun _ _ _ h => h) (Or.inl ⟨by rfl, ?_⟩) (by assumption) ?_
    rotate_left
    · (intro W hSw; (try dsimp only at hSw); go_simp <;> with_reducible rfl)
    (try simp only [Act.put])
    refine wpAnyZ_take (i := 2) (v := ?_) rfl (by kernel_rfl) (by kernel_rfl) (by kernel_rfl) (fun _ _ _ h => h) (Or.inl ⟨by rfl, ?_⟩) (by assumption) ?_
    rotate_left
    · (intro W hSw; (try dsimp only at hSw); go_simp <;> with_reducible rfl)
    (try simp only [Act.put])
    refine wpAnyZ_take (i := 3) (v := ?_) rfl (by kernel_rfl) (by kernel_rfl) (by kernel_rfl) (fun _ _ _ h => h) (Or.inl ⟨by rfl, ?_⟩) (by assumption) ?_
    rotate_left
    · (intro W hSw; (try dsimp only at hSw); go_simp <;> with_reducible rfl)
    (try simp only [Act.put])
    refine wpAnyZ_take (i := 4) (v := ?_) rfl (by kernel_rfl) (by kernel_rfl) (by kernel_rfl) (fun _ _ _ h => h) (Or.inl ⟨by rfl, ?_⟩) (by assumption) ?_
    rotate_left
    · (intro W hSw; (try dsimp only at hSw); go_simp <;> with_reducible rfl)
    (try simp only [Act.put])
    refine wpAnyZ_take (i := 5) (v := ?_) rfl (by kernel_rfl) (by kernel_rfl) (by kernel_rfl) (fun _ _ _ h => h) (Or.inl ⟨by rfl, ?_⟩) (by assumption) ?_
    rotate_left
    · (intro W hSw; (try dsimp only at hSw); go_simp <;> with_reducible rfl)
    (try simp only [Act.put])
    refine wpAnyZ_take (i := 6) (v := ?_) rfl (by kernel_rfl) (by kernel_rfl) (by kernel_rfl) (fun _ _ _ h => h) (Or.inl ⟨by rfl, ?_⟩) (by assumption) ?_
    rotate_left
    · (intro W hSw; (try dsimp only at hSw); go_simp <;> with_reducible rfl)
    (try simp only [Act.put])
    refine wpAnyZ_take (i := 7) (v := ?_) rfl (by kernel_rfl) (by kernel_rfl) (by kernel_rfl) (fun _ _ _ h => h) (Or.inl ⟨by rfl, ?_⟩) (by assumption) ?_
    rotate_left
    · (intro W hSw; (try dsimp only at hSw); go_simp <;> with_reducible rfl)
    (try simp only [Act.put])
    refine wpAnyZ_take (i := 8) (v := ?_) rfl (by kernel_rfl) (by kernel_rfl) (by kernel_rfl) (fun _ _ _ h => h) (Or.inl ⟨by rfl, ?_⟩) (by assumption) ?_
    rotate_left
    · (intro W hSw; (try dsimp only at hSw); go_simp <;> with_reducible rfl)
    (try simp only [Act.put])
    refine wpAnyZ_take (i := 9) (v := ?_) rfl (by kernel_rfl) (by kernel_rfl) (by kernel_rfl) (fun _ _ _ h => h) (Or.inl ⟨by rfl, ?_⟩) (by assumption) ?_
    rotate_left
    · (intro W hSw; (try dsimp only at hSw); go_simp <;> with_reducible rfl)
    (try simp only [Act.put])
    refine wpAnyZ_take (i := 10) (v := ?_) rfl (by kernel_rfl) (by kernel_rfl) (by kernel_rfl) (fun _ _ _ h => h) (Or.inl ⟨by rfl, ?_⟩) (by assumption) ?_
    rotate_left
    · (intro W hSw; (try dsimp only at hSw); go_simp <;> with_reducible rfl)
    (try simp only [Act.put])
    refine wpAnyZ_one (i := 11) (by kernel_rfl) rfl (fun K hK => ?_)
    go_simp
    go_at_call 116
    refine (max_b xx (brT va) _).mono ?_
    rintro e w11 ⟨rfl, bb7⟩
    (first | done | go_wp2_with fail)
    refine hK.out _ _ (KW.out _ _ (Wr.of_below bb7 (Nat.le_refl _)) hHeld) (fun hHeld11 => ?_)
    clear hK K
    have S4 := Lib.hid (S3.out.go bb7)
    clear S3 bb7
    have CF := (S4.out.pick 1 rfl).cellI n1
    have hcf := CF.1
    have hff := CF.2
    have S5 := Lib.hid ((S4.out.pick 1 rfl).setI n (max xx (brT va)))
    simp only [List.eraseIdx_cons_succ, List.eraseIdx_cons_zero] at S5
    refine wpAnyZ_take (i := 12) (v := ?_) rfl (by kernel_rfl) (by kernel_rfl) (by kernel_rfl) (fun _ _ _ h => h) (Or.inl ⟨by rfl, ?_⟩) (by assumption) ?_
    rotate_left
    · (intro W hSw; (try dsimp only at hSw); go_simp <;> with_reducible rfl)
    (try simp only [Act.put])
    refine wpAnyZ_last (by kernel_rfl) (by kernel_rfl) rfl (fun K hK => ?_)
    go_simp
    refine hK.out _ _ ?_
    clear hK K
    generalize World.setCell w11 _ _ = w9 at S5 ⊢
    clear S4 CF hcf hff KW
    obtain ⟨y0, y1, y2, yf⟩ := (S5.out.bk 1 rfl).c3
    obtain ⟨p0, p1, p2, pf⟩ := (S5.out.bk 4 rfl).c3
    have hgr : w1.heap.size ≠ w.heap.size + 1 + 1 := fun e => S5.out.2.apart (i := 1) (j := 4) rfl rfl (by omega) w1.heap.size (by simp [boxI]) (by simp [boxI, e])
    go_wp2
    have SZ := ((S5.out.boxSet 4 rfl 0 (.slice (some ⟨b1, 0, none⟩) d.mn.length x0)).boxSet 4 rfl 1 (.slice (some ⟨b2, 0, none⟩) d.mx.length x1)).boxSet 4 rfl 2 (.slice (some ⟨b3, 0, none⟩) d.md.length x2)
    have P := SZ.nil0
    have P := (P.pick 4 rfl).pack
    have P := (P.pick 3 rfl).pack
    have P := (P.pick 1 rfl).pack
    have PO := (P.own 0 rfl).1
    have PN := (P.own 0 rfl).2
    refine bodyPost_ret (v := .agg #[.slice (some ⟨b1, 0, none⟩) d.mn.length x0, .slice (some ⟨b2, 0, none⟩) d.mx.length x1, .slice (some ⟨b3, 0, none⟩) d.md.length x2]) (by simp [results, Tryz.results77, go_sem, p0, p1, p2]) rfl (by first | exact ⟨_, _, rfl, by rw [RES.out]; exact PO, PN, SZ.1⟩ | exact ⟨_, by rw [RES.out]; exact PO, PN, SZ.1⟩ | exact ⟨_, rfl, _, by rw [RES.out]; exact PO, PN, SZ.1⟩)
  by_cases h2 : ki = 2
  · subst h2
    rw [rest_2] at RES
    go_wp2_with fail
    have S3 := Lib.hid S2.out.drew1
    clear S2
    generalize hxx : mxD d n = xx at z2 RES
    have CE := Lib.hid (fun (W : World) (h : Wr [] w2.drew W) => show Hid (Wr [] w2.drew W) ∧ W.cell? ⟨w1.heap.size, 1, none⟩ = some (.slice (some ⟨b2, 0, none⟩) d.mx.length x1) ∧ W.cell? ⟨w.heap.size + 1, 1, none⟩ = some (.int .i64 (n : Int)) ∧ W.cell? ⟨w.heap.size, 1, none⟩ = some (.slice (some ⟨d2, s2, none⟩) d.mx.length t2) ∧ W.cell? ⟨d2, s2 + n, none⟩ = some (.int .i64 xx) from ⟨Lib.hid h, (wr_cell h (p := ⟨w1.heap.size, 1, none⟩) hly (by simp)).trans (by exact by simpa using y1), (wr_cell h (p := ⟨w.heap.size + 1, 1, none⟩) hlq (by simp)).trans (by exact by simpa using q1), (wr_cell h (p := ⟨w.heap.size, 1, none⟩) hle (by simp)).trans (by exact by simpa using e1), (wr_cell h (p := ⟨d2, s2 + n, none⟩) (by show d2 < _; simpa using hv2) (by simp)).trans (by exact by simpa using z2)⟩)
    have INIT := Lib.hid (CE.out _ (Wr.refl _ _))
    have KW := Lib.hid (fun (W2 W : World) (hb : Wr [] W W2) (h : Hid (Wr [] w2.drew W) ∧ W.cell? ⟨w1.heap.size, 1, none⟩ = some (.slice (some ⟨b2, 0, none⟩) d.mx.length x1) ∧ W.cell? ⟨w.heap.size + 1, 1, none⟩ = some (.int .i64 (n : Int)) ∧ W.cell? ⟨w.heap.size, 1, none⟩ = some (.slice (some ⟨d2, s2, none⟩) d.mx.length t2) ∧ W.cell? ⟨d2, s2 + n, none⟩ = some (.int .i64 xx)) => CE.out W2 (h.1.out.trans hb))
    clear y0 y1 y2 yf q0 q1 q2 qf e0 e1 e2 ef z1 z2 z3 hv1 hv2 hv3 hly hlq hle
    refine wpAnyZ_start 13 (fun W => Hid (Wr [] w2.drew W) ∧ W.cell? ⟨w1.heap.size, 1, none⟩ = some (.slice (some ⟨b2, 0, none⟩) d.mx.length x1) ∧ W.cell? ⟨w.heap.size + 1, 1, none⟩ = some (.int .i64 (n : Int)) ∧ W.cell? ⟨w.heap.size, 1, none⟩ = some (.slice (some ⟨d2, s2, none⟩) d.mx.length t2) ∧ W.cell? ⟨d2, s2 + n, none⟩ = some (.int .i64 xx)) (by kernel_rfl) INIT.out (fun hHeld => ?_)
    clear CE INIT
    refine wpAnyZ_take (i := 0) (v := ?_) rfl (by kernel_rfl) (by kernel_rfl) (by kernel_rfl) (fun _ _ _ h => h) (Or.inl ⟨by rfl, ?_⟩) (by assumption) ?_
    rotate_left
    · (intro W hSw; (try dsimp only at hSw); go_simp <;> with_reducible rfl)
    (try simp only [Act.put])
    refine wpAnyZ_take (i := 1) (v := ?_) rfl (by kernel_rfl) (by kernel_rfl) (by kernel_rfl) (fun _ _ _ h => h) (Or.inl ⟨by rfl, ?_⟩) (by assumption) ?_
    rotate_left
    · (intro W hSw; (try dsimp only at hSw); go_simp <;> with_reducible rfl)
    (try simp only [Act.put])
    refine wpAnyZ_take (i := 2) (v := ?_) rfl (by kernel_rfl) (by kernel_rfl) (by kernel_rfl) (fun _ _ _ h => h) (Or.inl ⟨by rfl, ?_⟩) (by assumption) ?_
    rotate_left
    · (intro W hSw; (try dsimp only at hSw); go_simp <;> with_reducible rfl)
    (try simp only [Act.put])
    refine wpAnyZ_take (i := 3) (v := ?_) rfl (by kernel_rfl) (by kernel_rfl) (by kernel_rfl) (fun _ _ _ h => h) (Or.inl ⟨by rfl, ?_⟩) (by assumption) ?_
    rotate_left
    · (intro W hSw; (try dsimp only at hSw); go_simp <;> with_reducible rfl)
    (try simp only [Act.put])
    refine wpAnyZ_take (i := 4) (v := ?_) rfl (by kernel_rfl) (by kernel_rfl) (by kernel_rfl) (fun _ _ _ h => h) (Or.inl ⟨by rfl, ?_⟩) (by assumption) ?_
    rotate_left
    · (intro W hSw; (try dsimp only at hSw); go_simp <;> with_reducible rfl)
    (try simp only [Act.put])
    refine wpAnyZ_take (i := 5) (v := ?_) rfl (by kernel_rfl) (by kernel_rfl) (by kernel_rfl) (fun _ _ _ h => h) (Or.inl ⟨by rfl, ?_⟩) (by assumption) ?_
    rotate_left
    · (intro W hSw; (try dsimp only at hSw); go_simp <;> with_reducible rfl)
    (try simp only [Act.put])
    refine wpAnyZ_take (i := 6) (v := ?_) rfl (by kernel_rfl) (by kernel_rfl) (by kernel_rfl) (fun _ _ _ h => h) (Or.inl ⟨by rfl, ?_⟩) (by assumption) ?_
    rotate_left
    · (intro W hSw; (try dsimp only at hSw); go_simp <;> with_reducible rfl)
    (try simp only [Act.put])
    refine wpAnyZ_take (i := 7) (v := ?_) rfl (by kernel_rfl) (by kernel_rfl) (by kernel_rfl) (fun _ _ _ h => h) (Or.inl ⟨by rfl, ?_⟩) (by assumption) ?_
    rotate_left
    · (intro W hSw; (try dsimp only at hSw); go_simp <;> with_reducible rfl)
    (try simp only [Act.put])
    refine wpAnyZ_take (i := 8) (v := ?_) rfl (by kernel_rfl) (by kernel_rfl) (by kernel_rfl) (fun _ _ _ h => h) (Or.inl ⟨by rfl, ?_⟩) (by assumption) ?_
    rotate_left
    · (intro W hSw; (try dsimp only at hSw); go_simp <;> with_reducible rfl)
    (try simp only [Act.put])
    refine wpAnyZ_take (i := 9) (v := ?_) rfl (by kernel_rfl) (by kernel_rfl) (by kernel_rfl) (fun _ _ _ h => h) (Or.inl ⟨by rfl, ?_⟩) (by assumption) ?_
    rotate_left
    · (intro W hSw; (try dsimp only at hSw); go_simp <;> with_reducible rfl)
    (try simp only [Act.put])
    refine wpAnyZ_take (i := 10) (v := ?_) rfl (by kernel_rfl) (by kernel_rfl) (by kernel_rfl) (fun _ _ _ h => h) (Or.inl ⟨by rfl, ?_⟩) (by assumption) ?_
    rotate_left
    · (intro W hSw; (try dsimp only at hSw); go_simp <;> with_reducible rfl)
    (try simp only [Act.put])
    refine wpAnyZ_one (i := 11) (by kernel_rfl) rfl (fun K hK => ?_)
    go_simp
    go_at_call 117
    refine (min_b xx (brT va) _).mono ?_
    rintro e w11 ⟨rfl, bb7⟩
    (first | done | go_wp2_with fail)
    refine hK.out _ _ (KW.out _ _ (Wr.of_below bb7 (Nat.le_refl _)) hHeld) (fun hHeld11 => ?_)
    clear hK K
    have S4 := Lib.hid (S3.out.go bb7)
    clear S3 bb7
    have CF := (S4.out.pick 2 rfl).cellI n2
    have hcf := CF.1
    have hff := CF.2
    have S5 := Lib.hid ((S4.out.pick 2 rfl).setI n (min xx (brT va)))
    simp only [List.eraseIdx_cons_succ, List.eraseIdx_cons_zero] at S5
    refine wpAnyZ_take (i := 12) (v := ?_) rfl (by kernel_rfl) (by kernel_rfl) (by kernel_rfl) (fun _ _ _ h => h) (Or.inl ⟨by rfl, ?_⟩) (by assumption) ?_
    rotate_left
    · (intro W hSw; (try dsimp only at hSw); go_simp <;> with_reducible rfl)
    (try simp only [Act.put])
    refine wpAnyZ_last (by kernel_rfl) (by kernel_rfl) rfl (fun K hK => ?_)
    go_simp
    refine hK.out _ _ ?_
    clear hK K
    generalize World.setCell w11 _ _ = w9 at S5 ⊢
    clear S4 CF hcf hff KW
    obtain ⟨y0, y1, y2, yf⟩ := (S5.out.bk 1 rfl).c3
    obtain ⟨p0, p1, p2, pf⟩ := (S5.out.bk 4 rfl).c3
    have hgr : w1.heap.size ≠ w.heap.size + 1 + 1 := fun e => S5.out.2.apart (i := 1) (j := 4) rfl rfl (by omega) w1.heap.size (by simp [boxI]) (by simp [boxI, e])
    go_wp2
    have SZ := ((S5.out.boxSet 4 rfl 0 (.slice (some ⟨b1, 0, none⟩) d.mn.length x0)).boxSet 4 rfl 1 (.slice (some ⟨b2, 0, none⟩) d.mx.length x1)).boxSet 4 rfl 2 (.slice (some ⟨b3, 0, none⟩) d.md.length x2)
    have P := SZ.nil0
    have P := (P.pick 4 rfl).pack
    have P := (P.pick 1 rfl).pack
    have P := (P.pick 2 rfl).pack
    have PO := (P.own 0 rfl).1
    have PN := (P.own 0 rfl).2
    refine bodyPost_ret (v := .agg #[.slice (some ⟨b1, 0, none⟩) d.mn.length x0, .slice (some ⟨b2, 0, none⟩) d.mx.length x1, .slice (some ⟨b3, 0, none⟩) d.md.length x2]) (by simp [results, Tryz.results77, go_sem, p0, p1, p2]) rfl (by first | exact ⟨_, _, rfl, by rw [RES.out]; exact PO, PN, SZ.1⟩ | exact ⟨_, by rw [RES.out]; exact PO, PN, SZ.1⟩ | exact ⟨_, rfl, _, by rw [RES.out]; exact PO, PN, SZ.1⟩)
  by_cases h3 : ki = 3
  · subst h3
    rw [rest_3] at RES
    go_wp2_with fail
    have S3 := Lib.hid S2.out.drew1
    have BB := Lib.hid (S3.out.1)
    clear S2
    generalize hxx : mdD d n = row at z3 RES RM LM
    have CE := Lib.hid (fun (W : World) (h : Wr [] w2.drew W) => show Hid (Wr [] w2.drew W) ∧ W.cell? ⟨w1.heap.size, 2, none⟩ = some (.slice (some ⟨b3, 0, none⟩) d.md.length x2) ∧ W.cell? ⟨w.heap.size + 1, 1, none⟩ = some (.int .i64 (n : Int)) ∧ W.cell? ⟨w.heap.size, 2, none⟩ = some (.slice (some ⟨d3, s3, none⟩) d.md.length t3) ∧ W.cell? ⟨d3, s3 + n, none⟩ = some (.slice A7 row.length c7) from ⟨Lib.hid h, (wr_cell h (p := ⟨w1.heap.size, 2, none⟩) hly (by simp)).trans (by exact by simpa using y2), (wr_cell h (p := ⟨w.heap.size + 1, 1, none⟩) hlq (by simp)).trans (by exact by simpa using q1), (wr_cell h (p := ⟨w.heap.size, 2, none⟩) hle (by simp)).trans (by exact by simpa using e2), (wr_cell h (p := ⟨d3, s3 + n, none⟩) (by show d3 < _; simpa using hv3) (by simp)).trans (by exact by simpa using z3)⟩)
    have INIT := Lib.hid (CE.out _ (Wr.refl _ _))
    have KW := Lib.hid (fun (W2 W : World) (hb : Wr [] W W2) (h : Hid (Wr [] w2.drew W) ∧ W.cell? ⟨w1.heap.size, 2, none⟩ = some (.slice (some ⟨b3, 0, none⟩) d.md.length x2) ∧ W.cell? ⟨w.heap.size + 1, 1, none⟩ = some (.int .i64 (n : Int)) ∧ W.cell? ⟨w.heap.size, 2, none⟩ = some (.slice (some ⟨d3, s3, none⟩) d.md.length t3) ∧ W.cell? ⟨d3, s3 + n, none⟩ = some (.slice A7 row.length c7)) => CE.out W2 (h.1.out.trans hb))
    clear y0 y1 y2 yf q0 q1 q2 qf e0 e1 e2 ef z1 z2 z3 hv1 hv2 hv3 hly hlq hle
    refine wpAnyZ_start 14 (fun W => Hid (Wr [] w2.drew W) ∧ W.cell? ⟨w1.heap.size, 2, none⟩ = some (.slice (some ⟨b3, 0, none⟩) d.md.length x2) ∧ W.cell? ⟨w.heap.size + 1, 1, none⟩ = some (.int .i64 (n : Int)) ∧ W.cell? ⟨w.heap.size, 2, none⟩ = some (.slice (some ⟨d3, s3, none⟩) d.md.length t3) ∧ W.cell? ⟨d3, s3 + n, none⟩ = some (.slice A7 row.length c7)) (by kernel_rfl) INIT.out (fun hHeld => ?_)
    clear CE INIT
    generalize hwd : w2.drew = wd at S3 KW hHeld BB ⊢
    clear hwd
    refine wpAnyZ_take (i := 0) (v := ?_) rfl (by kernel_rfl) (by kernel_rfl) (by kernel_rfl) (fun _ _ _ h => h) (Or.inl ⟨by rfl, ?_⟩) (by assumption) ?_
    rotate_left
    · (intro W hSw; (try dsimp only at hSw); go_simp <;> with_reducible rfl)
    (try simp only [Act.put])
    refine wpAnyZ_take (i := 1) (v := ?_) rfl (by kernel_rfl) (by kernel_rfl) (by kernel_rfl) (fun _ _ _ h => h) (Or.inl ⟨by rfl, ?_⟩) (by assumption) ?_
    rotate_left
    · (intro W hSw; (try dsimp only at hSw); go_simp <;> with_reducible rfl)
    (try simp only [Act.put])
    refine wpAnyZ_take (i := 2) (v := ?_) rfl (by kernel_rfl) (by kernel_rfl) (by kernel_rfl) (fun _ _ _ h => h) (Or.inl ⟨by rfl, ?_⟩) (by assumption) ?_
    rotate_left
    · (intro W hSw; (try dsimp only at hSw); go_simp <;> with_reducible rfl)
    (try simp only [Act.put])
    refine wpAnyZ_take (i := 3) (v := ?_) rfl (by kernel_rfl) (by kernel_rfl) (by kernel_rfl) (fun _ _ _ h => h) (Or.inl ⟨by rfl, ?_⟩) (by assumption) ?_
    rotate_left
    · (intro W hSw; (try dsimp only at hSw); go_simp <;> with_reducible rfl)
    (try simp only [Act.put])
    refine wpAnyZ_take (i := 4) (v := ?_) rfl (by kernel_rfl) (by kernel_rfl) (by kernel_rfl) (fun _ _ _ h => h) (Or.inl ⟨by rfl, ?_⟩) (by assumption) ?_
    rotate_left
    · (intro W hSw; (try dsimp only at hSw); go_simp <;> with_reducible rfl)
    (try simp only [Act.put])
    refine wpAnyZ_take (i := 6) (v := ?_) rfl (by kernel_rfl) (by kernel_rfl) (by kernel_rfl) (fun _ _ _ h => h) (Or.inl ⟨by rfl, ?_⟩) (by assumption) ?_
    rotate_left
    · (intro W hSw; (try dsimp only at hSw); go_simp <;> with_reducible rfl)
    (try simp only [Act.put])
    refine wpAnyZ_take (i := 7) (v := ?_) rfl (by kernel_rfl) (by kernel_rfl) (by kernel_rfl) (fun _ _ _ h => h) (Or.inl ⟨by rfl, ?_⟩) (by assumption) ?_
    rotate_left
    · (intro W hSw; (try dsimp only at hSw); go_simp <;> with_reducible rfl)
    (try simp only [Act.put])
    refine wpAnyZ_take (i := 8) (v := ?_) rfl (by kernel_rfl) (by kernel_rfl) (by kernel_rfl) (fun _ _ _ h => h) (Or.inl ⟨by rfl, ?_⟩) (by assumption) ?_
    rotate_left
    · (intro W hSw; (try dsimp only at hSw); go_simp <;> with_reducible rfl)
    (try simp only [Act.put])
    refine wpAnyZ_take (i := 9) (v := ?_) rfl (by kernel_rfl) (by kernel_rfl) (by kernel_rfl) (fun _ _ _ h => h) (Or.inl ⟨by rfl, ?_⟩) (by assumption) ?_
    rotate_left
    · (intro W hSw; (try dsimp only at hSw); go_simp <;> with_reducible rfl)
    (try simp only [Act.put])
    refine wpAnyZ_take (i := 10) (v := ?_) rfl (by kernel_rfl) (by kernel_rfl) (by kernel_rfl) (fun _ _ _ h => h) (Or.inl ⟨by rfl, ?_⟩) (by assumption) ?_
    rotate_left
    · (intro W hSw; (try dsimp only at hSw); go_simp <;> with_reducible rfl)
    (try simp only [Act.put])
    refine wpAnyZ_take (i := 11) (v := ?_) rfl (by kernel_rfl) (by kernel_rfl) (by kernel_rfl) (fun _ _ _ h => h) (Or.inl ⟨by rfl, ?_⟩) (by assumption) ?_
    rotate_left
    · (intro W hSw; (try dsimp only at hSw); go_simp <;> with_reducible rfl)
    (try simp only [Act.put])
    have SA := Lib.hid (S3.out.go ((Below.refl _ _).alloc (Nat.le_refl _) (.cells #[.int .i64 (brT va)] 3)))
    have RN := Lib.hid (rd_new wd (brT va) 3)
    refine wpAnyZ_one (i := 5) (by kernel_rfl) rfl (fun K hK => ?_)
    go_simp
    refine hK.out _ _ (KW.out _ _ (Wr.of_below ((Below.refl _ _).alloc (Nat.le_refl _) _) (Nat.le_refl _)) hHeld) (fun hHeld5 => ?_)
    clear hK K
    refine wpAnyZ_one (i := 12) (by kernel_rfl) rfl (fun K hK => ?_)
    go_simp
    go_at_call 118
    refine (specInter_any [brT va] row _ _ _ (by exact RN.out) (by exact RM.out.below SA.out.1 (Nat.le_refl _)) (by simp)).mono ?_
    rintro e w12 ⟨v7, rfl, o7, bb7⟩
    (first | done | go_wp2_with fail)
    refine hK.out _ _ (KW.out _ _ (Wr.of_below bb7 (Nat.le_refl _)) hHeld5) (fun hHeld12 => ?_)
    clear hK K
    rw [inter_one] at o7
    have S4 := Lib.hid (SA.out.new (flat_own (by simpa using o7)).1 (flat_own o7).2 bb7)
    clear RN SA
    obtain ⟨A8, c8, rfl⟩ : ∃ A c, v7 = .slice A (interB row [brT va]).length c := slice_ints (S4.out.rd 0 rfl)
    have S5 := Lib.hid (show Sn w w12 (⟨trI (interB row [brT va]), .slice A8 (interB row [brT va]).length c8, (Value.slice A8 (interB row [brT va]).length c8).ownBlock.toList⟩ :: ⟨trSu d.md, .slice (some ⟨b3, 0, none⟩) d.md.length x2, F3⟩ :: _) from (S4.out.pick 4 rfl).pick 1 rfl)
    simp only [List.eraseIdx_cons_succ, List.eraseIdx_cons_zero] at S5
    obtain ⟨F3', h6⟩ := S5.out.putR rfl n3
    have S6 := Lib.hid h6
    obtain ⟨vsr, Gr, owr, olr, _⟩ := rowsD_raw (S5.out.own 1 rfl).1
    have hcr := owr.frozenAt n
    have hcc := owr.cellAt n (by have := owr.1; omega)
    obtain ⟨xr, hxr⟩ : ∃ x, vsr[n]? = some x := ⟨vsr[n]'(by have := owr.1; omega), List.getElem?_eq_getElem _⟩
    rw [hxr] at hcc
    clear S4 S5 h6 o7 bb7 owr olr hxr
    refine wpAnyZ_take (i := 13) (v := ?_) rfl (by kernel_rfl) (by kernel_rfl) (by kernel_rfl) (fun _ _ _ h => h) (Or.inl ⟨by rfl, ?_⟩) (by assumption) ?_
    rotate_left
    · (intro W hSw; (try dsimp only at hSw); go_simp <;> with_reducible rfl)
    (try simp only [Act.put])
    refine wpAnyZ_last (by kernel_rfl) (by kernel_rfl) rfl (fun K hK => ?_)
    go_simp
    refine hK.out _ _ ?_
    clear hK K
    generalize World.setCell w12 _ _ = w9 at S6 ⊢
    clear hcr hcc KW BB
    obtain ⟨y0, y1, y2, yf⟩ := (S6.out.bk 1 rfl).c3
    obtain ⟨p0, p1, p2, pf⟩ := (S6.out.bk 4 rfl).c3
    have hgr : w1.heap.size ≠ w.heap.size + 1 + 1 := fun e => S6.out.2.apart (i := 1) (j := 4) rfl rfl (by omega) w1.heap.size (by simp [boxI]) (by simp [boxI, e])
    go_wp2
    have SZ := ((S6.out.boxSet 4 rfl 0 (.slice (some ⟨b1, 0, none⟩) d.mn.length x0)).boxSet 4 rfl 1 (.slice (some ⟨b2, 0, none⟩) d.mx.length x1)).boxSet 4 rfl 2 (.slice (some ⟨b3, 0, none⟩) d.md.length x2)
    have P := SZ.nil0
    have P := (P.pick 1 rfl).pack
    have P := (P.pick 3 rfl).pack
    have P := (P.pick 2 rfl).pack
    have PO := (P.own 0 rfl).1
    have PN := (P.own 0 rfl).2
    refine bodyPost_ret (v := .agg #[.slice (some ⟨b1, 0, none⟩) d.mn.length x0, .slice (some ⟨b2, 0, none⟩) d.mx.length x1, .slice (some ⟨b3, 0, none⟩) d.md.length x2]) (by simp [results, Tryz.results77, go_sem, p0, p1, p2]) rfl (by first | exact ⟨_, _, rfl, by rw [RES.out]; exact PO, PN, SZ.1⟩ | exact ⟨_, by rw [RES.out]; exact PO, PN, SZ.1⟩ | exact ⟨_, rfl, _, by rw [RES.out]; exact PO, PN, SZ.1⟩)
  by_cases h4 : ki = 4
  · subst h4
    rw [rest_4] at RES
    go_wp2_with fail
    have S3 := Lib.hid S2.out.drew1
    have BB := Lib.hid (S3.out.1)
    clear S2
    generalize hxx : mdD d n = row at z3 RES RM LM
    have CE := Lib.hid (fun (W : World) (h : Wr [] w2.drew W) => show Hid (Wr [] w2.drew W) ∧ W.cell? ⟨w1.heap.size, 2, none⟩ = some (.slice (some ⟨b3, 0, none⟩) d.md.length x2) ∧ W.cell? ⟨w.heap.size + 1, 1, none⟩ = some (.int .i64 (n : Int)) ∧ W.cell? ⟨w.heap.size, 2, none⟩ = some (.slice (some ⟨d3, s3, none⟩) d.md.length t3) ∧ W.cell? ⟨d3, s3 + n, none⟩ = some (.slice A7 row.length c7) from ⟨Lib.hid h, (wr_cell h (p := ⟨w1.heap.size, 2, none⟩) hly (by simp)).trans (by exact by simpa using y2), (wr_cell h (p := ⟨w.heap.size + 1, 1, none⟩) hlq (by simp)).trans (by exact by simpa using q1), (wr_cell h (p := ⟨w.heap.size, 2, none⟩) hle (by simp)).trans (by exact by simpa using e2), (wr_cell h (p := ⟨d3, s3 + n, none⟩) (by show d3 < _; simpa using hv3) (by simp)).trans (by exact by simpa using z3)⟩)
    have INIT := Lib.hid (CE.out _ (Wr.refl _ _))
    have KW := Lib.hid (fun (W2 W : World) (hb : Wr [] W W2) (h : Hid (Wr [] w2.drew W) ∧ W.cell? ⟨w1.heap.size, 2, none⟩ = some (.slice (some ⟨b3, 0, none⟩) d.md.length x2) ∧ W.cell? ⟨w.heap.size + 1, 1, none⟩ = some (.int .i64 (n : Int)) ∧ W.cell? ⟨w.heap.size, 2, none⟩ = some (.slice (some ⟨d3, s3, none⟩) d.md.length t3) ∧ W.cell? ⟨d3, s3 + n, none⟩ = some (.slice A7 row.length c7)) => CE.out W2 (h.1.out.trans hb))
    clear y0 y1 y2 yf q0 q1 q2 qf e0 e1 e2 ef z1 z2 z3 hv1 hv2 hv3 hly hlq hle
    refine wpAnyZ_start 13 (fun W => Hid (Wr [] w2.drew W) ∧ W.cell? ⟨w1.heap.size, 2, none⟩ = some (.slice (some ⟨b3, 0, none⟩) d.md.length x2) ∧ W.cell? ⟨w.heap.size + 1, 1, none⟩ = some (.int .i64 (n : Int)) ∧ W.cell? ⟨w.heap.size, 2, none⟩ = some (.slice (some ⟨d3, s3, none⟩) d.md.length t3) ∧ W.cell? ⟨d3, s3 + n, none⟩ = some (.slice A7 row.length c7)) (by kernel_rfl) INIT.out (fun hHeld => ?_)
    clear CE INIT
    generalize hwd : w2.drew = wd at S3 KW hHeld BB ⊢
    clear hwd
    refine wpAnyZ_take (i := 0) (v := ?_) rfl (by kernel_rfl) (by kernel_rfl) (by kernel_rfl) (fun _ _ _ h => h) (Or.inl ⟨by rfl, ?_⟩) (by assumption) ?_
    rotate_left
    · (intro W hSw; (try dsimp only at hSw); go_simp <;> with_reducible rfl)
    (try simp only [Act.put])
    refine wpAnyZ_take (i := 1) (v := ?_) rfl (by kernel_rfl) (by kernel_rfl) (by kernel_rfl) (fun _ _ _ h => h) (Or.inl ⟨by rfl, ?_⟩) (by assumption) ?_
    rotate_left
    · (intro W hSw; (try dsimp only at hSw); go_simp <;> with_reducible rfl)
    (try simp only [Act.put])
    refine wpAnyZ_take (i := 2) (v := ?_) rfl (by kernel_rfl) (by kernel_rfl) (by kernel_rfl) (fun _ _ _ h => h) (Or.inl ⟨by rfl, ?_⟩) (by assumption) ?_
    rotate_left
    · (intro W hSw; (try dsimp only at hSw); go_simp <;> with_reducible rfl)
    (try simp only [Act.put])
    refine wpAnyZ_take (i := 3) (v := ?_) rfl (by kernel_rfl) (by kernel_rfl) (by kernel_rfl) (fun _ _ _ h => h) (Or.inl ⟨by rfl, ?_⟩) (by assumption) ?_
    rotate_left
    · (intro W hSw; (try dsimp only at hSw); go_simp <;> with_reducible rfl)
    (try simp only [Act.put])
    refine wpAnyZ_take (i := 4) (v := ?_) rfl (by kernel_rfl) (by kernel_rfl) (by kernel_rfl) (fun _ _ _ h => h) (Or.inl ⟨by rfl, ?_⟩) (by assumption) ?_
    rotate_left
    · (intro W hSw; (try dsimp only at hSw); go_simp <;> with_reducible rfl)
    (try simp only [Act.put])
    refine wpAnyZ_take (i := 5) (v := ?_) rfl (by kernel_rfl) (by kernel_rfl) (by kernel_rfl) (fun _ _ _ h => h) (Or.inl ⟨by rfl, ?_⟩) (by assumption) ?_
    rotate_left
    · (intro W hSw; (try dsimp only at hSw); go_simp <;> with_reducible rfl)
    (try simp only [Act.put])
    refine wpAnyZ_take (i := 6) (v := ?_) rfl (by kernel_rfl) (by kernel_rfl) (by kernel_rfl) (fun _ _ _ h => h) (Or.inl ⟨by rfl, ?_⟩) (by assumption) ?_
    rotate_left
    · (intro W hSw; (try dsimp only at hSw); go_simp <;> with_reducible rfl)
    (try simp only [Act.put])
    refine wpAnyZ_take (i := 7) (v := ?_) rfl (by kernel_rfl) (by kernel_rfl) (by kernel_rfl) (fun _ _ _ h => h) (Or.inl ⟨by rfl, ?_⟩) (by assumption) ?_
    rotate_left
    · (intro W hSw; (try dsimp only at hSw); go_simp <;> with_reducible rfl)
    (try simp only [Act.put])
    refine wpAnyZ_take (i := 8) (v := ?_) rfl (by kernel_rfl) (by kernel_rfl) (by kernel_rfl) (fun _ _ _ h => h) (Or.inl ⟨by rfl, ?_⟩) (by assumption) ?_
    rotate_left
    · (intro W hSw; (try dsimp only at hSw); go_simp <;> with_reducible rfl)
    (try simp only [Act.put])
    refine wpAnyZ_take (i := 9) (v := ?_) rfl (by kernel_rfl) (by kernel_rfl) (by kernel_rfl) (fun _ _ _ h => h) (Or.inl ⟨by rfl, ?_⟩) (by assumption) ?_
    rotate_left
    · (intro W hSw; (try dsimp only at hSw); go_simp <;> with_reducible rfl)
    (try simp only [Act.put])
    refine wpAnyZ_take (i := 10) (v := ?_) rfl (by kernel_rfl) (by kernel_rfl) (by kernel_rfl) (fun _ _ _ h => h) (Or.inl ⟨by rfl, ?_⟩) (by assumption) ?_
    rotate_left
    · (intro W hSw; (try dsimp only at hSw); go_simp <;> with_reducible rfl)
    (try simp only [Act.put])
    refine wpAnyZ_one (i := 11) (by kernel_rfl) rfl (fun K hK => ?_)
    go_simp
    go_at_call 119
    refine (specRemove_any row (brT va) _ _ (by exact RM.out.below BB.out (Nat.le_refl _)) (by have := LM.out; omega)).mono ?_
    rintro e w11 ⟨v7, rfl, o7, bb7⟩
    (first | done | go_wp2_with fail)
    refine hK.out _ _ (KW.out _ _ (Wr.of_below bb7 (Nat.le_refl _)) hHeld) (fun hHeld11 => ?_)
    clear hK K
    have S4 := Lib.hid (S3.out.new (flat_own (by simpa using o7)).1 (flat_own o7).2 bb7)
    obtain ⟨A8, c8, rfl⟩ : ∃ A c, v7 = .slice A (pickB (neB (brT va)) row).length c := slice_ints (S4.out.rd 0 rfl)
    have S5 := Lib.hid (show Sn w w11 (⟨trI (pickB (neB (brT va)) row), .slice A8 (pickB (neB (brT va)) row).length c8, (Value.slice A8 (pickB (neB (brT va)) row).length c8).ownBlock.toList⟩ :: ⟨trSu d.md, .slice (some ⟨b3, 0, none⟩) d.md.length x2, F3⟩ :: _) from (S4.out.pick 4 rfl).pick 1 rfl)
    simp only [List.eraseIdx_cons_succ, List.eraseIdx_cons_zero] at S5
    obtain ⟨F3', h6⟩ := S5.out.putR rfl n3
    have S6 := Lib.hid h6
    obtain ⟨vsr, Gr, owr, olr, _⟩ := rowsD_raw (S5.out.own 1 rfl).1
    have hcr := owr.frozenAt n
    have hcc := owr.cellAt n (by have := owr.1; omega)
    obtain ⟨xr, hxr⟩ : ∃ x, vsr[n]? = some x := ⟨vsr[n]'(by have := owr.1; omega), List.getElem?_eq_getElem _⟩
    rw [hxr] at hcc
    clear S4 S5 h6 o7 bb7 owr olr hxr
    refine wpAnyZ_take (i := 12) (v := ?_) rfl (by kernel_rfl) (by kernel_rfl) (by kernel_rfl) (fun _ _ _ h => h) (Or.inl ⟨by rfl, ?_⟩) (by assumption) ?_
    rotate_left
    · (intro W hSw; (try dsimp only at hSw); go_simp <;> with_reducible rfl)
    (try simp only [Act.put])
    refine wpAnyZ_last (by kernel_rfl) (by kernel_rfl) rfl (fun K hK => ?_)
    go_simp
    refine hK.out _ _ ?_
    clear hK K
    generalize World.setCell w11 _ _ = w9 at S6 ⊢
    clear hcr hcc KW BB
    obtain ⟨y0, y1, y2, yf⟩ := (S6.out.bk 1 rfl).c3
    obtain ⟨p0, p1, p2, pf⟩ := (S6.out.bk 4 rfl).c3
    have hgr : w1.heap.size ≠ w.heap.size + 1 + 1 := fun e => S6.out.2.apart (i := 1) (j := 4) rfl rfl (by omega) w1.heap.size (by simp [boxI]) (by simp [boxI, e])
    go_wp2
    have SZ := ((S6.out.boxSet 4 rfl 0 (.slice (some ⟨b1, 0, none⟩) d.mn.length x0)).boxSet 4 rfl 1 (.slice (some ⟨b2, 0, none⟩) d.mx.length x1)).boxSet 4 rfl 2 (.slice (some ⟨b3, 0, none⟩) d.md.length x2)
    have P := SZ.nil0
    have P := (P.pick 1 rfl).pack
    have P := (P.pick 3 rfl).pack
    have P := (P.pick 2 rfl).pack
    have PO := (P.own 0 rfl).1
    have PN := (P.own 0 rfl).2
    refine bodyPost_ret (v := .agg #[.slice (some ⟨b1, 0, none⟩) d.mn.length x0, .slice (some ⟨b2, 0, none⟩) d.mx.length x1, .slice (some ⟨b3, 0, none⟩) d.md.length x2]) (by simp [results, Tryz.results77, go_sem, p0, p1, p2]) rfl (by first | exact ⟨_, _, rfl, by rw [RES.out]; exact PO, PN, SZ.1⟩ | exact ⟨_, by rw [RES.out]; exact PO, PN, SZ.1⟩ | exact ⟨_, rfl, _, by rw [RES.out]; exact PO, PN, SZ.1⟩)
  rw [rest_o h1 h2 h3 h4] at RES
  obtain ⟨p0, p1, p2, pf⟩ := (S2.out.bk 4 rfl).c3
  have hgr : w1.heap.size ≠ w.heap.size + 1 + 1 := fun e => S2.out.2.apart (i := 0) (j := 4) rfl rfl (by omega) w1.heap.size (by simp [boxI]) (by simp [boxI, e])
  go_wp2
  have SZ := ((S2.out.boxSet 4 rfl 0 (.slice (some ⟨b1, 0, none⟩) d.mn.length x0)).boxSet 4 rfl 1 (.slice (some ⟨b2, 0, none⟩) d.mx.length x1)).boxSet 4 rfl 2 (.slice (some ⟨b3, 0, none⟩) d.md.length x2)
  have P := SZ.nil0
  have P := (P.pick 4 rfl).pack
  have P := (P.pick 3 rfl).pack
  have P := (P.pick 2 rfl).pack
  have PO := (P.own 0 rfl).1
  have PN := (P.own 0 rfl).2
  refine bodyPost_ret (v := .agg #[.slice (some ⟨b1, 0, none⟩) d.mn.length x0, .slice (some ⟨b2, 0, none⟩) d.mx.length x1, .slice (some ⟨b3, 0, none⟩) d.md.length x2]) (by simp [results, Tryz.results77, go_sem, p0, p1, p2]) rfl (by first | exact ⟨_, _, rfl, by rw [RES.out]; exact PO, PN, SZ.1⟩ | exact ⟨_, by rw [RES.out]; exact PO, PN, SZ.1⟩ | exact ⟨_, rfl, _, by rw [RES.out]; exact PO, PN, SZ.1⟩)
end Go.Proofs.YtgbpomakomddjabGreat
end
