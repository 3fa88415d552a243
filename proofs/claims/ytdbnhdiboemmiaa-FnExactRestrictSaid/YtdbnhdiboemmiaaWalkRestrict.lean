/- DERIVED. The walk of the law FnExactRestrict, by contracts. -/
import Derived.Test.YtdbnhdiboemmiaaDmX
import Derived.Test.YtdbnhdiboemmiaaTDomain
import Derived.Test.YtdbnhdiboemmiaaTLiteral
import Derived.Deep.RegionWith
import Derived.Deep.RegionHeld3
namespace Go.Proofs.Ytdbnhdiboemmiaa
open Go.RowKit
set_option linter.unusedVariables false
set_option maxRecDepth 100000 in
set_option maxHeartbeats 4000000 in
theorem walkFnExactRestrict (v0 : Value) (d0 : Dm) (v1 : Value) (d1 : Lt) (w : World) (hr0 : (trDm d0).rd w v0) (hk0 : (trDm d0).ok) (hr1 : (trLt d1).rd w v1) (hk1 : (trLt d1).ok) :
    Calls Try.prog 6 #[v0, v1] w fun e w' => e = .returned (.bool true) ∧ Below w.heap.size w w' := by
  have HK0 := Lib.hid hk0
  have HR0 := Lib.hid hr0
  obtain ⟨U0_0, u0_0, U0_1, u0_1, U0_2, u0_2, rfl, _, _, _⟩ := rdDomain_t hr0
  clear hk0 hr0
  have HK1 := Lib.hid hk1
  have HR1 := Lib.hid hr1
  obtain rfl := rdLiteral_t hr1
  clear hk1 hr1
  have S0 := Lib.hid (Sn.start w)
  have S1 := Lib.hid (S0.out.box 30 [.slice U0_0 d0.mn.length u0_0, .slice U0_1 d0.mx.length u0_1, .slice U0_2 d0.md.length u0_2])
  clear S0
  have S2 := Lib.hid (S1.out.box 52 [.int .i64 d1.ki, .int .i64 d1.ac, .int .i64 d1.va])
  clear S1
  simp only [World.size_alloc] at S2
  go_enter Try.func6, Try.ntmps6
  have hn0 : (trDm (restD d0 d1)).sz ≤ (trDm d0).sz := rest_sz _ _
  go_wp2_with fail
  refine (szDomain_t d0 _ (1048576) _ (by exact S2.out.old HR0.out) HK0.out (by omega) (by omega)).mono ?_
  rintro e w3 ⟨rfl, b⟩
  have S3 := Lib.hid (S2.out.go b)
  clear S2 b
  generalize hz0 : (trDm d0).sz = z0
  have HZ0 := Lib.hid hz0
  clear hz0
  by_cases hbig0 : (1048576 : Int) < (z0 : Int)
  · rw [if_pos hbig0]
    go_wp2
    go_ret
    exact ⟨rfl, S3.out.1⟩
  rw [if_neg hbig0]
  have hq0 : 0 ≤ (1048576 - (z0 : Int) : Int) := by omega
  have hb0 : z0 ≤ 1048576 := by omega
  obtain ⟨x0, x1, x2, xf⟩ := (S3.out.bk 1 rfl).c3
  have hlx := (S3.out.bk 1 rfl).lt
  obtain ⟨y0, y1, y2, yf⟩ := (S3.out.bk 0 rfl).c3
  have hly := (S3.out.bk 0 rfl).lt
  go_wp2_with fail
  obtain ⟨LL, hS, hLL⟩ := (show ∀ X : List Item, Sn w w3 X → ∃ LL, Sn w w3 LL ∧ LL = X from fun X h => ⟨X, h, rfl⟩) _ S3.out
  have S4 := Lib.hid hS
  have HLL := Lib.hid hLL
  clear hS hLL S3
  go_cut [6] from 18 to 22 (fun s wx => ∃ (gb : Nat) (X0 : Option Addr) (x0 : Nat) (X1 : Option Addr) (x1 : Nat) (X2 : Option Addr) (x2 : Nat) (F : List Nat), s = .pointer (some ⟨gb, 0, none⟩) ∧ Sn w wx (boxI gb 40 [.slice X0 (restD d0 d1).mn.length x0, .slice X1 (restD d0 d1).mx.length x1, .slice X2 (restD d0 d1).md.length x2] :: ⟨trDm (restD d0 d1), .agg #[.slice X0 (restD d0 d1).mn.length x0, .slice X1 (restD d0 d1).mx.length x1, .slice X2 (restD d0 d1).md.length x2], F⟩ :: LL))
  case first =>
    have S5 := Lib.hid S4.out.drew1
    clear S4
    have CE := Lib.hid (fun (W : World) (h : Below w3.heap.size w3 W) => show Hid (Below w3.heap.size w3 W) ∧ W.cell? ⟨w.heap.size, 0, none⟩ = some (.slice U0_0 d0.mn.length u0_0) ∧ W.cell? ⟨w.heap.size, 1, none⟩ = some (.slice U0_1 d0.mx.length u0_1) ∧ W.cell? ⟨w.heap.size, 2, none⟩ = some (.slice U0_2 d0.md.length u0_2) ∧ W.cell? ⟨w.heap.size + 1, 0, none⟩ = some (.int .i64 d1.ki) ∧ W.cell? ⟨w.heap.size + 1, 1, none⟩ = some (.int .i64 d1.ac) ∧ W.cell? ⟨w.heap.size + 1, 2, none⟩ = some (.int .i64 d1.va) from ⟨Lib.hid h, (h.cell (p := ⟨w.heap.size, 0, none⟩) hlx).trans (by simpa using x0), (h.cell (p := ⟨w.heap.size, 1, none⟩) hlx).trans (by simpa using x1), (h.cell (p := ⟨w.heap.size, 2, none⟩) hlx).trans (by simpa using x2), (h.cell (p := ⟨w.heap.size + 1, 0, none⟩) hly).trans (by simpa using y0), (h.cell (p := ⟨w.heap.size + 1, 1, none⟩) hly).trans (by simpa using y1), (h.cell (p := ⟨w.heap.size + 1, 2, none⟩) hly).trans (by simpa using y2)⟩)
    refine wp_region_held_drew (S := fun W => Hid (Below w3.heap.size w3 W) ∧ W.cell? ⟨w.heap.size, 0, none⟩ = some (.slice U0_0 d0.mn.length u0_0) ∧ W.cell? ⟨w.heap.size, 1, none⟩ = some (.slice U0_1 d0.mx.length u0_1) ∧ W.cell? ⟨w.heap.size, 2, none⟩ = some (.slice U0_2 d0.md.length u0_2) ∧ W.cell? ⟨w.heap.size + 1, 0, none⟩ = some (.int .i64 d1.ki) ∧ W.cell? ⟨w.heap.size + 1, 1, none⟩ = some (.int .i64 d1.ac) ∧ W.cell? ⟨w.heap.size + 1, 2, none⟩ = some (.int .i64 d1.va)) (by kernel_rfl) (CE.out _ (Below.refl _ _).drew) (fun hHeld => ?_)
    clear x0 x1 x2 xf hlx y0 y1 y2 yf hly
    have B5 := Lib.hid ((Below.refl w3.heap.size w3).drew)
    generalize hwd : w3.drew = wd at S5 B5 hHeld ⊢
    clear hwd
    refine wpAnyH_take (i := 0) (v := ?_) rfl (by kernel_rfl) (by kernel_rfl) (by kernel_rfl) (fun _ _ _ h => h) (Or.inl ⟨by rfl, ?_⟩) (by assumption) ?_
    rotate_left
    · (intro W hSw; (try dsimp only at hSw); go_simp <;> with_reducible rfl)
    (try simp only [Act.put, List.getElem_toArray, List.getElem_cons_zero, List.setIfInBounds_toArray, List.set_cons_succ, List.set_cons_zero])
    refine wpAnyH_take (i := 2) (v := ?_) rfl (by kernel_rfl) (by kernel_rfl) (by kernel_rfl) (fun _ _ _ h => h) (Or.inl ⟨by rfl, ?_⟩) (by assumption) ?_
    rotate_left
    · (intro W hSw; (try dsimp only at hSw); go_simp <;> with_reducible rfl)
    (try simp only [Act.put, List.getElem_toArray, List.getElem_cons_succ, List.getElem_cons_zero, List.setIfInBounds_toArray, List.set_cons_succ, List.set_cons_zero])
    refine wpAnyH_ready (rs := [1, 5]) (by kernel_rfl) (by simp) ?_
    refine AllReadyH.cons rfl (fun K hK => ?_) ?_
    · go_simp
      refine (toDomain_t d0 _ _ (by exact S5.out.old HR0.out) (by have := HZ0.out; omega)).mono ?_
      rintro e w6 ⟨v6_, F6, rfl, o, h, bb⟩
      have S6 := Lib.hid (S5.out.new o h bb)
      have B6 := Lib.hid (B5.out.trans (bb.mono B5.out.size))
      (first | done | go_wp2_with fail | skip)
      refine hK.out _ _ (CE.out _ B6.out) (fun hHeld6 => ?_)
      clear hK K bb o h S5 B5
      refine wpAnyH_ready (rs := [3, 5]) (by kernel_rfl) (by simp) ?_
      refine AllReadyH.cons rfl (fun K hK => ?_) ?_
      · go_simp
        refine (toLiteral_t d1 _ _ (by exact S6.out.old HR1.out) (by show szL _ ≤ _; simp [szL, cellsLt, Tr.sz])).mono ?_
        rintro e w7 ⟨v7_, F7, rfl, o, h, bb⟩
        obtain rfl := rdLiteral_t (Tr.own_rd _ _ _ o)
        have S7 := Lib.hid (S6.out.new o h bb)
        have B7 := Lib.hid (B6.out.trans (bb.mono B6.out.size))
        (first | done | go_wp2_with fail | skip)
        refine hK.out _ _ (CE.out _ B7.out) (fun hHeld7 => ?_)
        clear hK K bb o h S6 B6
        refine wpAnyH_ready (rs := [4, 5]) (by kernel_rfl) (by simp) ?_
        refine AllReadyH.cons rfl (fun K hK => ?_) ?_
        · go_simp
          refine (specRestrict_any d0 d1 _ _ (by exact (S7.out.own 1 rfl).1) (by have := HZ0.out; omega)).mono ?_
          rintro e w8 ⟨v8_, F8, rfl, o, h, bb⟩
          obtain ⟨Y8_0, y8_0, Y8_1, y8_1, Y8_2, y8_2, rfl, _, _, _⟩ := rdDomain_t (Tr.own_rd _ _ _ o)
          have S8 := Lib.hid (S7.out.new o h bb)
          have B8 := Lib.hid (B7.out.trans (bb.mono B7.out.size))
          (first | done | go_wp2_with fail | skip)
          refine hK.out _ _ (CE.out _ B8.out) (fun hHeld8 => ?_)
          clear hK K bb o h S7 B7
          refine wpAnyH_ready (rs := [5]) (by kernel_rfl) (by simp) ?_
          refine AllReadyH.cons rfl (fun K hK => ?_) AllReadyH.nil
          go_simp
          have S9 := Lib.hid (S8.out.box 40 [.slice none 0 0, .slice none 0 0, .slice none 0 0])
          have B9 := Lib.hid (B8.out.alloc B8.out.size (.cells #[.slice none 0 0, .slice none 0 0, .slice none 0 0] 40))
          have hg0 : w3.heap.size ≤ w8.heap.size := B8.out.size
          refine hK.out _ _ (CE.out _ B9.out) (fun hHeld9 => ?_)
          generalize hgg : w8.heap.size = gb at S9 B9 hg0 hHeld9 ⊢
          generalize World.alloc w8 _ = w9 at S9 B9 hHeld9 ⊢
          clear hK K hgg S8 B8
          obtain ⟨h_0, h_1, h_2, h_f⟩ := (S9.out.bk 0 rfl).c3
          refine wpAnyH_ready (rs := [6]) (by kernel_rfl) (by simp) ?_
          refine AllReadyH.cons rfl (fun K hK => ?_) AllReadyH.nil
          go_simp
          have S10 := Lib.hid (((S9.out.boxSet 0 rfl 0 (.slice Y8_0 (restD d0 d1).mn.length y8_0)).boxSet 0 rfl 1 (.slice Y8_1 (restD d0 d1).mx.length y8_1)).boxSet 0 rfl 2 (.slice Y8_2 (restD d0 d1).md.length y8_2))
          simp only [List.set_cons_zero, List.set_cons_succ] at S10
          refine hK.out _ _ (CE.out _ (((B9.out.setCell (by exact hg0) _).setCell (by exact hg0) _).setCell (by exact hg0) _)) (fun hHeld10 => ?_)
          clear hK K h_0 h_1 h_2 h_f S9
          refine wpAnyH_done (by kernel_rfl) ?_ _
          go_wp2_with fail
          go_meet
          case rel => exact ⟨_, _, _, _, _, _, _, _, rfl, ((((S10.out.pick 1 rfl).pick 1 rfl).drop 2).drop 2)⟩
        refine AllReadyH.cons rfl (fun K hK => ?_) AllReadyH.nil
        go_simp
        have S8 := Lib.hid (S7.out.box 40 [.slice none 0 0, .slice none 0 0, .slice none 0 0])
        have B8 := Lib.hid (B7.out.alloc B7.out.size (.cells #[.slice none 0 0, .slice none 0 0, .slice none 0 0] 40))
        have hg0 : w3.heap.size ≤ w7.heap.size := B7.out.size
        refine hK.out _ _ (CE.out _ B8.out) (fun hHeld8 => ?_)
        generalize hgg : w7.heap.size = gb at S8 B8 hg0 hHeld8 ⊢
        generalize World.alloc w7 _ = w8 at S8 B8 hHeld8 ⊢
        clear hK K hgg S7 B7
        refine wpAnyH_ready (rs := [4]) (by kernel_rfl) (by simp) ?_
        refine AllReadyH.cons rfl (fun K hK => ?_) AllReadyH.nil
        go_simp
        refine (specRestrict_any d0 d1 _ _ (by exact (S8.out.own 2 rfl).1) (by have := HZ0.out; omega)).mono ?_
        rintro e w9 ⟨v9_, F9, rfl, o, h, bb⟩
        obtain ⟨Y9_0, y9_0, Y9_1, y9_1, Y9_2, y9_2, rfl, _, _, _⟩ := rdDomain_t (Tr.own_rd _ _ _ o)
        have S9 := Lib.hid (S8.out.new o h bb)
        have B9 := Lib.hid (B8.out.trans (bb.mono B8.out.size))
        (first | done | go_wp2_with fail | skip)
        refine hK.out _ _ (CE.out _ B9.out) (fun hHeld9 => ?_)
        clear hK K bb o h S8 B8
        obtain ⟨h_0, h_1, h_2, h_f⟩ := (S9.out.bk 1 rfl).c3
        refine wpAnyH_ready (rs := [6]) (by kernel_rfl) (by simp) ?_
        refine AllReadyH.cons rfl (fun K hK => ?_) AllReadyH.nil
        go_simp
        have S10 := Lib.hid (((S9.out.boxSet 1 rfl 0 (.slice Y9_0 (restD d0 d1).mn.length y9_0)).boxSet 1 rfl 1 (.slice Y9_1 (restD d0 d1).mx.length y9_1)).boxSet 1 rfl 2 (.slice Y9_2 (restD d0 d1).md.length y9_2))
        simp only [List.set_cons_zero, List.set_cons_succ] at S10
        refine hK.out _ _ (CE.out _ (((B9.out.setCell (by exact hg0) _).setCell (by exact hg0) _).setCell (by exact hg0) _)) (fun hHeld10 => ?_)
        clear hK K h_0 h_1 h_2 h_f S9
        refine wpAnyH_done (by kernel_rfl) ?_ _
        go_wp2_with fail
        go_meet
        case rel => exact ⟨_, _, _, _, _, _, _, _, rfl, ((((S10.out.pick 0 rfl).pick 1 rfl).drop 2).drop 2)⟩
      refine AllReadyH.cons rfl (fun K hK => ?_) AllReadyH.nil
      go_simp
      have S7 := Lib.hid (S6.out.box 40 [.slice none 0 0, .slice none 0 0, .slice none 0 0])
      have B7 := Lib.hid (B6.out.alloc B6.out.size (.cells #[.slice none 0 0, .slice none 0 0, .slice none 0 0] 40))
      have hg0 : w3.heap.size ≤ w6.heap.size := B6.out.size
      refine hK.out _ _ (CE.out _ B7.out) (fun hHeld7 => ?_)
      generalize hgg : w6.heap.size = gb at S7 B7 hg0 hHeld7 ⊢
      generalize World.alloc w6 _ = w7 at S7 B7 hHeld7 ⊢
      clear hK K hgg S6 B6
      refine wpAnyH_ready (rs := [3]) (by kernel_rfl) (by simp) ?_
      refine AllReadyH.cons rfl (fun K hK => ?_) AllReadyH.nil
      go_simp
      refine (toLiteral_t d1 _ _ (by exact S7.out.old HR1.out) (by show szL _ ≤ _; simp [szL, cellsLt, Tr.sz])).mono ?_
      rintro e w8 ⟨v8_, F8, rfl, o, h, bb⟩
      obtain rfl := rdLiteral_t (Tr.own_rd _ _ _ o)
      have S8 := Lib.hid (S7.out.new o h bb)
      have B8 := Lib.hid (B7.out.trans (bb.mono B7.out.size))
      (first | done | go_wp2_with fail | skip)
      refine hK.out _ _ (CE.out _ B8.out) (fun hHeld8 => ?_)
      clear hK K bb o h S7 B7
      refine wpAnyH_ready (rs := [4]) (by kernel_rfl) (by simp) ?_
      refine AllReadyH.cons rfl (fun K hK => ?_) AllReadyH.nil
      go_simp
      refine (specRestrict_any d0 d1 _ _ (by exact (S8.out.own 2 rfl).1) (by have := HZ0.out; omega)).mono ?_
      rintro e w9 ⟨v9_, F9, rfl, o, h, bb⟩
      obtain ⟨Y9_0, y9_0, Y9_1, y9_1, Y9_2, y9_2, rfl, _, _, _⟩ := rdDomain_t (Tr.own_rd _ _ _ o)
      have S9 := Lib.hid (S8.out.new o h bb)
      have B9 := Lib.hid (B8.out.trans (bb.mono B8.out.size))
      (first | done | go_wp2_with fail | skip)
      refine hK.out _ _ (CE.out _ B9.out) (fun hHeld9 => ?_)
      clear hK K bb o h S8 B8
      obtain ⟨h_0, h_1, h_2, h_f⟩ := (S9.out.bk 2 rfl).c3
      refine wpAnyH_ready (rs := [6]) (by kernel_rfl) (by simp) ?_
      refine AllReadyH.cons rfl (fun K hK => ?_) AllReadyH.nil
      go_simp
      have S10 := Lib.hid (((S9.out.boxSet 2 rfl 0 (.slice Y9_0 (restD d0 d1).mn.length y9_0)).boxSet 2 rfl 1 (.slice Y9_1 (restD d0 d1).mx.length y9_1)).boxSet 2 rfl 2 (.slice Y9_2 (restD d0 d1).md.length y9_2))
      simp only [List.set_cons_zero, List.set_cons_succ] at S10
      refine hK.out _ _ (CE.out _ (((B9.out.setCell (by exact hg0) _).setCell (by exact hg0) _).setCell (by exact hg0) _)) (fun hHeld10 => ?_)
      clear hK K h_0 h_1 h_2 h_f S9
      refine wpAnyH_done (by kernel_rfl) ?_ _
      go_wp2_with fail
      go_meet
      case rel => exact ⟨_, _, _, _, _, _, _, _, rfl, ((((S10.out.pick 0 rfl).pick 2 rfl).drop 2).drop 2)⟩
    refine AllReadyH.cons rfl (fun K hK => ?_) AllReadyH.nil
    go_simp
    have S6 := Lib.hid (S5.out.box 40 [.slice none 0 0, .slice none 0 0, .slice none 0 0])
    have B6 := Lib.hid (B5.out.alloc B5.out.size (.cells #[.slice none 0 0, .slice none 0 0, .slice none 0 0] 40))
    have hg0 : w3.heap.size ≤ wd.heap.size := B5.out.size
    refine hK.out _ _ (CE.out _ B6.out) (fun hHeld6 => ?_)
    generalize hgg : wd.heap.size = gb at S6 B6 hg0 hHeld6 ⊢
    generalize World.alloc wd _ = w6 at S6 B6 hHeld6 ⊢
    clear hK K hgg S5 B5
    refine wpAnyH_ready (rs := [1]) (by kernel_rfl) (by simp) ?_
    refine AllReadyH.cons rfl (fun K hK => ?_) AllReadyH.nil
    go_simp
    refine (toDomain_t d0 _ _ (by exact S6.out.old HR0.out) (by have := HZ0.out; omega)).mono ?_
    rintro e w7 ⟨v7_, F7, rfl, o, h, bb⟩
    have S7 := Lib.hid (S6.out.new o h bb)
    have B7 := Lib.hid (B6.out.trans (bb.mono B6.out.size))
    (first | done | go_wp2_with fail | skip)
    refine hK.out _ _ (CE.out _ B7.out) (fun hHeld7 => ?_)
    clear hK K bb o h S6 B6
    refine wpAnyH_ready (rs := [3]) (by kernel_rfl) (by simp) ?_
    refine AllReadyH.cons rfl (fun K hK => ?_) AllReadyH.nil
    go_simp
    refine (toLiteral_t d1 _ _ (by exact S7.out.old HR1.out) (by show szL _ ≤ _; simp [szL, cellsLt, Tr.sz])).mono ?_
    rintro e w8 ⟨v8_, F8, rfl, o, h, bb⟩
    obtain rfl := rdLiteral_t (Tr.own_rd _ _ _ o)
    have S8 := Lib.hid (S7.out.new o h bb)
    have B8 := Lib.hid (B7.out.trans (bb.mono B7.out.size))
    (first | done | go_wp2_with fail | skip)
    refine hK.out _ _ (CE.out _ B8.out) (fun hHeld8 => ?_)
    clear hK K bb o h S7 B7
    refine wpAnyH_ready (rs := [4]) (by kernel_rfl) (by simp) ?_
    refine AllReadyH.cons rfl (fun K hK => ?_) AllReadyH.nil
    go_simp
    refine (specRestrict_any d0 d1 _ _ (by exact (S8.out.own 1 rfl).1) (by have := HZ0.out; omega)).mono ?_
    rintro e w9 ⟨v9_, F9, rfl, o, h, bb⟩
    obtain ⟨Y9_0, y9_0, Y9_1, y9_1, Y9_2, y9_2, rfl, _, _, _⟩ := rdDomain_t (Tr.own_rd _ _ _ o)
    have S9 := Lib.hid (S8.out.new o h bb)
    have B9 := Lib.hid (B8.out.trans (bb.mono B8.out.size))
    (first | done | go_wp2_with fail | skip)
    refine hK.out _ _ (CE.out _ B9.out) (fun hHeld9 => ?_)
    clear hK K bb o h S8 B8
    obtain ⟨h_0, h_1, h_2, h_f⟩ := (S9.out.bk 3 rfl).c3
    refine wpAnyH_ready (rs := [6]) (by kernel_rfl) (by simp) ?_
    refine AllReadyH.cons rfl (fun K hK => ?_) AllReadyH.nil
    go_simp
    have S10 := Lib.hid (((S9.out.boxSet 3 rfl 0 (.slice Y9_0 (restD d0 d1).mn.length y9_0)).boxSet 3 rfl 1 (.slice Y9_1 (restD d0 d1).mx.length y9_1)).boxSet 3 rfl 2 (.slice Y9_2 (restD d0 d1).md.length y9_2))
    simp only [List.set_cons_zero, List.set_cons_succ] at S10
    refine hK.out _ _ (CE.out _ (((B9.out.setCell (by exact hg0) _).setCell (by exact hg0) _).setCell (by exact hg0) _)) (fun hHeld10 => ?_)
    clear hK K h_0 h_1 h_2 h_f S9
    refine wpAnyH_done (by kernel_rfl) ?_ _
    go_wp2_with fail
    go_meet
    case rel => exact ⟨_, _, _, _, _, _, _, _, rfl, ((((S10.out.pick 0 rfl).pick 3 rfl).drop 2).drop 2)⟩
  case rest =>
    obtain ⟨gb6, X6_0, x6_0, X6_1, x6_1, X6_2, x6_2, FF6, rfl, hS⟩ := hcut
    obtain rfl := HLL.out
    have S6 := Lib.hid hS
    clear hS S4 x0 x1 x2 xf hlx y0 y1 y2 yf hly
    obtain ⟨w6, hw6⟩ : ∃ x, x = wc := ⟨_, rfl⟩
    subst hw6
    obtain ⟨c0, c1, c2, cf⟩ := (S6.out.bk 3 rfl).c3
    go_wp2_with fail
    clear c0 c1 c2 cf
    refine (toDomain_t d0 _ _ (by exact S6.out.old HR0.out) (by have := HZ0.out; omega)).mono ?_
    rintro e w7 ⟨v7_, F7, rfl, o, h, b⟩
    obtain ⟨X7_0, x7_0, X7_1, x7_1, X7_2, x7_2, rfl, _, _, _⟩ := rdDomain_t (Tr.own_rd _ _ _ o)
    have S7 := Lib.hid ((S6.out.new o h b).box 40 [.slice X7_0 d0.mn.length x7_0, .slice X7_1 d0.mx.length x7_1, .slice X7_2 d0.md.length x7_2])
    clear S6 o h b
    obtain ⟨x0, x1, x2, xf⟩ := (S7.out.bk 0 rfl).c3
    have hlx := (S7.out.bk 0 rfl).lt
    obtain ⟨y0, y1, y2, yf⟩ := (S7.out.bk 4 rfl).c3
    have hly := (S7.out.bk 4 rfl).lt
    go_wp2_with fail
    generalize World.alloc w7 _ = wq at S7 x0 x1 x2 y0 y1 y2 hlx hly ⊢
    have HX0 := Lib.hid (S7.out.rd 1 rfl)
    obtain ⟨LL, hS, hLL⟩ := (show ∀ X : List Item, Sn w wq X → ∃ LL, Sn w wq LL ∧ LL = X from fun X h => ⟨X, h, rfl⟩) _ S7.out
    have S8 := Lib.hid hS
    have HLL := Lib.hid hLL
    clear hS hLL S7
    go_cut [8] from 25 to 28 (fun s wx => ∃ (gb : Nat) (X0 : Option Addr) (x0 : Nat) (X1 : Option Addr) (x1 : Nat) (X2 : Option Addr) (x2 : Nat) (F : List Nat), s = .pointer (some ⟨gb, 0, none⟩) ∧ Sn w wx (boxI gb 40 [.slice X0 (restD d0 d1).mn.length x0, .slice X1 (restD d0 d1).mx.length x1, .slice X2 (restD d0 d1).md.length x2] :: ⟨trDm (restD d0 d1), .agg #[.slice X0 (restD d0 d1).mn.length x0, .slice X1 (restD d0 d1).mx.length x1, .slice X2 (restD d0 d1).md.length x2], F⟩ :: LL))
    case first =>
      have S9 := Lib.hid S8.out.drew1
      clear S8
      have CE := Lib.hid (fun (W : World) (h : Below wq.heap.size wq W) => show Hid (Below wq.heap.size wq W) ∧ W.cell? ⟨w7.heap.size, 0, none⟩ = some (.slice X7_0 d0.mn.length x7_0) ∧ W.cell? ⟨w7.heap.size, 1, none⟩ = some (.slice X7_1 d0.mx.length x7_1) ∧ W.cell? ⟨w7.heap.size, 2, none⟩ = some (.slice X7_2 d0.md.length x7_2) ∧ W.cell? ⟨w.heap.size + 1, 0, none⟩ = some (.int .i64 d1.ki) ∧ W.cell? ⟨w.heap.size + 1, 1, none⟩ = some (.int .i64 d1.ac) ∧ W.cell? ⟨w.heap.size + 1, 2, none⟩ = some (.int .i64 d1.va) from ⟨Lib.hid h, (h.cell (p := ⟨w7.heap.size, 0, none⟩) hlx).trans (by simpa using x0), (h.cell (p := ⟨w7.heap.size, 1, none⟩) hlx).trans (by simpa using x1), (h.cell (p := ⟨w7.heap.size, 2, none⟩) hlx).trans (by simpa using x2), (h.cell (p := ⟨w.heap.size + 1, 0, none⟩) hly).trans (by simpa using y0), (h.cell (p := ⟨w.heap.size + 1, 1, none⟩) hly).trans (by simpa using y1), (h.cell (p := ⟨w.heap.size + 1, 2, none⟩) hly).trans (by simpa using y2)⟩)
      refine wp_region_held_drew (S := fun W => Hid (Below wq.heap.size wq W) ∧ W.cell? ⟨w7.heap.size, 0, none⟩ = some (.slice X7_0 d0.mn.length x7_0) ∧ W.cell? ⟨w7.heap.size, 1, none⟩ = some (.slice X7_1 d0.mx.length x7_1) ∧ W.cell? ⟨w7.heap.size, 2, none⟩ = some (.slice X7_2 d0.md.length x7_2) ∧ W.cell? ⟨w.heap.size + 1, 0, none⟩ = some (.int .i64 d1.ki) ∧ W.cell? ⟨w.heap.size + 1, 1, none⟩ = some (.int .i64 d1.ac) ∧ W.cell? ⟨w.heap.size + 1, 2, none⟩ = some (.int .i64 d1.va)) (by kernel_rfl) (CE.out _ (Below.refl _ _).drew) (fun hHeld => ?_)
      clear x0 x1 x2 xf hlx y0 y1 y2 yf hly
      have B9 := Lib.hid ((Below.refl wq.heap.size wq).drew)
      generalize hwd : wq.drew = wd at S9 B9 hHeld ⊢
      clear hwd
      refine wpAnyH_take (i := 0) (v := ?_) rfl (by kernel_rfl) (by kernel_rfl) (by kernel_rfl) (fun _ _ _ h => h) (Or.inl ⟨by rfl, ?_⟩) (by assumption) ?_
      rotate_left
      · (intro W hSw; (try dsimp only at hSw); go_simp <;> with_reducible rfl)
      (try simp only [Act.put, List.getElem_toArray, List.getElem_cons_zero, List.setIfInBounds_toArray, List.set_cons_succ, List.set_cons_zero])
      refine wpAnyH_take (i := 1) (v := ?_) rfl (by kernel_rfl) (by kernel_rfl) (by kernel_rfl) (fun _ _ _ h => h) (Or.inl ⟨by rfl, ?_⟩) (by assumption) ?_
      rotate_left
      · (intro W hSw; (try dsimp only at hSw); go_simp <;> with_reducible rfl)
      (try simp only [Act.put, List.getElem_toArray, List.getElem_cons_succ, List.getElem_cons_zero, List.setIfInBounds_toArray, List.set_cons_succ, List.set_cons_zero])
      refine wpAnyH_ready (rs := [2, 4]) (by kernel_rfl) (by simp) ?_
      refine AllReadyH.cons rfl (fun K hK => ?_) ?_
      · go_simp
        refine (toLiteral_t d1 _ _ (by exact S9.out.old HR1.out) (by show szL _ ≤ _; simp [szL, cellsLt, Tr.sz])).mono ?_
        rintro e w10 ⟨v10_, F10, rfl, o, h, bb⟩
        obtain rfl := rdLiteral_t (Tr.own_rd _ _ _ o)
        have S10 := Lib.hid (S9.out.new o h bb)
        have B10 := Lib.hid (B9.out.trans (bb.mono B9.out.size))
        (first | done | go_wp2_with fail | skip)
        refine hK.out _ _ (CE.out _ B10.out) (fun hHeld10 => ?_)
        clear hK K bb o h S9 B9
        refine wpAnyH_ready (rs := [3, 4]) (by kernel_rfl) (by simp) ?_
        refine AllReadyH.cons rfl (fun K hK => ?_) ?_
        · go_simp
          refine (implRestrict_any d0 d1 _ _ (by exact Tr.rd_below B10.out (Nat.le_refl _) _ _ HX0.out) (by have := HZ0.out; omega)).mono ?_
          rintro e w11 ⟨v11_, F11, rfl, o, h, bb⟩
          obtain ⟨Y11_0, y11_0, Y11_1, y11_1, Y11_2, y11_2, rfl, _, _, _⟩ := rdDomain_t (Tr.own_rd _ _ _ o)
          have S11 := Lib.hid (S10.out.new o h bb)
          have B11 := Lib.hid (B10.out.trans (bb.mono B10.out.size))
          (first | done | go_wp2_with fail | skip)
          refine hK.out _ _ (CE.out _ B11.out) (fun hHeld11 => ?_)
          clear hK K bb o h S10 B10
          refine wpAnyH_ready (rs := [4]) (by kernel_rfl) (by simp) ?_
          refine AllReadyH.cons rfl (fun K hK => ?_) AllReadyH.nil
          go_simp
          have S12 := Lib.hid (S11.out.box 40 [.slice none 0 0, .slice none 0 0, .slice none 0 0])
          have B12 := Lib.hid (B11.out.alloc B11.out.size (.cells #[.slice none 0 0, .slice none 0 0, .slice none 0 0] 40))
          have hg0 : wq.heap.size ≤ w11.heap.size := B11.out.size
          refine hK.out _ _ (CE.out _ B12.out) (fun hHeld12 => ?_)
          generalize hgg : w11.heap.size = gb at S12 B12 hg0 hHeld12 ⊢
          generalize World.alloc w11 _ = w12 at S12 B12 hHeld12 ⊢
          clear hK K hgg S11 B11
          obtain ⟨h_0, h_1, h_2, h_f⟩ := (S12.out.bk 0 rfl).c3
          refine wpAnyH_ready (rs := [5]) (by kernel_rfl) (by simp) ?_
          refine AllReadyH.cons rfl (fun K hK => ?_) AllReadyH.nil
          go_simp
          have S13 := Lib.hid (((S12.out.boxSet 0 rfl 0 (.slice Y11_0 (restD d0 d1).mn.length y11_0)).boxSet 0 rfl 1 (.slice Y11_1 (restD d0 d1).mx.length y11_1)).boxSet 0 rfl 2 (.slice Y11_2 (restD d0 d1).md.length y11_2))
          simp only [List.set_cons_zero, List.set_cons_succ] at S13
          refine hK.out _ _ (CE.out _ (((B12.out.setCell (by exact hg0) _).setCell (by exact hg0) _).setCell (by exact hg0) _)) (fun hHeld13 => ?_)
          clear hK K h_0 h_1 h_2 h_f S12
          refine wpAnyH_done (by kernel_rfl) ?_ _
          go_wp2_with fail
          go_meet
          case rel => exact ⟨_, _, _, _, _, _, _, _, rfl, (((S13.out.pick 1 rfl).pick 1 rfl).drop 2)⟩
        refine AllReadyH.cons rfl (fun K hK => ?_) AllReadyH.nil
        go_simp
        have S11 := Lib.hid (S10.out.box 40 [.slice none 0 0, .slice none 0 0, .slice none 0 0])
        have B11 := Lib.hid (B10.out.alloc B10.out.size (.cells #[.slice none 0 0, .slice none 0 0, .slice none 0 0] 40))
        have hg0 : wq.heap.size ≤ w10.heap.size := B10.out.size
        refine hK.out _ _ (CE.out _ B11.out) (fun hHeld11 => ?_)
        generalize hgg : w10.heap.size = gb at S11 B11 hg0 hHeld11 ⊢
        generalize World.alloc w10 _ = w11 at S11 B11 hHeld11 ⊢
        clear hK K hgg S10 B10
        refine wpAnyH_ready (rs := [3]) (by kernel_rfl) (by simp) ?_
        refine AllReadyH.cons rfl (fun K hK => ?_) AllReadyH.nil
        go_simp
        refine (implRestrict_any d0 d1 _ _ (by exact Tr.rd_below B11.out (Nat.le_refl _) _ _ HX0.out) (by have := HZ0.out; omega)).mono ?_
        rintro e w12 ⟨v12_, F12, rfl, o, h, bb⟩
        obtain ⟨Y12_0, y12_0, Y12_1, y12_1, Y12_2, y12_2, rfl, _, _, _⟩ := rdDomain_t (Tr.own_rd _ _ _ o)
        have S12 := Lib.hid (S11.out.new o h bb)
        have B12 := Lib.hid (B11.out.trans (bb.mono B11.out.size))
        (first | done | go_wp2_with fail | skip)
        refine hK.out _ _ (CE.out _ B12.out) (fun hHeld12 => ?_)
        clear hK K bb o h S11 B11
        obtain ⟨h_0, h_1, h_2, h_f⟩ := (S12.out.bk 1 rfl).c3
        refine wpAnyH_ready (rs := [5]) (by kernel_rfl) (by simp) ?_
        refine AllReadyH.cons rfl (fun K hK => ?_) AllReadyH.nil
        go_simp
        have S13 := Lib.hid (((S12.out.boxSet 1 rfl 0 (.slice Y12_0 (restD d0 d1).mn.length y12_0)).boxSet 1 rfl 1 (.slice Y12_1 (restD d0 d1).mx.length y12_1)).boxSet 1 rfl 2 (.slice Y12_2 (restD d0 d1).md.length y12_2))
        simp only [List.set_cons_zero, List.set_cons_succ] at S13
        refine hK.out _ _ (CE.out _ (((B12.out.setCell (by exact hg0) _).setCell (by exact hg0) _).setCell (by exact hg0) _)) (fun hHeld13 => ?_)
        clear hK K h_0 h_1 h_2 h_f S12
        refine wpAnyH_done (by kernel_rfl) ?_ _
        go_wp2_with fail
        go_meet
        case rel => exact ⟨_, _, _, _, _, _, _, _, rfl, (((S13.out.pick 0 rfl).pick 1 rfl).drop 2)⟩
      refine AllReadyH.cons rfl (fun K hK => ?_) AllReadyH.nil
      go_simp
      have S10 := Lib.hid (S9.out.box 40 [.slice none 0 0, .slice none 0 0, .slice none 0 0])
      have B10 := Lib.hid (B9.out.alloc B9.out.size (.cells #[.slice none 0 0, .slice none 0 0, .slice none 0 0] 40))
      have hg0 : wq.heap.size ≤ wd.heap.size := B9.out.size
      refine hK.out _ _ (CE.out _ B10.out) (fun hHeld10 => ?_)
      generalize hgg : wd.heap.size = gb at S10 B10 hg0 hHeld10 ⊢
      generalize World.alloc wd _ = w10 at S10 B10 hHeld10 ⊢
      clear hK K hgg S9 B9
      refine wpAnyH_ready (rs := [2]) (by kernel_rfl) (by simp) ?_
      refine AllReadyH.cons rfl (fun K hK => ?_) AllReadyH.nil
      go_simp
      refine (toLiteral_t d1 _ _ (by exact S10.out.old HR1.out) (by show szL _ ≤ _; simp [szL, cellsLt, Tr.sz])).mono ?_
      rintro e w11 ⟨v11_, F11, rfl, o, h, bb⟩
      obtain rfl := rdLiteral_t (Tr.own_rd _ _ _ o)
      have S11 := Lib.hid (S10.out.new o h bb)
      have B11 := Lib.hid (B10.out.trans (bb.mono B10.out.size))
      (first | done | go_wp2_with fail | skip)
      refine hK.out _ _ (CE.out _ B11.out) (fun hHeld11 => ?_)
      clear hK K bb o h S10 B10
      refine wpAnyH_ready (rs := [3]) (by kernel_rfl) (by simp) ?_
      refine AllReadyH.cons rfl (fun K hK => ?_) AllReadyH.nil
      go_simp
      refine (implRestrict_any d0 d1 _ _ (by exact Tr.rd_below B11.out (Nat.le_refl _) _ _ HX0.out) (by have := HZ0.out; omega)).mono ?_
      rintro e w12 ⟨v12_, F12, rfl, o, h, bb⟩
      obtain ⟨Y12_0, y12_0, Y12_1, y12_1, Y12_2, y12_2, rfl, _, _, _⟩ := rdDomain_t (Tr.own_rd _ _ _ o)
      have S12 := Lib.hid (S11.out.new o h bb)
      have B12 := Lib.hid (B11.out.trans (bb.mono B11.out.size))
      (first | done | go_wp2_with fail | skip)
      refine hK.out _ _ (CE.out _ B12.out) (fun hHeld12 => ?_)
      clear hK K bb o h S11 B11
      obtain ⟨h_0, h_1, h_2, h_f⟩ := (S12.out.bk 2 rfl).c3
      refine wpAnyH_ready (rs := [5]) (by kernel_rfl) (by simp) ?_
      refine AllReadyH.cons rfl (fun K hK => ?_) AllReadyH.nil
      go_simp
      have S13 := Lib.hid (((S12.out.boxSet 2 rfl 0 (.slice Y12_0 (restD d0 d1).mn.length y12_0)).boxSet 2 rfl 1 (.slice Y12_1 (restD d0 d1).mx.length y12_1)).boxSet 2 rfl 2 (.slice Y12_2 (restD d0 d1).md.length y12_2))
      simp only [List.set_cons_zero, List.set_cons_succ] at S13
      refine hK.out _ _ (CE.out _ (((B12.out.setCell (by exact hg0) _).setCell (by exact hg0) _).setCell (by exact hg0) _)) (fun hHeld13 => ?_)
      clear hK K h_0 h_1 h_2 h_f S12
      refine wpAnyH_done (by kernel_rfl) ?_ _
      go_wp2_with fail
      go_meet
      case rel => exact ⟨_, _, _, _, _, _, _, _, rfl, (((S13.out.pick 0 rfl).pick 2 rfl).drop 2)⟩
    case rest =>
      obtain ⟨gb10, X10_0, x10_0, X10_1, x10_1, X10_2, x10_2, FF10, rfl, hS⟩ := hcut
      obtain rfl := HLL.out
      have S10 := Lib.hid hS
      clear hS S8 x0 x1 x2 xf hlx y0 y1 y2 yf hly
      obtain ⟨w10, hw10⟩ : ∃ x, x = wc := ⟨_, rfl⟩
      subst hw10
      obtain ⟨c0, c1, c2, cf⟩ := (S10.out.bk 0 rfl).c3
      obtain ⟨x0, x1, x2, xf⟩ := (S10.out.bk 4 rfl).c3
      go_wp2_with fail
      clear c0 c1 c2 cf x0 x1 x2 xf
      refine (eqDomain_t (restD d0 d1) _ _ _ (by exact S10.out.rd 1 rfl) (by exact S10.out.rd 5 rfl)).mono ?_
      rintro e w11 ⟨rfl, b⟩
      have S11 := Lib.hid (S10.out.go b)
      clear S10 b
      obtain ⟨c0, c1, c2, cf⟩ := (S11.out.bk 2 rfl).c3
      obtain ⟨g0, g1, g2, gf⟩ := (S11.out.bk 7 rfl).c3
      have hlc := (S11.out.bk 2 rfl).lt
      have hlg := (S11.out.bk 7 rfl).lt
      have S12 := Lib.hid (S11.out.drew1)
      clear S11
      go_wp2_with fail
      have CE := Lib.hid (fun (W : World) (h : Wr [] w11.drew W) => show Hid (Wr [] w11.drew W) ∧ W.cell? ⟨w7.heap.size, 0, none⟩ = some (.slice X7_0 d0.mn.length x7_0) ∧ W.cell? ⟨w7.heap.size, 1, none⟩ = some (.slice X7_1 d0.mx.length x7_1) ∧ W.cell? ⟨w7.heap.size, 2, none⟩ = some (.slice X7_2 d0.md.length x7_2) ∧ W.cell? ⟨w.heap.size, 0, none⟩ = some (.slice U0_0 d0.mn.length u0_0) ∧ W.cell? ⟨w.heap.size, 1, none⟩ = some (.slice U0_1 d0.mx.length u0_1) ∧ W.cell? ⟨w.heap.size, 2, none⟩ = some (.slice U0_2 d0.md.length u0_2) from ⟨Lib.hid h, (wr_cell h (p := ⟨w7.heap.size, 0, none⟩) hlc (by simp)).trans (by simpa using c0), (wr_cell h (p := ⟨w7.heap.size, 1, none⟩) hlc (by simp)).trans (by simpa using c1), (wr_cell h (p := ⟨w7.heap.size, 2, none⟩) hlc (by simp)).trans (by simpa using c2), (wr_cell h (p := ⟨w.heap.size, 0, none⟩) hlg (by simp)).trans (by simpa using g0), (wr_cell h (p := ⟨w.heap.size, 1, none⟩) hlg (by simp)).trans (by simpa using g1), (wr_cell h (p := ⟨w.heap.size, 2, none⟩) hlg (by simp)).trans (by simpa using g2)⟩)
      have INIT := Lib.hid (CE.out _ (Wr.refl _ _))
      have KW := Lib.hid (fun (W2 W : World) (hb : Below W.heap.size W W2) (h : Hid (Wr [] w11.drew W) ∧ W.cell? ⟨w7.heap.size, 0, none⟩ = some (.slice X7_0 d0.mn.length x7_0) ∧ W.cell? ⟨w7.heap.size, 1, none⟩ = some (.slice X7_1 d0.mx.length x7_1) ∧ W.cell? ⟨w7.heap.size, 2, none⟩ = some (.slice X7_2 d0.md.length x7_2) ∧ W.cell? ⟨w.heap.size, 0, none⟩ = some (.slice U0_0 d0.mn.length u0_0) ∧ W.cell? ⟨w.heap.size, 1, none⟩ = some (.slice U0_1 d0.mx.length u0_1) ∧ W.cell? ⟨w.heap.size, 2, none⟩ = some (.slice U0_2 d0.md.length u0_2)) => CE.out W2 (h.1.out.trans (Wr.of_below hb (Nat.le_refl _))))
      clear c0 c1 c2 cf g0 g1 g2 gf hlc hlg
      go_region_held3 (fun W => Hid (Wr [] w11.drew W) ∧ W.cell? ⟨w7.heap.size, 0, none⟩ = some (.slice X7_0 d0.mn.length x7_0) ∧ W.cell? ⟨w7.heap.size, 1, none⟩ = some (.slice X7_1 d0.mx.length x7_1) ∧ W.cell? ⟨w7.heap.size, 2, none⟩ = some (.slice X7_2 d0.md.length x7_2) ∧ W.cell? ⟨w.heap.size, 0, none⟩ = some (.slice U0_0 d0.mn.length u0_0) ∧ W.cell? ⟨w.heap.size, 1, none⟩ = some (.slice U0_1 d0.mx.length u0_1) ∧ W.cell? ⟨w.heap.size, 2, none⟩ = some (.slice U0_2 d0.md.length u0_2)) (first | exact INIT.out | exact KW.out _ _ (by assumption) (by assumption))
        (first
        | (go_at_call 12; refine (toDomain_t d0 _ _ (by exact S12.out.old HR0.out) (by have := HZ0.out; omega)).mono ?_; rintro e w13 ⟨v13_, F13, rfl, o, h, bb1⟩; have S13 := Lib.hid (S12.out.new o h bb1); clear S12 o h)
        | (go_at_call 15; refine (eqDomain_t d0 _ _ _ (by exact S13.out.rd 4 rfl) (by exact S13.out.rd 0 rfl)).mono ?_; rintro e w14 ⟨rfl, bb2⟩; have S14 := Lib.hid (S13.out.go bb2); clear S13))
      rename_i hHeld
      clear hHeld CE INIT KW bb1 bb2
      have hcnt0 : cntO (cellsDm d0) ≤ 8388608 := by
        have h1 := cntO_le (cellsDm d0) (thin_DomainL d0)
        have h2 : (trDm d0).sz = szL (cellsDm d0) := rfl
        have h3 : (trDm d0).sz ≤ 1048576 := by have := HZ0.out; omega
        omega
      obtain ⟨c0, c1, c2, cf⟩ := (S14.out.bk 3 rfl).c3
      go_wp2_with fail
      clear c0 c1 c2 cf
      refine (markDomain_t (1) _ (d0) _ _ _ (by exact (S14.out.own 4 rfl).1) (by exact (S14.out.own 4 rfl).2) (by omega) (by omega)).mono ?_
      rintro e w15 ⟨F15, rfl, o, h, hs, g⟩
      have S15 := Lib.hid (S14.out.mark 4 rfl o h hs g)
      clear S14 o h hs g
      obtain ⟨c0, c1, c2, cf⟩ := (S15.out.bk 1 rfl).c3
      obtain ⟨x0, x1, x2, xf⟩ := (S15.out.bk 5 rfl).c3
      go_wp2_with fail
      clear c0 c1 c2 cf x0 x1 x2 xf
      refine (eqDomain_t (restD d0 d1) _ _ _ (by exact S15.out.rd 2 rfl) (by exact S15.out.rd 6 rfl)).mono ?_
      rintro e w16 ⟨rfl, b⟩
      have S16 := Lib.hid (S15.out.go b)
      clear S15 b
      have hcr0 : cntO (cellsDm (restD d0 d1)) ≤ 8388608 := by
        have h1 := cntO_le (cellsDm (restD d0 d1)) (thin_DomainL (restD d0 d1))
        have h2 : (trDm (restD d0 d1)).sz = szL (cellsDm (restD d0 d1)) := rfl
        have h3 : (trDm (restD d0 d1)).sz ≤ 1048576 := by have := hn0; have := HZ0.out; omega
        omega
      obtain ⟨c0, c1, c2, cf⟩ := (S16.out.bk 1 rfl).c3
      go_wp2_with fail
      clear c0 c1 c2 cf
      refine (markDomain_t (1) _ (restD d0 d1) _ _ _ (by exact (S16.out.own 2 rfl).1) (by exact (S16.out.own 2 rfl).2) (by omega) (by omega)).mono ?_
      rintro e w17 ⟨F17, rfl, o, h, hs, g⟩
      have S17 := Lib.hid (S16.out.mark 2 rfl o h hs g)
      clear S16 o h hs g
      obtain ⟨c0, c1, c2, cf⟩ := (S17.out.bk 1 rfl).c3
      go_wp2_with fail
      clear c0 c1 c2 cf
      refine (heldDomain_t (1) (restD d0 d1) _ _ (by exact S17.out.rd 2 rfl) (by omega) (by omega)).mono ?_
      rintro e w18 ⟨rfl, b⟩
      have S18 := Lib.hid (S17.out.go b)
      clear S17 b
      obtain ⟨x0, x1, x2, xf⟩ := (S18.out.bk 8 rfl).c3
      have hlx := (S18.out.bk 8 rfl).lt
      obtain ⟨y0, y1, y2, yf⟩ := (S18.out.bk 7 rfl).c3
      have hly := (S18.out.bk 7 rfl).lt
      go_wp2_with fail
      obtain ⟨LL, hS, hLL⟩ := (show ∀ X : List Item, Sn w w18 X → ∃ LL, Sn w w18 LL ∧ LL = X from fun X h => ⟨X, h, rfl⟩) _ S18.out
      have S19 := Lib.hid hS
      have HLL := Lib.hid hLL
      clear hS hLL S18
      go_cut [12] from 60 to 64 (fun s wx => ∃ (gb : Nat) (X0 : Option Addr) (x0 : Nat) (X1 : Option Addr) (x1 : Nat) (X2 : Option Addr) (x2 : Nat) (F : List Nat), s = .pointer (some ⟨gb, 0, none⟩) ∧ Sn w wx (boxI gb 40 [.slice X0 (restD d0 d1).mn.length x0, .slice X1 (restD d0 d1).mx.length x1, .slice X2 (restD d0 d1).md.length x2] :: ⟨trDm (restD d0 d1), .agg #[.slice X0 (restD d0 d1).mn.length x0, .slice X1 (restD d0 d1).mx.length x1, .slice X2 (restD d0 d1).md.length x2], F⟩ :: LL))
      case first =>
        have S20 := Lib.hid S19.out.drew1
        clear S19
        have CE := Lib.hid (fun (W : World) (h : Below w18.heap.size w18 W) => show Hid (Below w18.heap.size w18 W) ∧ W.cell? ⟨w.heap.size, 0, none⟩ = some (.slice U0_0 d0.mn.length u0_0) ∧ W.cell? ⟨w.heap.size, 1, none⟩ = some (.slice U0_1 d0.mx.length u0_1) ∧ W.cell? ⟨w.heap.size, 2, none⟩ = some (.slice U0_2 d0.md.length u0_2) ∧ W.cell? ⟨w.heap.size + 1, 0, none⟩ = some (.int .i64 d1.ki) ∧ W.cell? ⟨w.heap.size + 1, 1, none⟩ = some (.int .i64 d1.ac) ∧ W.cell? ⟨w.heap.size + 1, 2, none⟩ = some (.int .i64 d1.va) from ⟨Lib.hid h, (h.cell (p := ⟨w.heap.size, 0, none⟩) hlx).trans (by simpa using x0), (h.cell (p := ⟨w.heap.size, 1, none⟩) hlx).trans (by simpa using x1), (h.cell (p := ⟨w.heap.size, 2, none⟩) hlx).trans (by simpa using x2), (h.cell (p := ⟨w.heap.size + 1, 0, none⟩) hly).trans (by simpa using y0), (h.cell (p := ⟨w.heap.size + 1, 1, none⟩) hly).trans (by simpa using y1), (h.cell (p := ⟨w.heap.size + 1, 2, none⟩) hly).trans (by simpa using y2)⟩)
        refine wp_region_held_drew (S := fun W => Hid (Below w18.heap.size w18 W) ∧ W.cell? ⟨w.heap.size, 0, none⟩ = some (.slice U0_0 d0.mn.length u0_0) ∧ W.cell? ⟨w.heap.size, 1, none⟩ = some (.slice U0_1 d0.mx.length u0_1) ∧ W.cell? ⟨w.heap.size, 2, none⟩ = some (.slice U0_2 d0.md.length u0_2) ∧ W.cell? ⟨w.heap.size + 1, 0, none⟩ = some (.int .i64 d1.ki) ∧ W.cell? ⟨w.heap.size + 1, 1, none⟩ = some (.int .i64 d1.ac) ∧ W.cell? ⟨w.heap.size + 1, 2, none⟩ = some (.int .i64 d1.va)) (by kernel_rfl) (CE.out _ (Below.refl _ _).drew) (fun hHeld => ?_)
        clear x0 x1 x2 xf hlx y0 y1 y2 yf hly
        have B20 := Lib.hid ((Below.refl w18.heap.size w18).drew)
        generalize hwd : w18.drew = wd at S20 B20 hHeld ⊢
        clear hwd
        refine wpAnyH_take (i := 0) (v := ?_) rfl (by kernel_rfl) (by kernel_rfl) (by kernel_rfl) (fun _ _ _ h => h) (Or.inl ⟨by rfl, ?_⟩) (by assumption) ?_
        rotate_left
        · (intro W hSw; (try dsimp only at hSw); go_simp <;> with_reducible rfl)
        (try simp only [Act.put, List.getElem_toArray, List.getElem_cons_zero, List.setIfInBounds_toArray, List.set_cons_succ, List.set_cons_zero])
        refine wpAnyH_take (i := 2) (v := ?_) rfl (by kernel_rfl) (by kernel_rfl) (by kernel_rfl) (fun _ _ _ h => h) (Or.inl ⟨by rfl, ?_⟩) (by assumption) ?_
        rotate_left
        · (intro W hSw; (try dsimp only at hSw); go_simp <;> with_reducible rfl)
        (try simp only [Act.put, List.getElem_toArray, List.getElem_cons_succ, List.getElem_cons_zero, List.setIfInBounds_toArray, List.set_cons_succ, List.set_cons_zero])
        refine wpAnyH_ready (rs := [1, 5]) (by kernel_rfl) (by simp) ?_
        refine AllReadyH.cons rfl (fun K hK => ?_) ?_
        · go_simp
          refine (toDomain_t d0 _ _ (by exact S20.out.old HR0.out) (by have := HZ0.out; omega)).mono ?_
          rintro e w21 ⟨v21_, F21, rfl, o, h, bb⟩
          have S21 := Lib.hid (S20.out.new o h bb)
          have B21 := Lib.hid (B20.out.trans (bb.mono B20.out.size))
          (first | done | go_wp2_with fail | skip)
          refine hK.out _ _ (CE.out _ B21.out) (fun hHeld21 => ?_)
          clear hK K bb o h S20 B20
          refine wpAnyH_ready (rs := [3, 5]) (by kernel_rfl) (by simp) ?_
          refine AllReadyH.cons rfl (fun K hK => ?_) ?_
          · go_simp
            refine (toLiteral_t d1 _ _ (by exact S21.out.old HR1.out) (by show szL _ ≤ _; simp [szL, cellsLt, Tr.sz])).mono ?_
            rintro e w22 ⟨v22_, F22, rfl, o, h, bb⟩
            obtain rfl := rdLiteral_t (Tr.own_rd _ _ _ o)
            have S22 := Lib.hid (S21.out.new o h bb)
            have B22 := Lib.hid (B21.out.trans (bb.mono B21.out.size))
            (first | done | go_wp2_with fail | skip)
            refine hK.out _ _ (CE.out _ B22.out) (fun hHeld22 => ?_)
            clear hK K bb o h S21 B21
            refine wpAnyH_ready (rs := [4, 5]) (by kernel_rfl) (by simp) ?_
            refine AllReadyH.cons rfl (fun K hK => ?_) ?_
            · go_simp
              refine (implRestrict_any d0 d1 _ _ (by exact S22.out.rd 1 rfl) (by have := HZ0.out; omega)).mono ?_
              rintro e w23 ⟨v23_, F23, rfl, o, h, bb⟩
              obtain ⟨Y23_0, y23_0, Y23_1, y23_1, Y23_2, y23_2, rfl, _, _, _⟩ := rdDomain_t (Tr.own_rd _ _ _ o)
              have S23 := Lib.hid (S22.out.new o h bb)
              have B23 := Lib.hid (B22.out.trans (bb.mono B22.out.size))
              (first | done | go_wp2_with fail | skip)
              refine hK.out _ _ (CE.out _ B23.out) (fun hHeld23 => ?_)
              clear hK K bb o h S22 B22
              refine wpAnyH_ready (rs := [5]) (by kernel_rfl) (by simp) ?_
              refine AllReadyH.cons rfl (fun K hK => ?_) AllReadyH.nil
              go_simp
              have S24 := Lib.hid (S23.out.box 40 [.slice none 0 0, .slice none 0 0, .slice none 0 0])
              have B24 := Lib.hid (B23.out.alloc B23.out.size (.cells #[.slice none 0 0, .slice none 0 0, .slice none 0 0] 40))
              have hg0 : w18.heap.size ≤ w23.heap.size := B23.out.size
              refine hK.out _ _ (CE.out _ B24.out) (fun hHeld24 => ?_)
              generalize hgg : w23.heap.size = gb at S24 B24 hg0 hHeld24 ⊢
              generalize World.alloc w23 _ = w24 at S24 B24 hHeld24 ⊢
              clear hK K hgg S23 B23
              obtain ⟨h_0, h_1, h_2, h_f⟩ := (S24.out.bk 0 rfl).c3
              refine wpAnyH_ready (rs := [6]) (by kernel_rfl) (by simp) ?_
              refine AllReadyH.cons rfl (fun K hK => ?_) AllReadyH.nil
              go_simp
              have S25 := Lib.hid (((S24.out.boxSet 0 rfl 0 (.slice Y23_0 (restD d0 d1).mn.length y23_0)).boxSet 0 rfl 1 (.slice Y23_1 (restD d0 d1).mx.length y23_1)).boxSet 0 rfl 2 (.slice Y23_2 (restD d0 d1).md.length y23_2))
              simp only [List.set_cons_zero, List.set_cons_succ] at S25
              refine hK.out _ _ (CE.out _ (((B24.out.setCell (by exact hg0) _).setCell (by exact hg0) _).setCell (by exact hg0) _)) (fun hHeld25 => ?_)
              clear hK K h_0 h_1 h_2 h_f S24
              refine wpAnyH_done (by kernel_rfl) ?_ _
              go_wp2_with fail
              go_meet
              case rel => exact ⟨_, _, _, _, _, _, _, _, rfl, ((((S25.out.pick 1 rfl).pick 1 rfl).drop 2).drop 2)⟩
            refine AllReadyH.cons rfl (fun K hK => ?_) AllReadyH.nil
            go_simp
            have S23 := Lib.hid (S22.out.box 40 [.slice none 0 0, .slice none 0 0, .slice none 0 0])
            have B23 := Lib.hid (B22.out.alloc B22.out.size (.cells #[.slice none 0 0, .slice none 0 0, .slice none 0 0] 40))
            have hg0 : w18.heap.size ≤ w22.heap.size := B22.out.size
            refine hK.out _ _ (CE.out _ B23.out) (fun hHeld23 => ?_)
            generalize hgg : w22.heap.size = gb at S23 B23 hg0 hHeld23 ⊢
            generalize World.alloc w22 _ = w23 at S23 B23 hHeld23 ⊢
            clear hK K hgg S22 B22
            refine wpAnyH_ready (rs := [4]) (by kernel_rfl) (by simp) ?_
            refine AllReadyH.cons rfl (fun K hK => ?_) AllReadyH.nil
            go_simp
            refine (implRestrict_any d0 d1 _ _ (by exact S23.out.rd 2 rfl) (by have := HZ0.out; omega)).mono ?_
            rintro e w24 ⟨v24_, F24, rfl, o, h, bb⟩
            obtain ⟨Y24_0, y24_0, Y24_1, y24_1, Y24_2, y24_2, rfl, _, _, _⟩ := rdDomain_t (Tr.own_rd _ _ _ o)
            have S24 := Lib.hid (S23.out.new o h bb)
            have B24 := Lib.hid (B23.out.trans (bb.mono B23.out.size))
            (first | done | go_wp2_with fail | skip)
            refine hK.out _ _ (CE.out _ B24.out) (fun hHeld24 => ?_)
            clear hK K bb o h S23 B23
            obtain ⟨h_0, h_1, h_2, h_f⟩ := (S24.out.bk 1 rfl).c3
            refine wpAnyH_ready (rs := [6]) (by kernel_rfl) (by simp) ?_
            refine AllReadyH.cons rfl (fun K hK => ?_) AllReadyH.nil
            go_simp
            have S25 := Lib.hid (((S24.out.boxSet 1 rfl 0 (.slice Y24_0 (restD d0 d1).mn.length y24_0)).boxSet 1 rfl 1 (.slice Y24_1 (restD d0 d1).mx.length y24_1)).boxSet 1 rfl 2 (.slice Y24_2 (restD d0 d1).md.length y24_2))
            simp only [List.set_cons_zero, List.set_cons_succ] at S25
            refine hK.out _ _ (CE.out _ (((B24.out.setCell (by exact hg0) _).setCell (by exact hg0) _).setCell (by exact hg0) _)) (fun hHeld25 => ?_)
            clear hK K h_0 h_1 h_2 h_f S24
            refine wpAnyH_done (by kernel_rfl) ?_ _
            go_wp2_with fail
            go_meet
            case rel => exact ⟨_, _, _, _, _, _, _, _, rfl, ((((S25.out.pick 0 rfl).pick 1 rfl).drop 2).drop 2)⟩
          refine AllReadyH.cons rfl (fun K hK => ?_) AllReadyH.nil
          go_simp
          have S22 := Lib.hid (S21.out.box 40 [.slice none 0 0, .slice none 0 0, .slice none 0 0])
          have B22 := Lib.hid (B21.out.alloc B21.out.size (.cells #[.slice none 0 0, .slice none 0 0, .slice none 0 0] 40))
          have hg0 : w18.heap.size ≤ w21.heap.size := B21.out.size
          refine hK.out _ _ (CE.out _ B22.out) (fun hHeld22 => ?_)
          generalize hgg : w21.heap.size = gb at S22 B22 hg0 hHeld22 ⊢
          generalize World.alloc w21 _ = w22 at S22 B22 hHeld22 ⊢
          clear hK K hgg S21 B21
          refine wpAnyH_ready (rs := [3]) (by kernel_rfl) (by simp) ?_
          refine AllReadyH.cons rfl (fun K hK => ?_) AllReadyH.nil
          go_simp
          refine (toLiteral_t d1 _ _ (by exact S22.out.old HR1.out) (by show szL _ ≤ _; simp [szL, cellsLt, Tr.sz])).mono ?_
          rintro e w23 ⟨v23_, F23, rfl, o, h, bb⟩
          obtain rfl := rdLiteral_t (Tr.own_rd _ _ _ o)
          have S23 := Lib.hid (S22.out.new o h bb)
          have B23 := Lib.hid (B22.out.trans (bb.mono B22.out.size))
          (first | done | go_wp2_with fail | skip)
          refine hK.out _ _ (CE.out _ B23.out) (fun hHeld23 => ?_)
          clear hK K bb o h S22 B22
          refine wpAnyH_ready (rs := [4]) (by kernel_rfl) (by simp) ?_
          refine AllReadyH.cons rfl (fun K hK => ?_) AllReadyH.nil
          go_simp
          refine (implRestrict_any d0 d1 _ _ (by exact S23.out.rd 2 rfl) (by have := HZ0.out; omega)).mono ?_
          rintro e w24 ⟨v24_, F24, rfl, o, h, bb⟩
          obtain ⟨Y24_0, y24_0, Y24_1, y24_1, Y24_2, y24_2, rfl, _, _, _⟩ := rdDomain_t (Tr.own_rd _ _ _ o)
          have S24 := Lib.hid (S23.out.new o h bb)
          have B24 := Lib.hid (B23.out.trans (bb.mono B23.out.size))
          (first | done | go_wp2_with fail | skip)
          refine hK.out _ _ (CE.out _ B24.out) (fun hHeld24 => ?_)
          clear hK K bb o h S23 B23
          obtain ⟨h_0, h_1, h_2, h_f⟩ := (S24.out.bk 2 rfl).c3
          refine wpAnyH_ready (rs := [6]) (by kernel_rfl) (by simp) ?_
          refine AllReadyH.cons rfl (fun K hK => ?_) AllReadyH.nil
          go_simp
          have S25 := Lib.hid (((S24.out.boxSet 2 rfl 0 (.slice Y24_0 (restD d0 d1).mn.length y24_0)).boxSet 2 rfl 1 (.slice Y24_1 (restD d0 d1).mx.length y24_1)).boxSet 2 rfl 2 (.slice Y24_2 (restD d0 d1).md.length y24_2))
          simp only [List.set_cons_zero, List.set_cons_succ] at S25
          refine hK.out _ _ (CE.out _ (((B24.out.setCell (by exact hg0) _).setCell (by exact hg0) _).setCell (by exact hg0) _)) (fun hHeld25 => ?_)
          clear hK K h_0 h_1 h_2 h_f S24
          refine wpAnyH_done (by kernel_rfl) ?_ _
          go_wp2_with fail
          go_meet
          case rel => exact ⟨_, _, _, _, _, _, _, _, rfl, ((((S25.out.pick 0 rfl).pick 2 rfl).drop 2).drop 2)⟩
        refine AllReadyH.cons rfl (fun K hK => ?_) AllReadyH.nil
        go_simp
        have S21 := Lib.hid (S20.out.box 40 [.slice none 0 0, .slice none 0 0, .slice none 0 0])
        have B21 := Lib.hid (B20.out.alloc B20.out.size (.cells #[.slice none 0 0, .slice none 0 0, .slice none 0 0] 40))
        have hg0 : w18.heap.size ≤ wd.heap.size := B20.out.size
        refine hK.out _ _ (CE.out _ B21.out) (fun hHeld21 => ?_)
        generalize hgg : wd.heap.size = gb at S21 B21 hg0 hHeld21 ⊢
        generalize World.alloc wd _ = w21 at S21 B21 hHeld21 ⊢
        clear hK K hgg S20 B20
        refine wpAnyH_ready (rs := [1]) (by kernel_rfl) (by simp) ?_
        refine AllReadyH.cons rfl (fun K hK => ?_) AllReadyH.nil
        go_simp
        refine (toDomain_t d0 _ _ (by exact S21.out.old HR0.out) (by have := HZ0.out; omega)).mono ?_
        rintro e w22 ⟨v22_, F22, rfl, o, h, bb⟩
        have S22 := Lib.hid (S21.out.new o h bb)
        have B22 := Lib.hid (B21.out.trans (bb.mono B21.out.size))
        (first | done | go_wp2_with fail | skip)
        refine hK.out _ _ (CE.out _ B22.out) (fun hHeld22 => ?_)
        clear hK K bb o h S21 B21
        refine wpAnyH_ready (rs := [3]) (by kernel_rfl) (by simp) ?_
        refine AllReadyH.cons rfl (fun K hK => ?_) AllReadyH.nil
        go_simp
        refine (toLiteral_t d1 _ _ (by exact S22.out.old HR1.out) (by show szL _ ≤ _; simp [szL, cellsLt, Tr.sz])).mono ?_
        rintro e w23 ⟨v23_, F23, rfl, o, h, bb⟩
        obtain rfl := rdLiteral_t (Tr.own_rd _ _ _ o)
        have S23 := Lib.hid (S22.out.new o h bb)
        have B23 := Lib.hid (B22.out.trans (bb.mono B22.out.size))
        (first | done | go_wp2_with fail | skip)
        refine hK.out _ _ (CE.out _ B23.out) (fun hHeld23 => ?_)
        clear hK K bb o h S22 B22
        refine wpAnyH_ready (rs := [4]) (by kernel_rfl) (by simp) ?_
        refine AllReadyH.cons rfl (fun K hK => ?_) AllReadyH.nil
        go_simp
        refine (implRestrict_any d0 d1 _ _ (by exact S23.out.rd 1 rfl) (by have := HZ0.out; omega)).mono ?_
        rintro e w24 ⟨v24_, F24, rfl, o, h, bb⟩
        obtain ⟨Y24_0, y24_0, Y24_1, y24_1, Y24_2, y24_2, rfl, _, _, _⟩ := rdDomain_t (Tr.own_rd _ _ _ o)
        have S24 := Lib.hid (S23.out.new o h bb)
        have B24 := Lib.hid (B23.out.trans (bb.mono B23.out.size))
        (first | done | go_wp2_with fail | skip)
        refine hK.out _ _ (CE.out _ B24.out) (fun hHeld24 => ?_)
        clear hK K bb o h S23 B23
        obtain ⟨h_0, h_1, h_2, h_f⟩ := (S24.out.bk 3 rfl).c3
        refine wpAnyH_ready (rs := [6]) (by kernel_rfl) (by simp) ?_
        refine AllReadyH.cons rfl (fun K hK => ?_) AllReadyH.nil
        go_simp
        have S25 := Lib.hid (((S24.out.boxSet 3 rfl 0 (.slice Y24_0 (restD d0 d1).mn.length y24_0)).boxSet 3 rfl 1 (.slice Y24_1 (restD d0 d1).mx.length y24_1)).boxSet 3 rfl 2 (.slice Y24_2 (restD d0 d1).md.length y24_2))
        simp only [List.set_cons_zero, List.set_cons_succ] at S25
        refine hK.out _ _ (CE.out _ (((B24.out.setCell (by exact hg0) _).setCell (by exact hg0) _).setCell (by exact hg0) _)) (fun hHeld25 => ?_)
        clear hK K h_0 h_1 h_2 h_f S24
        refine wpAnyH_done (by kernel_rfl) ?_ _
        go_wp2_with fail
        go_meet
        case rel => exact ⟨_, _, _, _, _, _, _, _, rfl, ((((S25.out.pick 0 rfl).pick 3 rfl).drop 2).drop 2)⟩
      case rest =>
        obtain ⟨gb21, X21_0, x21_0, X21_1, x21_1, X21_2, x21_2, FF21, rfl, hS⟩ := hcut
        obtain rfl := HLL.out
        have S21 := Lib.hid hS
        clear hS S19 x0 x1 x2 xf hlx y0 y1 y2 yf hly
        obtain ⟨w21, hw21⟩ : ∃ x, x = wc := ⟨_, rfl⟩
        subst hw21
        obtain ⟨c0, c1, c2, cf⟩ := (S21.out.bk 0 rfl).c3
        obtain ⟨x0, x1, x2, xf⟩ := (S21.out.bk 7 rfl).c3
        go_wp2_with fail
        clear c0 c1 c2 cf x0 x1 x2 xf
        refine (eqDomain_t (restD d0 d1) _ _ _ (by exact S21.out.rd 1 rfl) (by exact S21.out.rd 8 rfl)).mono ?_
        rintro e w22 ⟨rfl, b⟩
        have S22 := Lib.hid (S21.out.go b)
        clear S21 b
        obtain ⟨c0, c1, c2, cf⟩ := (S22.out.bk 3 rfl).c3
        go_wp2_with fail
        clear c0 c1 c2 cf
        refine (heldDomain_t (1) (restD d0 d1) _ _ (by exact S22.out.rd 4 rfl) (by omega) (by omega)).mono ?_
        rintro e w23 ⟨rfl, b⟩
        have S23 := Lib.hid (S22.out.go b)
        clear S22 b
        go_wp2
        go_ret
        exact ⟨rfl, S23.out.1⟩
end Go.Proofs.Ytdbnhdiboemmiaa
