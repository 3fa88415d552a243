/- DERIVED. CONTRACT: CompareLiterals of the program, the world behind it in the sort's words. -/
import Derived.Test.YtgbpomakomddjabGreatDoorLtC
import Derived.Test.YtgbpomakomddjabGreatDoorClS
namespace Go.Proofs.YtgbpomakomddjabGreatDoor
open Go.RowKit Go.Shelf Go.Sort
set_option linter.unusedVariables false

/-- Draws and blocks behind a world. -/
def UpW (w w' : World) : Prop := ∃ q os, w' = grow (w.drewN q) os
theorem UpW.refl (w : World) : UpW w w := ⟨0, #[], by rw [grow_empty]; rfl⟩
theorem UpW.drew {w a : World} (h : UpW w a) : UpW w a.drew := by
  obtain ⟨q, os, rfl⟩ := h
  exact ⟨q + 1, os, rfl⟩
theorem UpW.alloc {w a : World} (h : UpW w a) (o : Obj) : UpW w (a.alloc o) := by
  obtain ⟨q, os, rfl⟩ := h
  exact ⟨q, _, by rw [alloc_eq_grow, grow_grow]⟩
theorem UpW.below {w a : World} (h : UpW w a) : Below w.heap.size w a := by
  obtain ⟨q, os, rfl⟩ := h
  exact ⟨rfl, rfl, rfl, by simp [grow, World.drewN], fun k hk => by simp [grow, World.drewN, Array.getElem?_append, hk]⟩
set_option maxRecDepth 100000 in
set_option maxHeartbeats 8000000 in
theorem compareE_any (x y : Int) (w : World) : Calls Tryz.prog 128 #[.int .i64 x, .int .i64 y] w fun e w' => e = .returned (.int .i64 (sgn x y)) ∧ w = w' := by
  by_cases h1 : x < y
  · rw [sgn_lt h1]
    go_enter Tryz.func128, Tryz.ntmps128
    go_wp2_with (first | (go_at_call 154; refine (isNaN_any _ _).mono ?_; rintro e w1 ⟨rfl, rfl⟩) | fail)
    go_ret
    exact ⟨rfl, rfl⟩
  by_cases h2 : y < x
  · rw [sgn_gt h2]
    go_enter Tryz.func128, Tryz.ntmps128
    go_wp2_with (first | (go_at_call 154; refine (isNaN_any _ _).mono ?_; rintro e w1 ⟨rfl, rfl⟩) | fail)
    go_ret
    exact ⟨rfl, rfl⟩
  · obtain rfl : x = y := by omega
    rw [sgn_eq]
    go_enter Tryz.func128, Tryz.ntmps128
    go_wp2_with (first | (go_at_call 154; refine (isNaN_any _ _).mono ?_; rintro e w1 ⟨rfl, rfl⟩) | fail)
    go_ret
    exact ⟨rfl, rfl⟩
set_option maxRecDepth 100000 in
set_option maxHeartbeats 8000000 in
theorem orE_any (l : List Int) (v : Value) (w : World) (hr : Rd w v (l.map (.int .i64))) :
    Calls Tryz.prog 127 #[v] w fun e w' => e = .returned (.int .i64 (orL l)) ∧ w = w' := by
  obtain ⟨hl, A, c, rfl, ga⟩ := rdI hr
  unfold maxLen at hl
  have GA := Lib.hid ga
  have HA := Lib.hid (fun k hk => @orL_at l k hk)
  have HZ := Lib.hid (@orL_no l)
  generalize orL l = res at HA HZ ⊢
  clear ga hr
  go_enter Tryz.func127, Tryz.ntmps127
  go_wp2
  go_loopw [8] (fun i wr => ∃ k : Nat, k ≤ l.length ∧ i = .int .i64 k ∧ w = wr ∧ ∀ j, (hj : j < l.length) → j < k → l[j] = 0) (fun i _ => l.length - (intOf i).toNat)
  case atStart => exact ⟨0, Nat.zero_le _, rfl, by trivial, fun j _ h => absurd h (by omega)⟩
  case round =>
    obtain ⟨k, hkl, rfl, rfl, hall⟩ := hrel
    by_cases hlt : k < l.length
    · have hlt' : (k : Int) < (l.length : Int) := by omega
      have k0 : (0 : Int) ≤ (k : Int) := by omega
      obtain ⟨b, o, rfl, hb, hc⟩ := GA.out k hlt
      have hx := hc k hlt
      clear hc
      by_cases hn : l[k] = 0
      · have STEP := Lib.hid (step_all (p := fun y : Int => y = 0) hlt hall hn)
        rw [hn] at hx
        clear hall hn
        go_wp2
        go_roundw
        case rel => exact ⟨k + 1, by omega, by go_num, by trivial, STEP.out⟩
        case measure => simp [intOf]; omega
      · have HN := Lib.hid (HA.out k hlt hall hn)
        have hne : (l[k] == 0) = false := by simpa using hn
        clear hall hn
        generalize l[k] = y at hx hne HN
        go_wp2
        go_ret
        exact ⟨ret_numZ HN.out.symm, rfl⟩
    · have hge : ¬ (k : Int) < (l.length : Int) := by omega
      have HY := Lib.hid (HZ.out (fun j hj => hall j hj (by omega)))
      clear hall
      go_wp2
      go_ret
      exact ⟨ret_numZ HY.out.symm, rfl⟩
set_option maxRecDepth 100000 in
set_option maxHeartbeats 8000000 in
theorem implCompareU_any (a b : Lt) (w : World) : Calls Tryz.prog 93 #[ltV a, ltV b] w fun e w' => e = .returned (.int .i64 (cmpLt a b)) ∧ UpW w w' := by
  have HC := Lib.hid (cmp_or a b)
  generalize cmpLt a b = res at HC ⊢
  have S0 := Lib.hid (((Sn.start w).box 55 [.int .i64 a.ki, .int .i64 a.ac, .int .i64 a.va]).box 55 [.int .i64 b.ki, .int .i64 b.ac, .int .i64 b.va])
  simp only [World.size_alloc] at S0
  have U0 := Lib.hid (((UpW.refl w).alloc (.cells #[.int .i64 a.ki, .int .i64 a.ac, .int .i64 a.va] 55)).alloc (.cells #[.int .i64 b.ki, .int .i64 b.ac, .int .i64 b.va] 55))
  unfold ltV
  go_enter Tryz.func93, Tryz.ntmps93
  go_wp2_with fail
  obtain ⟨p0, p1, p2, pf⟩ := (S0.out.bk 1 rfl).c3
  obtain ⟨q0, q1, q2, qf⟩ := (S0.out.bk 0 rfl).c3
  have hl1 := (S0.out.bk 1 rfl).lt
  have hl0 := (S0.out.bk 0 rfl).lt
  generalize World.alloc (World.alloc w _) _ = wv at S0 U0 p0 p1 p2 pf q0 q1 q2 qf hl0 hl1 ⊢
  have S1 := Lib.hid S0.out.drew1
  have U1 := Lib.hid U0.out.drew
  have CE := Lib.hid (fun (W : World) (h : Wr [] wv.drew W) => show Hid (Wr [] wv.drew W) ∧ W.cell? ⟨w.heap.size, 0, none⟩ = some (.int .i64 a.ki) ∧ W.cell? ⟨w.heap.size, 1, none⟩ = some (.int .i64 a.ac) ∧ W.cell? ⟨w.heap.size, 2, none⟩ = some (.int .i64 a.va) ∧ W.cell? ⟨w.heap.size + 1, 0, none⟩ = some (.int .i64 b.ki) ∧ W.cell? ⟨w.heap.size + 1, 1, none⟩ = some (.int .i64 b.ac) ∧ W.cell? ⟨w.heap.size + 1, 2, none⟩ = some (.int .i64 b.va) from ⟨Lib.hid h, (wr_cell h (p := ⟨w.heap.size, 0, none⟩) hl1 (by simp)).trans (by exact by simpa using p0), (wr_cell h (p := ⟨w.heap.size, 1, none⟩) hl1 (by simp)).trans (by exact by simpa using p1), (wr_cell h (p := ⟨w.heap.size, 2, none⟩) hl1 (by simp)).trans (by exact by simpa using p2), (wr_cell h (p := ⟨w.heap.size + 1, 0, none⟩) hl0 (by simp)).trans (by exact by simpa using q0), (wr_cell h (p := ⟨w.heap.size + 1, 1, none⟩) hl0 (by simp)).trans (by exact by simpa using q1), (wr_cell h (p := ⟨w.heap.size + 1, 2, none⟩) hl0 (by simp)).trans (by exact by simpa using q2)⟩)
  have INIT := Lib.hid (CE.out _ (Wr.refl _ _))
  have KW := Lib.hid (fun (W2 W : World) (hb : Wr [] W W2) (h : Hid (Wr [] wv.drew W) ∧ W.cell? ⟨w.heap.size, 0, none⟩ = some (.int .i64 a.ki) ∧ W.cell? ⟨w.heap.size, 1, none⟩ = some (.int .i64 a.ac) ∧ W.cell? ⟨w.heap.size, 2, none⟩ = some (.int .i64 a.va) ∧ W.cell? ⟨w.heap.size + 1, 0, none⟩ = some (.int .i64 b.ki) ∧ W.cell? ⟨w.heap.size + 1, 1, none⟩ = some (.int .i64 b.ac) ∧ W.cell? ⟨w.heap.size + 1, 2, none⟩ = some (.int .i64 b.va)) => CE.out W2 (h.1.out.trans hb))
  clear p0 p1 p2 pf q0 q1 q2 qf hl0 hl1 S0
  refine wp_region_held_drew (S := fun W => Hid (Wr [] wv.drew W) ∧ W.cell? ⟨w.heap.size, 0, none⟩ = some (.int .i64 a.ki) ∧ W.cell? ⟨w.heap.size, 1, none⟩ = some (.int .i64 a.ac) ∧ W.cell? ⟨w.heap.size, 2, none⟩ = some (.int .i64 a.va) ∧ W.cell? ⟨w.heap.size + 1, 0, none⟩ = some (.int .i64 b.ki) ∧ W.cell? ⟨w.heap.size + 1, 1, none⟩ = some (.int .i64 b.ac) ∧ W.cell? ⟨w.heap.size + 1, 2, none⟩ = some (.int .i64 b.va)) (by kernel_rfl) INIT.out (fun hHeld => ?_)
  refine wpAnyH_take (i := 0) (v := ?_) rfl (by kernel_rfl) (by kernel_rfl) (by kernel_rfl) (fun _ _ _ h => h) (Or.inl ⟨by rfl, ?_⟩) (by assumption) ?_
  rotate_left
  · (intro W hSw; (try dsimp only at hSw); go_simp <;> with_reducible rfl)
  (try simp only [Act.put, List.getElem_toArray, List.getElem_cons_zero, List.setIfInBounds_toArray, List.set_cons_succ, List.set_cons_zero])
  refine wpAnyH_take (i := 1) (v := ?_) rfl (by kernel_rfl) (by kernel_rfl) (by kernel_rfl) (fun _ _ _ h => h) (Or.inl ⟨by rfl, ?_⟩) (by assumption) ?_
  rotate_left
  · (intro W hSw; (try dsimp only at hSw); go_simp <;> with_reducible rfl)
  (try simp only [Act.put, List.getElem_toArray, List.getElem_cons_succ, List.getElem_cons_zero, List.setIfInBounds_toArray, List.set_cons_succ, List.set_cons_zero])
  refine wpAnyH_take (i := 2) (v := ?_) rfl (by kernel_rfl) (by kernel_rfl) (by kernel_rfl) (fun _ _ _ h => h) (Or.inl ⟨by rfl, ?_⟩) (by assumption) ?_
  rotate_left
  · (intro W hSw; (try dsimp only at hSw); go_simp <;> with_reducible rfl)
  (try simp only [Act.put, List.getElem_toArray, List.getElem_cons_succ, List.getElem_cons_zero, List.setIfInBounds_toArray, List.set_cons_succ, List.set_cons_zero])
  refine wpAnyH_take (i := 3) (v := ?_) rfl (by kernel_rfl) (by kernel_rfl) (by kernel_rfl) (fun _ _ _ h => h) (Or.inl ⟨by rfl, ?_⟩) (by assumption) ?_
  rotate_left
  · (intro W hSw; (try dsimp only at hSw); go_simp <;> with_reducible rfl)
  (try simp only [Act.put, List.getElem_toArray, List.getElem_cons_succ, List.getElem_cons_zero, List.setIfInBounds_toArray, List.set_cons_succ, List.set_cons_zero])
  refine wpAnyH_take (i := 5) (v := ?_) rfl (by kernel_rfl) (by kernel_rfl) (by kernel_rfl) (fun _ _ _ h => h) (Or.inl ⟨by rfl, ?_⟩) (by assumption) ?_
  rotate_left
  · (intro W hSw; (try dsimp only at hSw); go_simp <;> with_reducible rfl)
  (try simp only [Act.put, List.getElem_toArray, List.getElem_cons_succ, List.getElem_cons_zero, List.setIfInBounds_toArray, List.set_cons_succ, List.set_cons_zero])
  refine wpAnyH_take (i := 6) (v := ?_) rfl (by kernel_rfl) (by kernel_rfl) (by kernel_rfl) (fun _ _ _ h => h) (Or.inl ⟨by rfl, ?_⟩) (by assumption) ?_
  rotate_left
  · (intro W hSw; (try dsimp only at hSw); go_simp <;> with_reducible rfl)
  (try simp only [Act.put, List.getElem_toArray, List.getElem_cons_succ, List.getElem_cons_zero, List.setIfInBounds_toArray, List.set_cons_succ, List.set_cons_zero])
  refine wpAnyH_take (i := 7) (v := ?_) rfl (by kernel_rfl) (by kernel_rfl) (by kernel_rfl) (fun _ _ _ h => h) (Or.inl ⟨by rfl, ?_⟩) (by assumption) ?_
  rotate_left
  · (intro W hSw; (try dsimp only at hSw); go_simp <;> with_reducible rfl)
  (try simp only [Act.put, List.getElem_toArray, List.getElem_cons_succ, List.getElem_cons_zero, List.setIfInBounds_toArray, List.set_cons_succ, List.set_cons_zero])
  refine wpAnyH_take (i := 8) (v := ?_) rfl (by kernel_rfl) (by kernel_rfl) (by kernel_rfl) (fun _ _ _ h => h) (Or.inl ⟨by rfl, ?_⟩) (by assumption) ?_
  rotate_left
  · (intro W hSw; (try dsimp only at hSw); go_simp <;> with_reducible rfl)
  (try simp only [Act.put, List.getElem_toArray, List.getElem_cons_succ, List.getElem_cons_zero, List.setIfInBounds_toArray, List.set_cons_succ, List.set_cons_zero])
  refine wpAnyH_take (i := 10) (v := ?_) rfl (by kernel_rfl) (by kernel_rfl) (by kernel_rfl) (fun _ _ _ h => h) (Or.inl ⟨by rfl, ?_⟩) (by assumption) ?_
  rotate_left
  · (intro W hSw; (try dsimp only at hSw); go_simp <;> with_reducible rfl)
  (try simp only [Act.put, List.getElem_toArray, List.getElem_cons_succ, List.getElem_cons_zero, List.setIfInBounds_toArray, List.set_cons_succ, List.set_cons_zero])
  refine wpAnyH_take (i := 11) (v := ?_) rfl (by kernel_rfl) (by kernel_rfl) (by kernel_rfl) (fun _ _ _ h => h) (Or.inl ⟨by rfl, ?_⟩) (by assumption) ?_
  rotate_left
  · (intro W hSw; (try dsimp only at hSw); go_simp <;> with_reducible rfl)
  (try simp only [Act.put, List.getElem_toArray, List.getElem_cons_succ, List.getElem_cons_zero, List.setIfInBounds_toArray, List.set_cons_succ, List.set_cons_zero])
  refine wpAnyH_take (i := 12) (v := ?_) rfl (by kernel_rfl) (by kernel_rfl) (by kernel_rfl) (fun _ _ _ h => h) (Or.inl ⟨by rfl, ?_⟩) (by assumption) ?_
  rotate_left
  · (intro W hSw; (try dsimp only at hSw); go_simp <;> with_reducible rfl)
  (try simp only [Act.put, List.getElem_toArray, List.getElem_cons_succ, List.getElem_cons_zero, List.setIfInBounds_toArray, List.set_cons_succ, List.set_cons_zero])
  refine wpAnyH_take (i := 13) (v := ?_) rfl (by kernel_rfl) (by kernel_rfl) (by kernel_rfl) (fun _ _ _ h => h) (Or.inl ⟨by rfl, ?_⟩) (by assumption) ?_
  rotate_left
  · (intro W hSw; (try dsimp only at hSw); go_simp <;> with_reducible rfl)
  (try simp only [Act.put, List.getElem_toArray, List.getElem_cons_succ, List.getElem_cons_zero, List.setIfInBounds_toArray, List.set_cons_succ, List.set_cons_zero])
  refine wpAnyH_ready (rs := [4]) (by kernel_rfl) (by simp) ?_
  refine AllReadyH.cons rfl (fun K hK => ?_) AllReadyH.nil
  go_simp
  go_at_call 128
  refine (compareE_any a.ac b.ac _).mono ?_
  rintro e w4 ⟨rfl, rfl⟩
  (first | done | go_wp2_with fail)
  refine hK.out _ _ (by assumption) (fun hHeld4 => ?_)
  clear hK K
  refine wpAnyH_ready (rs := [9]) (by kernel_rfl) (by simp) ?_
  refine AllReadyH.cons rfl (fun K hK => ?_) AllReadyH.nil
  go_simp
  go_at_call 128
  refine (compareE_any a.ki b.ki _).mono ?_
  rintro e w9 ⟨rfl, rfl⟩
  (first | done | go_wp2_with fail)
  refine hK.out _ _ (by assumption) (fun hHeld9 => ?_)
  clear hK K
  refine wpAnyH_ready (rs := [14]) (by kernel_rfl) (by simp) ?_
  refine AllReadyH.cons rfl (fun K hK => ?_) AllReadyH.nil
  go_simp
  go_at_call 128
  refine (compareE_any a.va b.va _).mono ?_
  rintro e w14 ⟨rfl, rfl⟩
  (first | done | go_wp2_with fail)
  refine hK.out _ _ (by assumption) (fun hHeld14 => ?_)
  clear hK K
  refine wpAnyH_ready (rs := [15]) (by kernel_rfl) (by simp) ?_
  refine AllReadyH.cons rfl (fun K hK => ?_) AllReadyH.nil
  go_simp
  have BA := (Below.refl _ wv.drew).alloc (Nat.le_refl _) (.cells #[.int .i64 (sgn a.ac b.ac), .int .i64 (sgn a.ki b.ki), .int .i64 (sgn a.va b.va)] 3)
  refine hK.out _ _ (KW.out _ _ (Wr.of_below BA (Nat.le_refl _)) (by assumption)) (fun hHeld15 => ?_)
  clear hK K
  have U5 := Lib.hid (U1.out.alloc (.cells #[.int .i64 (sgn a.ac b.ac), .int .i64 (sgn a.ki b.ki), .int .i64 (sgn a.va b.va)] 3))
  have R5 := Lib.hid (newI_any wv.drew 3 [sgn a.ac b.ac, sgn a.ki b.ki, sgn a.va b.va] (by simp [maxLen]))
  clear BA U0 U1
  refine wpAnyH_ready (rs := [16]) (by kernel_rfl) (by simp) ?_
  refine AllReadyH.cons rfl (fun K hK => ?_) AllReadyH.nil
  go_simp
  refine (orE_any [sgn a.ac b.ac, sgn a.ki b.ki, sgn a.va b.va] _ _ (by first | exact R5.out | simpa using R5.out)).mono ?_
  rintro e w6 ⟨rfl, rfl⟩
  refine hK.out _ _ (KW.out _ _ (Wr.of_below (Below.refl _ _) (Nat.le_refl _)) (by assumption)) (fun hHeld16 => ?_)
  clear hK K R5
  rw [HC.out]
  refine wpAnyH_take (i := 17) (v := ?_) rfl (by kernel_rfl) (by kernel_rfl) (by kernel_rfl) (fun _ _ _ h => h) (Or.inl ⟨by rfl, ?_⟩) (by assumption) ?_
  rotate_left
  · (intro W hSw; (try dsimp only at hSw); go_simp <;> with_reducible rfl)
  (try simp only [Act.put, List.getElem_toArray, List.getElem_cons_succ, List.getElem_cons_zero, List.setIfInBounds_toArray, List.set_cons_succ, List.set_cons_zero])
  refine wpAnyH_done (by kernel_rfl) ?_ _
  go_wp2
  go_ret
  exact ⟨rfl, U5.out⟩
theorem compare_lays (blk off size : Nat) (w : World) : CmpLays Tryz.prog 93 #[] encLt 3 cmpLt blk off size w :=
  fun _ _ _ _ x y => implCompareU_any x y _
end Go.Proofs.YtgbpomakomddjabGreatDoor
