/- DERIVED. CONTRACTS of chapter 12: CompareLiterals, of the program and of the model; cmp.Compare and cmp.Or at ints. -/
import Derived.Test.YtgbpomakomddjabGreatDoorScLt
import Derived.Test.YtgbpomakomddjabGreatDoorDats
import Derived.Test.YtgbpomakomddjabGreatDoorElmS
import Derived.Test.YtgbpomakomddjabGreatDoorRegZ
namespace Go.Proofs.YtgbpomakomddjabGreatDoor
open Go.RowKit Go.Shelf
set_option linter.unusedVariables false

set_option maxRecDepth 100000 in
set_option maxHeartbeats 8000000 in
theorem isNaN_any (x : Int) (w : World) : Calls Tryz.prog 154 #[.int .i64 x] w fun e w' => e = .returned (.bool false) ∧ w = w' := by
  go_enter Tryz.func154, Tryz.ntmps154
  go_wp2
  go_ret
  exact ⟨rfl, rfl⟩
set_option maxRecDepth 100000 in
set_option maxHeartbeats 8000000 in
theorem compareI_any (x y : Int) (w : World) : Calls Tryz.prog 128 #[.int .i64 x, .int .i64 y] w fun e w' => e = .returned (.int .i64 (sgn x y)) ∧ Below w.heap.size w w' := by
  by_cases h1 : x < y
  · rw [sgn_lt h1]
    go_enter Tryz.func128, Tryz.ntmps128
    go_wp2_with (first | (go_at_call 154; refine (isNaN_any _ _).mono ?_; rintro e w1 ⟨rfl, rfl⟩) | fail)
    go_ret
    exact ⟨rfl, Below.refl _ _⟩
  by_cases h2 : y < x
  · rw [sgn_gt h2]
    go_enter Tryz.func128, Tryz.ntmps128
    go_wp2_with (first | (go_at_call 154; refine (isNaN_any _ _).mono ?_; rintro e w1 ⟨rfl, rfl⟩) | fail)
    go_ret
    exact ⟨rfl, Below.refl _ _⟩
  · obtain rfl : x = y := by omega
    rw [sgn_eq]
    go_enter Tryz.func128, Tryz.ntmps128
    go_wp2_with (first | (go_at_call 154; refine (isNaN_any _ _).mono ?_; rintro e w1 ⟨rfl, rfl⟩) | fail)
    go_ret
    exact ⟨rfl, Below.refl _ _⟩
def orL (l : List Int) : Int := (l.find? (fun x => !decide (x = 0))).getD 0
theorem orL_at {l : List Int} {k : Nat} (hk : k < l.length) (hall : ∀ j, (hj : j < l.length) → j < k → l[j] = 0) (h : ¬ l[k] = 0) : orL l = l[k] := by
  unfold orL
  rw [List.find?_eq_some_iff_getElem.2 ⟨by simp [h], k, hk, rfl, fun j hj => by simp [hall j (by omega) hj]⟩]; rfl
theorem orL_no {l : List Int} (hall : ∀ j, (hj : j < l.length) → l[j] = 0) : orL l = 0 := by
  unfold orL
  rw [List.find?_eq_none.2 (fun x hx => by obtain ⟨j, hj, rfl⟩ := List.getElem_of_mem hx; simp [hall j hj])]; rfl
theorem orL_3 (a b c : Int) : orL [a, b, c] = if a = 0 then (if b = 0 then c else b) else a := by
  unfold orL
  by_cases h1 : a = 0
  · by_cases h2 : b = 0
    · by_cases h3 : c = 0 <;> simp [h1, h2, h3]
    · simp [h1, h2]
  · simp [h1]
set_option maxRecDepth 100000 in
set_option maxHeartbeats 8000000 in
theorem orI_any (l : List Int) (v : Value) (w : World) (hr : Rd w v (l.map (.int .i64))) :
    Calls Tryz.prog 127 #[v] w fun e w' => e = .returned (.int .i64 (orL l)) ∧ Below w.heap.size w w' := by
  obtain ⟨hl, A, c, rfl, ga⟩ := rdI hr
  unfold maxLen at hl
  have GA := Lib.hid ga
  have HA := Lib.hid (fun k hk => @orL_at l k hk)
  have HZ := Lib.hid (@orL_no l)
  generalize orL l = res at HA HZ ⊢
  clear ga hr
  go_enter Tryz.func127, Tryz.ntmps127
  go_wp2
  go_loopw [8] (fun i wr => ∃ k : Nat, k ≤ l.length ∧ i = .int .i64 k ∧ Below w.heap.size w wr ∧ ∀ j, (hj : j < l.length) → j < k → l[j] = 0) (fun i _ => l.length - (intOf i).toNat)
  case atStart => exact ⟨0, Nat.zero_le _, rfl, by repeat (first | exact Below.refl _ _ | refine Below.setCell ?_ (by simp) _ | refine Below.alloc ?_ (by first | (simp; done) | (simp; omega)) _), fun j _ h => absurd h (by omega)⟩
  case round =>
    obtain ⟨k, hkl, rfl, hb, hall⟩ := hrel
    have HB := Lib.hid hb
    clear hb
    by_cases hlt : k < l.length
    · have hlt' : (k : Int) < (l.length : Int) := by omega
      have k0 : (0 : Int) ≤ (k : Int) := by omega
      obtain ⟨b, o, rfl, hb, hc⟩ := GA.out k hlt
      have hx := (HB.out.cell (p := ⟨b, o + k, none⟩) hb).trans (hc k hlt)
      clear hc
      by_cases hn : l[k] = 0
      · have STEP := Lib.hid (step_all (p := fun y : Int => y = 0) hlt hall hn)
        rw [hn] at hx
        clear hall hn
        go_wp2
        go_roundw
        case rel => exact ⟨k + 1, by omega, by go_num, HB.out, STEP.out⟩
        case measure => simp [intOf]; omega
      · have HN := Lib.hid (HA.out k hlt hall hn)
        have hne : (l[k] == 0) = false := by simpa using hn
        have HNE := Lib.hid hn
        clear hall hn
        generalize l[k] = y at hx hne HN HNE
        go_wp2
        go_ret
        exact ⟨ret_numZ HN.out.symm, HB.out⟩
    · have hge : ¬ (k : Int) < (l.length : Int) := by omega
      have HY := Lib.hid (HZ.out (fun j hj => hall j hj (by omega)))
      clear hall
      go_wp2
      go_ret
      exact ⟨ret_numZ HY.out.symm, HB.out⟩
theorem cmp_or (a b : Lt) : orL [sgn a.ac b.ac, sgn a.ki b.ki, sgn a.va b.va] = cmpLt a b := by
  rw [orL_3]
  unfold cmpLt
  by_cases h1 : a.ac = b.ac
  · rw [if_pos (sgn_zero.2 h1), if_pos h1]
    by_cases h2 : a.ki = b.ki
    · rw [if_pos (sgn_zero.2 h2), if_pos h2]
    · rw [if_neg (fun e => h2 (sgn_zero.1 e)), if_neg h2]
  · rw [if_neg (fun e => h1 (sgn_zero.1 e)), if_neg h1]
set_option maxRecDepth 100000 in
set_option maxHeartbeats 8000000 in
theorem l11Sign_any (x y : Int) (w : World) : Calls Tryz.prog 83 #[.int .i64 x, .int .i64 y] w fun e w' => e = .returned (.int .i64 (sgn x y)) ∧ w = w' := by
  by_cases h1 : x < y
  · rw [sgn_lt h1]
    go_enter Tryz.func83, Tryz.ntmps83
    go_wp2
    go_ret
    exact ⟨rfl, rfl⟩
  by_cases h2 : y < x
  · rw [sgn_gt h2]
    go_enter Tryz.func83, Tryz.ntmps83
    go_wp2
    go_ret
    exact ⟨rfl, rfl⟩
  · obtain rfl : x = y := by omega
    rw [sgn_eq]
    go_enter Tryz.func83, Tryz.ntmps83
    go_wp2
    go_ret
    exact ⟨rfl, rfl⟩

set_option maxRecDepth 100000 in
set_option maxHeartbeats 8000000 in
theorem implCompare_any (a b : Lt) (w : World) : Calls Tryz.prog 93 #[ltV a, ltV b] w fun e w' => e = .returned (.int .i64 (cmpLt a b)) ∧ Below w.heap.size w w' := by
  have HC := Lib.hid (cmp_or a b)
  generalize cmpLt a b = res at HC ⊢
  have S0 := Lib.hid (((Sn.start w).box 55 [.int .i64 a.ki, .int .i64 a.ac, .int .i64 a.va]).box 55 [.int .i64 b.ki, .int .i64 b.ac, .int .i64 b.va])
  simp only [World.size_alloc] at S0
  unfold ltV
  go_enter Tryz.func93, Tryz.ntmps93
  go_wp2_with fail
  obtain ⟨p0, p1, p2, pf⟩ := (S0.out.bk 1 rfl).c3
  obtain ⟨q0, q1, q2, qf⟩ := (S0.out.bk 0 rfl).c3
  have hl1 := (S0.out.bk 1 rfl).lt
  have hl0 := (S0.out.bk 0 rfl).lt
  generalize World.alloc (World.alloc w _) _ = wv at S0 p0 p1 p2 pf q0 q1 q2 qf hl0 hl1 ⊢
  have S1 := Lib.hid S0.out.drew1
  have CE := Lib.hid (fun (W : World) (h : Wr [] wv.drew W) => show Hid (Wr [] wv.drew W) ∧ W.cell? ⟨w.heap.size, 0, none⟩ = some (.int .i64 a.ki) ∧ W.cell? ⟨w.heap.size, 1, none⟩ = some (.int .i64 a.ac) ∧ W.cell? ⟨w.heap.size, 2, none⟩ = some (.int .i64 a.va) ∧ W.cell? ⟨w.heap.size + 1, 0, none⟩ = some (.int .i64 b.ki) ∧ W.cell? ⟨w.heap.size + 1, 1, none⟩ = some (.int .i64 b.ac) ∧ W.cell? ⟨w.heap.size + 1, 2, none⟩ = some (.int .i64 b.va) from ⟨Lib.hid h, (wr_cell h (p := ⟨w.heap.size, 0, none⟩) hl1 (by simp)).trans (by exact by simpa using p0), (wr_cell h (p := ⟨w.heap.size, 1, none⟩) hl1 (by simp)).trans (by exact by simpa using p1), (wr_cell h (p := ⟨w.heap.size, 2, none⟩) hl1 (by simp)).trans (by exact by simpa using p2), (wr_cell h (p := ⟨w.heap.size + 1, 0, none⟩) hl0 (by simp)).trans (by exact by simpa using q0), (wr_cell h (p := ⟨w.heap.size + 1, 1, none⟩) hl0 (by simp)).trans (by exact by simpa using q1), (wr_cell h (p := ⟨w.heap.size + 1, 2, none⟩) hl0 (by simp)).trans (by exact by simpa using q2)⟩)
  have INIT := Lib.hid (CE.out _ (Wr.refl _ _))
  have KW := Lib.hid (fun (W2 W : World) (hb : Wr [] W W2) (h : Hid (Wr [] wv.drew W) ∧ W.cell? ⟨w.heap.size, 0, none⟩ = some (.int .i64 a.ki) ∧ W.cell? ⟨w.heap.size, 1, none⟩ = some (.int .i64 a.ac) ∧ W.cell? ⟨w.heap.size, 2, none⟩ = some (.int .i64 a.va) ∧ W.cell? ⟨w.heap.size + 1, 0, none⟩ = some (.int .i64 b.ki) ∧ W.cell? ⟨w.heap.size + 1, 1, none⟩ = some (.int .i64 b.ac) ∧ W.cell? ⟨w.heap.size + 1, 2, none⟩ = some (.int .i64 b.va)) => CE.out W2 (h.1.out.trans hb))
  clear p0 p1 p2 pf q0 q1 q2 qf hl0 hl1 S0
  refine wp_region_held_drew (S := fun W => Hid (Wr [] wv.drew W) ∧ W.cell? ⟨w.heap.size, 0, none⟩ = some (.int .i64 a.ki) ∧ W.cell? ⟨w.heap.size, 1, none⟩ = some (.int .i64 a.ac) ∧ W.cell? ⟨w.heap.size, 2, none⟩ = some (.int .i64 a.va) ∧ W.cell? ⟨w.heap.size + 1, 0, none⟩ = some (.int .i64 b.ki) ∧ W.cell? ⟨w.heap.size + 1, 1, none⟩ = some (.int .i64 b.ac) ∧ W.cell? ⟨w.heap.size + 1, 2, none⟩ = some (.int .i64 b.va)) (by kernel_rfl) INIT.out (fun hHeld => ?_)
  refine wpAnyH_take (i := 0) (v := ?_) rfl (by kernel_rfl) (by kernel_rfl) (by kernel_rfl) (fun _ _ _ h => h) (Or.inl ⟨by rfl, ?_⟩) (by assumption) ?_
  rotate_left
  · (intro W hSw; (try dsimp only at hSw); go_simp <;> with_reducible rfl)
  (try simp only [Act.put, List.getElem_toArray, List.getElem_cons_zero, List.setIfInBounds_toArray, List.set_cons_succ, List.set_cons_zero])
  refine wpAnyH_take (i := 1) (v := ?_) rfl (by kernel_rfl) (by kernel_rfl) (by kernel_rfl) (fun _ _ _ h => h) (Or.inl ⟨by rfl, ?_⟩) (by assumption) ?_
  rotate_left
  · (intro W hSw; (try dsimp only at hSw); go_simp <;> with_reducible rfl)
  (try simp only [Act.put, List.getElem_toArray, List.getElem_cons_succ, List.getElem_cons_zero, List.setIfInBounds_toArray, List.set_cons_succ, List.set_cons_zero])
  refine wpAnyH_take (i := 2) (v := ?_) rfl (by kernel_rfl) (by kernel_rfl) (by kernel_rfl) (fun _ _ _ h => h) (Or.inl ⟨by rfl, ?_⟩) (by assumption) ?_
  rotate_left
  · (intro W hSw; (try dsimp only at hSw); go_simp <;> with_reducible rfl)
  (try simp only [Act.put, List.getElem_toArray, List.getElem_cons_succ, List.getElem_cons_zero, List.setIfInBounds_toArray, List.set_cons_succ, List.set_cons_zero])
  refine wpAnyH_take (i := 3) (v := ?_) rfl (by kernel_rfl) (by kernel_rfl) (by kernel_rfl) (fun _ _ _ h => h) (Or.inl ⟨by rfl, ?_⟩) (by assumption) ?_
  rotate_left
  · (intro W hSw; (try dsimp only at hSw); go_simp <;> with_reducible rfl)
  (try simp only [Act.put, List.getElem_toArray, List.getElem_cons_succ, List.getElem_cons_zero, List.setIfInBounds_toArray, List.set_cons_succ, List.set_cons_zero])
  refine wpAnyH_take (i := 5) (v := ?_) rfl (by kernel_rfl) (by kernel_rfl) (by kernel_rfl) (fun _ _ _ h => h) (Or.inl ⟨by rfl, ?_⟩) (by assumption) ?_
  rotate_left
  · (intro W hSw; (try dsimp only at hSw); go_simp <;> with_reducible rfl)
  (try simp only [Act.put, List.getElem_toArray, List.getElem_cons_succ, List.getElem_cons_zero, List.setIfInBounds_toArray, List.set_cons_succ, List.set_cons_zero])
  refine wpAnyH_take (i := 6) (v := ?_) rfl (by kernel_rfl) (by kernel_rfl) (by kernel_rfl) (fun _ _ _ h => h) (Or.inl ⟨by rfl, ?_⟩) (by assumption) ?_
  rotate_left
  · (intro W hSw; (try dsimp only at hSw); go_simp <;> with_reducible rfl)
  (try simp only [Act.put, List.getElem_toArray, List.getElem_cons_succ, List.getElem_cons_zero, List.setIfInBounds_toArray, List.set_cons_succ, List.set_cons_zero])
  refine wpAnyH_take (i := 7) (v := ?_) rfl (by kernel_rfl) (by kernel_rfl) (by kernel_rfl) (fun _ _ _ h => h) (Or.inl ⟨by rfl, ?_⟩) (by assumption) ?_
  rotate_left
  · (intro W hSw; (try dsimp only at hSw); go_simp <;> with_reducible rfl)
  (try simp only [Act.put, List.getElem_toArray, List.getElem_cons_succ, List.getElem_cons_zero, List.setIfInBounds_toArray, List.set_cons_succ, List.set_cons_zero])
  refine wpAnyH_take (i := 8) (v := ?_) rfl (by kernel_rfl) (by kernel_rfl) (by kernel_rfl) (fun _ _ _ h => h) (Or.inl ⟨by rfl, ?_⟩) (by assumption) ?_
  rotate_left
  · (intro W hSw; (try dsimp only at hSw); go_simp <;> with_reducible rfl)
  (try simp only [Act.put, List.getElem_toArray, List.getElem_cons_succ, List.getElem_cons_zero, List.setIfInBounds_toArray, List.set_cons_succ, List.set_cons_zero])
  refine wpAnyH_take (i := 10) (v := ?_) rfl (by kernel_rfl) (by kernel_rfl) (by kernel_rfl) (fun _ _ _ h => h) (Or.inl ⟨by rfl, ?_⟩) (by assumption) ?_
  rotate_left
  · (intro W hSw; (try dsimp only at hSw); go_simp <;> with_reducible rfl)
  (try simp only [Act.put, List.getElem_toArray, List.getElem_cons_succ, List.getElem_cons_zero, List.setIfInBounds_toArray, List.set_cons_succ, List.set_cons_zero])
  refine wpAnyH_take (i := 11) (v := ?_) rfl (by kernel_rfl) (by kernel_rfl) (by kernel_rfl) (fun _ _ _ h => h) (Or.inl ⟨by rfl, ?_⟩) (by assumption) ?_
  rotate_left
  · (intro W hSw; (try dsimp only at hSw); go_simp <;> with_reducible rfl)
  (try simp only [Act.put, List.getElem_toArray, List.getElem_cons_succ, List.getElem_cons_zero, List.setIfInBounds_toArray, List.set_cons_succ, List.set_cons_zero])
  refine wpAnyH_take (i := 12) (v := ?_) rfl (by kernel_rfl) (by kernel_rfl) (by kernel_rfl) (fun _ _ _ h => h) (Or.inl ⟨by rfl, ?_⟩) (by assumption) ?_
  rotate_left
  · (intro W hSw; (try dsimp only at hSw); go_simp <;> with_reducible rfl)
  (try simp only [Act.put, List.getElem_toArray, List.getElem_cons_succ, List.getElem_cons_zero, List.setIfInBounds_toArray, List.set_cons_succ, List.set_cons_zero])
  refine wpAnyH_take (i := 13) (v := ?_) rfl (by kernel_rfl) (by kernel_rfl) (by kernel_rfl) (fun _ _ _ h => h) (Or.inl ⟨by rfl, ?_⟩) (by assumption) ?_
  rotate_left
  · (intro W hSw; (try dsimp only at hSw); go_simp <;> with_reducible rfl)
  (try simp only [Act.put, List.getElem_toArray, List.getElem_cons_succ, List.getElem_cons_zero, List.setIfInBounds_toArray, List.set_cons_succ, List.set_cons_zero])
  refine wpAnyH_ready (rs := [4]) (by kernel_rfl) (by simp) ?_
  refine AllReadyH.cons rfl (fun K hK => ?_) AllReadyH.nil
  go_simp
  go_at_call 128
  refine (compareI_any a.ac b.ac _).mono ?_
  rintro e w2 ⟨rfl, bb⟩
  have S2 := Lib.hid (S1.out.go bb)
  (first | done | go_wp2_with fail)
  refine hK.out _ _ (KW.out _ _ (Wr.of_below bb (Nat.le_refl _)) (by assumption)) (fun hHeld4 => ?_)
  clear hK K bb S1
  refine wpAnyH_ready (rs := [9]) (by kernel_rfl) (by simp) ?_
  refine AllReadyH.cons rfl (fun K hK => ?_) AllReadyH.nil
  go_simp
  go_at_call 128
  refine (compareI_any a.ki b.ki _).mono ?_
  rintro e w3 ⟨rfl, bb⟩
  have S3 := Lib.hid (S2.out.go bb)
  (first | done | go_wp2_with fail)
  refine hK.out _ _ (KW.out _ _ (Wr.of_below bb (Nat.le_refl _)) (by assumption)) (fun hHeld9 => ?_)
  clear hK K bb S2
  refine wpAnyH_ready (rs := [14]) (by kernel_rfl) (by simp) ?_
  refine AllReadyH.cons rfl (fun K hK => ?_) AllReadyH.nil
  go_simp
  go_at_call 128
  refine (compareI_any a.va b.va _).mono ?_
  rintro e w4 ⟨rfl, bb⟩
  have S4 := Lib.hid (S3.out.go bb)
  (first | done | go_wp2_with fail)
  refine hK.out _ _ (KW.out _ _ (Wr.of_below bb (Nat.le_refl _)) (by assumption)) (fun hHeld14 => ?_)
  clear hK K bb S3
  refine wpAnyH_ready (rs := [15]) (by kernel_rfl) (by simp) ?_
  refine AllReadyH.cons rfl (fun K hK => ?_) AllReadyH.nil
  go_simp
  have BA := (Below.refl _ w4).alloc (Nat.le_refl _) (.cells #[.int .i64 (sgn a.ac b.ac), .int .i64 (sgn a.ki b.ki), .int .i64 (sgn a.va b.va)] 3)
  refine hK.out _ _ (KW.out _ _ (Wr.of_below BA (Nat.le_refl _)) (by assumption)) (fun hHeld15 => ?_)
  clear hK K
  have S5 := Lib.hid (S4.out.go BA)
  have R5 := Lib.hid (newI_any w4 3 [sgn a.ac b.ac, sgn a.ki b.ki, sgn a.va b.va] (by simp [maxLen]))
  clear BA S4
  refine wpAnyH_ready (rs := [16]) (by kernel_rfl) (by simp) ?_
  refine AllReadyH.cons rfl (fun K hK => ?_) AllReadyH.nil
  go_simp
  refine (orI_any [sgn a.ac b.ac, sgn a.ki b.ki, sgn a.va b.va] _ _ (by first | exact R5.out | simpa using R5.out)).mono ?_
  rintro e w6 ⟨rfl, bb⟩
  have S6 := Lib.hid (S5.out.go bb)
  refine hK.out _ _ (KW.out _ _ (Wr.of_below bb (Nat.le_refl _)) (by assumption)) (fun hHeld16 => ?_)
  clear hK K bb S5 R5
  rw [HC.out]
  refine wpAnyH_take (i := 17) (v := ?_) rfl (by kernel_rfl) (by kernel_rfl) (by kernel_rfl) (fun _ _ _ h => h) (Or.inl ⟨by rfl, ?_⟩) (by assumption) ?_
  rotate_left
  · (intro W hSw; (try dsimp only at hSw); go_simp <;> with_reducible rfl)
  (try simp only [Act.put, List.getElem_toArray, List.getElem_cons_succ, List.getElem_cons_zero, List.setIfInBounds_toArray, List.set_cons_succ, List.set_cons_zero])
  refine wpAnyH_done (by kernel_rfl) ?_ _
  go_wp2
  go_ret
  exact ⟨rfl, S6.out.1⟩
theorem cmp_ac {a b : Lt} (h : ¬ a.ac = b.ac) : cmpLt a b = sgn a.ac b.ac := by rw [cmpLt, if_neg h]
theorem cmp_ki {a b : Lt} (h1 : a.ac = b.ac) (h : ¬ a.ki = b.ki) : cmpLt a b = sgn a.ki b.ki := by rw [cmpLt, if_pos h1, if_neg h]
theorem cmp_va {a b : Lt} (h1 : a.ac = b.ac) (h : a.ki = b.ki) : cmpLt a b = sgn a.va b.va := by rw [cmpLt, if_pos h1, if_pos h]
set_option maxRecDepth 100000 in
set_option maxHeartbeats 8000000 in
theorem specCompare_any (a b : Lt) (w : World) : Calls Tryz.prog 49 #[ltV a, ltV b] w fun e w' => e = .returned (.int .i64 (cmpLt a b)) ∧ Below w.heap.size w w' := by
  have H1 := Lib.hid (fun h => @cmp_ac a b h)
  have H2 := Lib.hid (fun h1 h => @cmp_ki a b h1 h)
  have H3 := Lib.hid (fun h1 h => @cmp_va a b h1 h)
  generalize cmpLt a b = res at H1 H2 H3 ⊢
  obtain ⟨k1, a1, v1⟩ := a
  obtain ⟨k2, a2, v2⟩ := b
  have S0 := Lib.hid (((Sn.start w).box 55 [.int .i64 k1, .int .i64 a1, .int .i64 v1]).box 55 [.int .i64 k2, .int .i64 a2, .int .i64 v2])
  simp only [World.size_alloc] at S0
  unfold ltV
  by_cases h1 : a1 = a2
  · by_cases h2 : k1 = k2
    · have RES := Lib.hid (H3.out h1 h2)
      clear H1 H2 H3
      have h3 : (a1 == a2) = true := by simpa using h1
      have h4 : (k1 == k2) = true := by simpa using h2
      clear h1 h2
      go_enter Tryz.func49, Tryz.ntmps49
      go_wp2_with fail
      refine (l11Sign_any v1 v2 _).mono ?_
      rintro e w1 ⟨rfl, rfl⟩
      go_wp2
      go_ret
      exact ⟨ret_numZ RES.out.symm, S0.out.1⟩
    · have RES := Lib.hid (H2.out h1 h2)
      clear H1 H2 H3
      have h3 : (a1 == a2) = true := by simpa using h1
      have h4 : (k1 == k2) = false := by simpa using h2
      clear h1 h2
      go_enter Tryz.func49, Tryz.ntmps49
      go_wp2_with fail
      refine (l11Sign_any k1 k2 _).mono ?_
      rintro e w1 ⟨rfl, rfl⟩
      go_wp2
      go_ret
      exact ⟨ret_numZ RES.out.symm, S0.out.1⟩
  · have RES := Lib.hid (H1.out h1)
    clear H1 H2 H3
    have h3 : (a1 == a2) = false := by simpa using h1
    clear h1
    go_enter Tryz.func49, Tryz.ntmps49
    go_wp2_with fail
    refine (l11Sign_any a1 a2 _).mono ?_
    rintro e w1 ⟨rfl, rfl⟩
    go_wp2
    go_ret
    exact ⟨ret_numZ RES.out.symm, S0.out.1⟩
end Go.Proofs.YtgbpomakomddjabGreatDoor
