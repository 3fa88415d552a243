/- DERIVED. CONTRACTS: the filters of the sets, spec and impl. Written by tools/gen_filter.py. -/
import Derived.Test.YtjbpkflladkdnaaSetC
import Derived.Test.YtjbpkflladkdnaaShelf
namespace Go.Proofs.Ytjbpkflladkdnaa
open Go.RowKit

def pickB (p : Int → Bool) (l : List Int) : List Int := l.filter p
def neB (n x : Int) : Bool := x != n
def nhasB (l : List Int) (x : Int) : Bool := !hasB l x
theorem pickB_yes {p : Int → Bool} {xs : List Int} {k : Nat} (h : k < xs.length) (hp : p xs[k] = true) : pickB p (xs.take (k + 1)) = pickB p (xs.take k) ++ [xs[k]] := by
  unfold pickB
  rw [List.take_succ_eq_append_getElem h, List.filter_append]; simp [hp]
theorem pickB_no {p : Int → Bool} {xs : List Int} {k : Nat} (h : k < xs.length) (hp : p xs[k] = false) : pickB p (xs.take (k + 1)) = pickB p (xs.take k) := by
  unfold pickB
  rw [List.take_succ_eq_append_getElem h, List.filter_append]; simp [hp]
theorem pickB_len (p : Int → Bool) (xs : List Int) (k : Nat) : (pickB p (xs.take k)).length ≤ xs.length :=
  Nat.le_trans (List.length_filter_le _ _) (by simp; omega)
theorem inter_pick (a b : List Int) : setB (pickB (hasB b) a) = interB a b := rfl
theorem diff_pick (a b : List Int) : setB (pickB (nhasB b) a) = diffB a b := rfl
theorem inter_pick2 (a b : List Int) : pickB (hasB (setB b)) (setB a) = interB a b := inter_eq a b
theorem diff_pick2 (a b : List Int) : pickB (nhasB (setB b)) (setB a) = diffB a b := diff_eq a b
theorem asc_le {l : List Int} (h : l.Pairwise (· < ·)) : l.Pairwise (· ≤ ·) := h.imp Int.le_of_lt

/-- (ordered).has on an ascending list. -/
theorem implHas2_any (xs : List Int) (x : Int) (v : Value) (w : World) (hr : Rd w v (xs.map (.int .i64))) (hnil : xs.length ≤ 1073741824) (hs : xs.Pairwise (· ≤ ·)) (hne : xs ≠ []) :
    Calls Try.prog 58 #[v, .int .i64 x] w fun e w' => e = .returned (.bool (hasB xs x)) ∧ Below w.heap.size w w' := by
  obtain ⟨hl, A, c, rfl, HR⟩ := rdI hr
  have h0 : 0 < xs.length := List.length_pos_iff.2 hne
  obtain ⟨b, o, rfl, hb, hc⟩ := HR 0 h0
  have HB := Try.bsearch_64 b o xs.length c xs x w (Nat.le_refl _) (by omega) (fun j hj => by rw [hc j hj]; simp [List.getD, List.getElem?_eq_getElem hj]) (by rw [List.take_length]; exact hs)
  rw [List.take_length] at HB
  change Calls _ _ _ _ (fun e w' => e = .returned (.tuple #[_, .bool (hasB xs x)]) ∧ _) at HB
  generalize ((xs.countP fun z => decide (z < x) : Nat) : Int) = q at HB
  clear hc HR hr hs
  generalize hasB xs x = r at HB
  go_enter Try.func58, Try.ntmps58
  go_wp2_with fail
  refine HB.mono ?_
  rintro e w1 ⟨rfl, n, rfl⟩
  go_wp2
  go_ret
  exact ⟨rfl, below_drewN' w n⟩

theorem bsNil_any (A : Option Addr) (c : Nat) (x : Int) (w : World) :
    Calls Try.prog 64 #[.slice A 0 c, .int .i64 x] w fun e w' => e = .returned (.tuple #[.int .i64 0, .bool false]) ∧ Below w.heap.size w w' := by
  go_enter Try.func64, Try.ntmps64
  go_wp2
  refine wp_loop_rounds 1 ?_
  rw [rounds_succ]
  go_wp2
  go_ret2
  exact ⟨rfl, Below.refl _ _⟩

theorem implHasO_any (xs : List Int) (x : Int) (v : Value) (w : World) (hr : Rd w v (xs.map (.int .i64))) (_hn : NilOk v) (hlen : xs.length ≤ 1073741824) (hs : xs.Pairwise (· ≤ ·)) :
    Calls Try.prog 58 #[v, .int .i64 x] w fun e w' => e = .returned (.bool (hasB xs x)) ∧ Below w.heap.size w w' := by
  by_cases hne : xs = []
  · subst hne
    obtain ⟨hl, A, c, rfl, HR⟩ := rdI hr
    clear hl HR hr hs
    go_enter Try.func58, Try.ntmps58
    go_wp2_with fail
    refine (bsNil_any A c x _).mono ?_
    rintro e w1 ⟨rfl, hb⟩
    go_wp2
    go_ret
    exact ⟨rfl, hb⟩
  · exact implHas2_any xs x v w hr hlen hs hne

set_option maxRecDepth 100000 in
set_option maxHeartbeats 2000000 in
theorem specRemove_any (xs : List Int) (n : Int) (v : Value) (w : World) (hr : Rd w v (xs.map (.int .i64))) (hlen : xs.length ≤ 1073741823) :
    Calls Try.prog 36 #[v, .int .i64 n] w fun e w' => ∃ v', e = .returned v' ∧ w'.ownsRow w.heap.size 3 1 v' (pickB (neB n) xs).length ((pickB (neB n) xs).map (.int .i64)) ∧ Below w.heap.size w w' := by
  obtain ⟨hl, A, c, rfl, HR⟩ := rdI hr
  clear hl
  have HA := Lib.hid HR
  clear hr HR
  have hown0 : (w.alloc (.cells #[] 3)).ownsRow w.heap.size 3 1 (.slice (some ⟨w.heap.size, 0, none⟩) 0 0) 0 [] := World.ownsRow_made w #[] 0 (Nat.le_refl _) (by decide) rfl
  have O0 := Lib.hid (And.intro hown0 ((Below.refl _ w).alloc (Nat.le_refl _) (.cells #[] 3)))
  clear hown0
  go_enter Try.func36, Try.ntmps36
  go_wp2
  go_loopw [5, 11] (fun out i wr => ∃ k : Nat, k ≤ xs.length ∧ i = .int .i64 k ∧ wr.ownsRow w.heap.size 3 1 out (pickB (neB n) (xs.take k)).length ((pickB (neB n) (xs.take k)).map (.int .i64)) ∧ Below w.heap.size w wr) (fun _ i _ => xs.length - (intOf i).toNat)
  case atStart => exact ⟨0, Nat.zero_le _, rfl, O0.out.1, O0.out.2⟩
  case round =>
    obtain ⟨k, hk, rfl, hown, hbel⟩ := hrel
    by_cases hlt : k < xs.length
    · have hlt' : (k : Int) < (xs.length : Int) := by omega
      obtain ⟨b, o, rfl, hb, hc⟩ := HA.out k hlt
      have cx := (hbel.cell (p := ⟨b, o + k, none⟩) hb).trans (hc k hlt)
      clear hc
      have hl2 := pickB_len (neB n) xs k
      rcases hp : (neB n) xs[k] with _ | _
      · have HF := Lib.hid (pickB_no hlt hp)
        generalize pickB (neB n) (xs.take k) = zs at hown HF hl2
        have HP := Lib.hid hp
        clear hp
        generalize xs[k] = y at cx HF HP
        have hb := HP.out
        unfold neB at hb
        have hb' : (y != n) = false := hb
        have he : y = n := by simpa using hb'
        clear hb hb'
        rw [← HF.out] at hown
        have S2 := Lib.hid (And.intro hown hbel)
        clear hown
        go_wp2
        go_roundw
        case rel => exact ⟨k + 1, by omega, by go_num, S2.out.1, S2.out.2⟩
        case measure => simp [intOf]; omega
      · have HF := Lib.hid (pickB_yes hlt hp)
        generalize pickB (neB n) (xs.take k) = zs at hown HF hl2
        have HP := Lib.hid hp
        clear hp
        generalize xs[k] = y at cx HF HP
        have hb := HP.out
        unfold neB at hb
        have hb' : (y != n) = true := hb
        go_wp2_with (first
          | (at_builtin; refine app_rd rfl (.tmp 18) (.tmp 20) 23 rfl rfl w.heap.size _ _ zs [y] rfl rfl (by exact hown.alloc _) (by exact rd_new _ y _) (nilOk_some _ _ _) (by simp; omega) (by have := hbel.size; simp; omega) ?_; intro v2 w2 hown2 hg2 _
             have S2 := Lib.hid (And.intro hown2 (step_below hbel hg2 hbel.size (own_mem hown)))
             rw [← HF.out] at S2
             clear hown2 hg2 hown hbel))
        go_roundw
        case rel => exact ⟨k + 1, by omega, by go_num, S2.out.1, S2.out.2⟩
        case measure => simp [intOf]; omega
    · have hge : ¬ (k : Int) < (xs.length : Int) := by omega
      have hl2 := pickB_len (neB n) xs k
      obtain rfl : k = xs.length := by omega
      rw [List.take_of_length_le (Nat.le_refl _)] at hown hl2
      have R := Lib.hid (And.intro hown hbel)
      clear hown
      go_wp2
      go_ret
      exact ⟨_, rfl, R.out.1, R.out.2⟩

set_option maxRecDepth 100000 in
set_option maxHeartbeats 2000000 in
theorem implRemove_any (xs : List Int) (n : Int) (v : Value) (w : World) (hr : Rd w v (xs.map (.int .i64))) (hlen : xs.length ≤ 1073741823) :
    Calls Try.prog 26 #[v, .int .i64 n] w fun e w' => ∃ v', e = .returned v' ∧ w'.ownsRow w.heap.size 3 1 v' (pickB (neB n) xs).length ((pickB (neB n) xs).map (.int .i64)) ∧ Below w.heap.size w w' := by
  obtain ⟨hl, A, c, rfl, HR⟩ := rdI hr
  clear hl
  have HA := Lib.hid HR
  clear hr HR
  have O0 := Lib.hid (And.intro (World.ownsRow_nil w w.heap.size 3 1) (Below.refl w.heap.size w))
  go_enter Try.func26, Try.ntmps26
  go_wp2
  go_loopw [5, 10] (fun out i wr => ∃ k : Nat, k ≤ xs.length ∧ i = .int .i64 k ∧ wr.ownsRow w.heap.size 3 1 out (pickB (neB n) (xs.take k)).length ((pickB (neB n) (xs.take k)).map (.int .i64)) ∧ Below w.heap.size w wr) (fun _ i _ => xs.length - (intOf i).toNat)
  case atStart => exact ⟨0, Nat.zero_le _, rfl, O0.out.1, O0.out.2⟩
  case round =>
    obtain ⟨k, hk, rfl, hown, hbel⟩ := hrel
    by_cases hlt : k < xs.length
    · have hlt' : (k : Int) < (xs.length : Int) := by omega
      obtain ⟨b, o, rfl, hb, hc⟩ := HA.out k hlt
      have cx := (hbel.cell (p := ⟨b, o + k, none⟩) hb).trans (hc k hlt)
      clear hc
      have hl2 := pickB_len (neB n) xs k
      rcases hp : (neB n) xs[k] with _ | _
      · have HF := Lib.hid (pickB_no hlt hp)
        generalize pickB (neB n) (xs.take k) = zs at hown HF hl2
        have HP := Lib.hid hp
        clear hp
        generalize xs[k] = y at cx HF HP
        have hb := HP.out
        unfold neB at hb
        have hb' : (y != n) = false := hb
        have he : y = n := by simpa using hb'
        clear hb hb'
        rw [← HF.out] at hown
        have S2 := Lib.hid (And.intro hown hbel)
        clear hown
        go_wp2
        go_roundw
        case rel => exact ⟨k + 1, by omega, by go_num, S2.out.1, S2.out.2⟩
        case measure => simp [intOf]; omega
      · have HF := Lib.hid (pickB_yes hlt hp)
        generalize pickB (neB n) (xs.take k) = zs at hown HF hl2
        have HP := Lib.hid hp
        clear hp
        generalize xs[k] = y at cx HF HP
        have hb := HP.out
        unfold neB at hb
        have hb' : (y != n) = true := hb
        go_wp2_with (first
          | (at_builtin; refine app_rd rfl (.tmp 17) (.tmp 19) 23 rfl rfl w.heap.size _ _ zs [y] rfl rfl (by exact hown.alloc _) (by exact rd_new _ y _) (nilOk_some _ _ _) (by simp; omega) (by have := hbel.size; simp; omega) ?_; intro v2 w2 hown2 hg2 _
             have S2 := Lib.hid (And.intro hown2 (step_below hbel hg2 hbel.size (own_mem hown)))
             rw [← HF.out] at S2
             clear hown2 hg2 hown hbel))
        go_roundw
        case rel => exact ⟨k + 1, by omega, by go_num, S2.out.1, S2.out.2⟩
        case measure => simp [intOf]; omega
    · have hge : ¬ (k : Int) < (xs.length : Int) := by omega
      have hl2 := pickB_len (neB n) xs k
      obtain rfl : k = xs.length := by omega
      rw [List.take_of_length_le (Nat.le_refl _)] at hown hl2
      have R := Lib.hid (And.intro hown hbel)
      clear hown
      go_wp2
      go_ret
      exact ⟨_, rfl, R.out.1, R.out.2⟩

set_option maxRecDepth 100000 in
set_option maxHeartbeats 2000000 in
theorem specInter_any (xs ys : List Int) (v u : Value) (w : World) (hr : Rd w v (xs.map (.int .i64))) (hu : Rd w u (ys.map (.int .i64))) (hlen : xs.length ≤ 1073741823) :
    Calls Try.prog 38 #[v, u] w fun e w' => ∃ v', e = .returned v' ∧ w'.ownsRow w.heap.size 3 1 v' (interB xs ys).length ((interB xs ys).map (.int .i64)) ∧ Below w.heap.size w w' := by
  obtain ⟨hl, A, c, rfl, HR⟩ := rdI hr
  clear hl
  have HA := Lib.hid HR
  have HU := Lib.hid hu
  clear hu
  clear hr HR
  have hown0 : (w.alloc (.cells #[] 3)).ownsRow w.heap.size 3 1 (.slice (some ⟨w.heap.size, 0, none⟩) 0 0) 0 [] := World.ownsRow_made w #[] 0 (Nat.le_refl _) (by decide) rfl
  have O0 := Lib.hid (And.intro hown0 ((Below.refl _ w).alloc (Nat.le_refl _) (.cells #[] 3)))
  clear hown0
  go_enter Try.func38, Try.ntmps38
  go_wp2
  go_loopw [5, 11] (fun out i wr => ∃ k : Nat, k ≤ xs.length ∧ i = .int .i64 k ∧ wr.ownsRow w.heap.size 3 1 out (pickB (hasB ys) (xs.take k)).length ((pickB (hasB ys) (xs.take k)).map (.int .i64)) ∧ Below w.heap.size w wr) (fun _ i _ => xs.length - (intOf i).toNat)
  case atStart => exact ⟨0, Nat.zero_le _, rfl, O0.out.1, O0.out.2⟩
  case round =>
    obtain ⟨k, hk, rfl, hown, hbel⟩ := hrel
    by_cases hlt : k < xs.length
    · have hlt' : (k : Int) < (xs.length : Int) := by omega
      obtain ⟨b, o, rfl, hb, hc⟩ := HA.out k hlt
      have cx := (hbel.cell (p := ⟨b, o + k, none⟩) hb).trans (hc k hlt)
      clear hc
      have hl2 := pickB_len (hasB ys) xs k
      rcases hp : (hasB ys) xs[k] with _ | _
      · have HF := Lib.hid (pickB_no hlt hp)
        generalize pickB (hasB ys) (xs.take k) = zs at hown HF hl2
        have HP := Lib.hid hp
        clear hp
        generalize xs[k] = y at cx HF HP
        go_wp2_with fail
        refine (specHas_any ys y u _ (HU.out.below hbel (Nat.le_refl _))).mono ?_
        rintro e w1 ⟨rfl, hw⟩
        obtain rfl := hw.symm
        rw [HP.out]
        rw [← HF.out] at hown
        have S2 := Lib.hid (And.intro hown hbel)
        clear hown
        go_wp2
        go_roundw
        case rel => exact ⟨k + 1, by omega, by go_num, S2.out.1, S2.out.2⟩
        case measure => simp [intOf]; omega
      · have HF := Lib.hid (pickB_yes hlt hp)
        generalize pickB (hasB ys) (xs.take k) = zs at hown HF hl2
        have HP := Lib.hid hp
        clear hp
        generalize xs[k] = y at cx HF HP
        go_wp2_with fail
        refine (specHas_any ys y u _ (HU.out.below hbel (Nat.le_refl _))).mono ?_
        rintro e w1 ⟨rfl, hw⟩
        obtain rfl := hw.symm
        rw [HP.out]
        go_wp2_with (first
          | (at_builtin; refine app_rd rfl (.tmp 18) (.tmp 20) 23 rfl rfl w.heap.size _ _ zs [y] rfl rfl (by exact hown.alloc _) (by exact rd_new _ y _) (nilOk_some _ _ _) (by simp; omega) (by have := hbel.size; simp; omega) ?_; intro v2 w2 hown2 hg2 _
             have S2 := Lib.hid (And.intro hown2 (step_below hbel hg2 hbel.size (own_mem hown)))
             rw [← HF.out] at S2
             clear hown2 hg2 hown hbel))
        go_roundw
        case rel => exact ⟨k + 1, by omega, by go_num, S2.out.1, S2.out.2⟩
        case measure => simp [intOf]; omega
    · have hge : ¬ (k : Int) < (xs.length : Int) := by omega
      have hl2 := pickB_len (hasB ys) xs k
      obtain rfl : k = xs.length := by omega
      rw [List.take_of_length_le (Nat.le_refl _)] at hown hl2
      have R := Lib.hid (And.intro hown hbel)
      clear hown
      go_wp2_with fail
      refine (specSetOf_any _ _ _ (own_rd R.out.1 (by unfold maxLen; omega)) (by omega)).mono ?_
      rintro e w2 ⟨v2, rfl, ho2, _, hb2⟩
      rw [inter_pick] at ho2
      have R2 := Lib.hid (And.intro (own_base ho2 R.out.2.size) (R.out.2.trans (hb2.mono R.out.2.size)))
      clear ho2 hb2
      go_wp2
      go_ret
      exact ⟨_, rfl, R2.out.1, R2.out.2⟩

set_option maxRecDepth 100000 in
set_option maxHeartbeats 2000000 in
theorem specDiff_any (xs ys : List Int) (v u : Value) (w : World) (hr : Rd w v (xs.map (.int .i64))) (hu : Rd w u (ys.map (.int .i64))) (hlen : xs.length ≤ 1073741823) :
    Calls Try.prog 39 #[v, u] w fun e w' => ∃ v', e = .returned v' ∧ w'.ownsRow w.heap.size 3 1 v' (diffB xs ys).length ((diffB xs ys).map (.int .i64)) ∧ Below w.heap.size w w' := by
  obtain ⟨hl, A, c, rfl, HR⟩ := rdI hr
  clear hl
  have HA := Lib.hid HR
  have HU := Lib.hid hu
  clear hu
  clear hr HR
  have hown0 : (w.alloc (.cells #[] 3)).ownsRow w.heap.size 3 1 (.slice (some ⟨w.heap.size, 0, none⟩) 0 0) 0 [] := World.ownsRow_made w #[] 0 (Nat.le_refl _) (by decide) rfl
  have O0 := Lib.hid (And.intro hown0 ((Below.refl _ w).alloc (Nat.le_refl _) (.cells #[] 3)))
  clear hown0
  go_enter Try.func39, Try.ntmps39
  go_wp2
  go_loopw [5, 11] (fun out i wr => ∃ k : Nat, k ≤ xs.length ∧ i = .int .i64 k ∧ wr.ownsRow w.heap.size 3 1 out (pickB (nhasB ys) (xs.take k)).length ((pickB (nhasB ys) (xs.take k)).map (.int .i64)) ∧ Below w.heap.size w wr) (fun _ i _ => xs.length - (intOf i).toNat)
  case atStart => exact ⟨0, Nat.zero_le _, rfl, O0.out.1, O0.out.2⟩
  case round =>
    obtain ⟨k, hk, rfl, hown, hbel⟩ := hrel
    by_cases hlt : k < xs.length
    · have hlt' : (k : Int) < (xs.length : Int) := by omega
      obtain ⟨b, o, rfl, hb, hc⟩ := HA.out k hlt
      have cx := (hbel.cell (p := ⟨b, o + k, none⟩) hb).trans (hc k hlt)
      clear hc
      have hl2 := pickB_len (nhasB ys) xs k
      rcases hp : (nhasB ys) xs[k] with _ | _
      · have HF := Lib.hid (pickB_no hlt hp)
        generalize pickB (nhasB ys) (xs.take k) = zs at hown HF hl2
        have HP := Lib.hid hp
        clear hp
        generalize xs[k] = y at cx HF HP
        go_wp2_with fail
        refine (specHas_any ys y u _ (HU.out.below hbel (Nat.le_refl _))).mono ?_
        rintro e w1 ⟨rfl, hw⟩
        obtain rfl := hw.symm
        have hq : hasB ys y = true := by have := HP.out; unfold nhasB at this; simpa using this
        rw [hq]
        clear hq
        rw [← HF.out] at hown
        have S2 := Lib.hid (And.intro hown hbel)
        clear hown
        go_wp2
        go_roundw
        case rel => exact ⟨k + 1, by omega, by go_num, S2.out.1, S2.out.2⟩
        case measure => simp [intOf]; omega
      · have HF := Lib.hid (pickB_yes hlt hp)
        generalize pickB (nhasB ys) (xs.take k) = zs at hown HF hl2
        have HP := Lib.hid hp
        clear hp
        generalize xs[k] = y at cx HF HP
        go_wp2_with fail
        refine (specHas_any ys y u _ (HU.out.below hbel (Nat.le_refl _))).mono ?_
        rintro e w1 ⟨rfl, hw⟩
        obtain rfl := hw.symm
        have hq : hasB ys y = false := by have := HP.out; unfold nhasB at this; simpa using this
        rw [hq]
        clear hq
        go_wp2_with (first
          | (at_builtin; refine app_rd rfl (.tmp 19) (.tmp 21) 23 rfl rfl w.heap.size _ _ zs [y] rfl rfl (by exact hown.alloc _) (by exact rd_new _ y _) (nilOk_some _ _ _) (by simp; omega) (by have := hbel.size; simp; omega) ?_; intro v2 w2 hown2 hg2 _
             have S2 := Lib.hid (And.intro hown2 (step_below hbel hg2 hbel.size (own_mem hown)))
             rw [← HF.out] at S2
             clear hown2 hg2 hown hbel))
        go_roundw
        case rel => exact ⟨k + 1, by omega, by go_num, S2.out.1, S2.out.2⟩
        case measure => simp [intOf]; omega
    · have hge : ¬ (k : Int) < (xs.length : Int) := by omega
      have hl2 := pickB_len (nhasB ys) xs k
      obtain rfl : k = xs.length := by omega
      rw [List.take_of_length_le (Nat.le_refl _)] at hown hl2
      have R := Lib.hid (And.intro hown hbel)
      clear hown
      go_wp2_with fail
      refine (specSetOf_any _ _ _ (own_rd R.out.1 (by unfold maxLen; omega)) (by omega)).mono ?_
      rintro e w2 ⟨v2, rfl, ho2, _, hb2⟩
      rw [diff_pick] at ho2
      have R2 := Lib.hid (And.intro (own_base ho2 R.out.2.size) (R.out.2.trans (hb2.mono R.out.2.size)))
      clear ho2 hb2
      go_wp2
      go_ret
      exact ⟨_, rfl, R2.out.1, R2.out.2⟩

set_option maxRecDepth 100000 in
set_option maxHeartbeats 2000000 in
theorem implCommon_any (xs ys : List Int) (v u : Value) (w : World) (hr : Rd w v (xs.map (.int .i64))) (hu : Rd w u (ys.map (.int .i64))) (hys : ys.length ≤ 1073741824) (hs : ys.Pairwise (· ≤ ·)) (hne : NilOk u) (hlen : xs.length ≤ 1073741823) :
    Calls Try.prog 46 #[v, u] w fun e w' => ∃ v', e = .returned v' ∧ w'.ownsRow w.heap.size 3 1 v' (pickB (hasB ys) xs).length ((pickB (hasB ys) xs).map (.int .i64)) ∧ Below w.heap.size w w' := by
  obtain ⟨hl, A, c, rfl, HR⟩ := rdI hr
  clear hl
  have HA := Lib.hid HR
  have HU := Lib.hid hu
  have HS := Lib.hid hs
  have HN := Lib.hid hne
  clear hu hs hne
  clear hr HR
  have O0 := Lib.hid (And.intro (World.ownsRow_nil w w.heap.size 3 1) (Below.refl w.heap.size w))
  go_enter Try.func46, Try.ntmps46
  go_wp2
  go_loopw [5, 10] (fun out i wr => ∃ k : Nat, k ≤ xs.length ∧ i = .int .i64 k ∧ wr.ownsRow w.heap.size 3 1 out (pickB (hasB ys) (xs.take k)).length ((pickB (hasB ys) (xs.take k)).map (.int .i64)) ∧ Below w.heap.size w wr) (fun _ i _ => xs.length - (intOf i).toNat)
  case atStart => exact ⟨0, Nat.zero_le _, rfl, O0.out.1, O0.out.2⟩
  case round =>
    obtain ⟨k, hk, rfl, hown, hbel⟩ := hrel
    by_cases hlt : k < xs.length
    · have hlt' : (k : Int) < (xs.length : Int) := by omega
      obtain ⟨b, o, rfl, hb, hc⟩ := HA.out k hlt
      have cx := (hbel.cell (p := ⟨b, o + k, none⟩) hb).trans (hc k hlt)
      clear hc
      have hl2 := pickB_len (hasB ys) xs k
      rcases hp : (hasB ys) xs[k] with _ | _
      · have HF := Lib.hid (pickB_no hlt hp)
        generalize pickB (hasB ys) (xs.take k) = zs at hown HF hl2
        have HP := Lib.hid hp
        clear hp
        generalize xs[k] = y at cx HF HP
        go_wp2_with fail
        refine (implHasO_any ys y u _ (HU.out.below hbel (Nat.le_refl _)) HN.out hys HS.out).mono ?_
        rintro e w1 ⟨rfl, hb1⟩
        have X1 := And.intro (own_below hown hb1 (Nat.le_refl _)) (hbel.trans (hb1.mono hbel.size))
        clear hown hbel hb1
        obtain ⟨hown, hbel⟩ := X1
        rw [HP.out]
        rw [← HF.out] at hown
        have S2 := Lib.hid (And.intro hown hbel)
        clear hown
        go_wp2
        go_roundw
        case rel => exact ⟨k + 1, by omega, by go_num, S2.out.1, S2.out.2⟩
        case measure => simp [intOf]; omega
      · have HF := Lib.hid (pickB_yes hlt hp)
        generalize pickB (hasB ys) (xs.take k) = zs at hown HF hl2
        have HP := Lib.hid hp
        clear hp
        generalize xs[k] = y at cx HF HP
        go_wp2_with fail
        refine (implHasO_any ys y u _ (HU.out.below hbel (Nat.le_refl _)) HN.out hys HS.out).mono ?_
        rintro e w1 ⟨rfl, hb1⟩
        have X1 := And.intro (own_below hown hb1 (Nat.le_refl _)) (hbel.trans (hb1.mono hbel.size))
        clear hown hbel hb1
        obtain ⟨hown, hbel⟩ := X1
        rw [HP.out]
        go_wp2_with (first
          | (at_builtin; refine app_rd rfl (.tmp 17) (.tmp 19) 41 rfl rfl w.heap.size _ _ zs [y] rfl rfl (by exact hown.alloc _) (by exact rd_new _ y _) (nilOk_some _ _ _) (by simp; omega) (by have := hbel.size; simp; omega) ?_; intro v2 w2 hown2 hg2 _
             have S2 := Lib.hid (And.intro hown2 (step_below hbel hg2 hbel.size (own_mem hown)))
             rw [← HF.out] at S2
             clear hown2 hg2 hown hbel))
        go_roundw
        case rel => exact ⟨k + 1, by omega, by go_num, S2.out.1, S2.out.2⟩
        case measure => simp [intOf]; omega
    · have hge : ¬ (k : Int) < (xs.length : Int) := by omega
      have hl2 := pickB_len (hasB ys) xs k
      obtain rfl : k = xs.length := by omega
      rw [List.take_of_length_le (Nat.le_refl _)] at hown hl2
      have R := Lib.hid (And.intro hown hbel)
      clear hown
      go_wp2
      go_ret
      exact ⟨_, rfl, R.out.1, R.out.2⟩

set_option maxRecDepth 100000 in
set_option maxHeartbeats 2000000 in
theorem implWithout_any (xs ys : List Int) (v u : Value) (w : World) (hr : Rd w v (xs.map (.int .i64))) (hu : Rd w u (ys.map (.int .i64))) (hys : ys.length ≤ 1073741824) (hs : ys.Pairwise (· ≤ ·)) (hne : NilOk u) (hlen : xs.length ≤ 1073741823) :
    Calls Try.prog 47 #[v, u] w fun e w' => ∃ v', e = .returned v' ∧ w'.ownsRow w.heap.size 3 1 v' (pickB (nhasB ys) xs).length ((pickB (nhasB ys) xs).map (.int .i64)) ∧ Below w.heap.size w w' := by
  obtain ⟨hl, A, c, rfl, HR⟩ := rdI hr
  clear hl
  have HA := Lib.hid HR
  have HU := Lib.hid hu
  have HS := Lib.hid hs
  have HN := Lib.hid hne
  clear hu hs hne
  clear hr HR
  have O0 := Lib.hid (And.intro (World.ownsRow_nil w w.heap.size 3 1) (Below.refl w.heap.size w))
  go_enter Try.func47, Try.ntmps47
  go_wp2
  go_loopw [5, 10] (fun out i wr => ∃ k : Nat, k ≤ xs.length ∧ i = .int .i64 k ∧ wr.ownsRow w.heap.size 3 1 out (pickB (nhasB ys) (xs.take k)).length ((pickB (nhasB ys) (xs.take k)).map (.int .i64)) ∧ Below w.heap.size w wr) (fun _ i _ => xs.length - (intOf i).toNat)
  case atStart => exact ⟨0, Nat.zero_le _, rfl, O0.out.1, O0.out.2⟩
  case round =>
    obtain ⟨k, hk, rfl, hown, hbel⟩ := hrel
    by_cases hlt : k < xs.length
    · have hlt' : (k : Int) < (xs.length : Int) := by omega
      obtain ⟨b, o, rfl, hb, hc⟩ := HA.out k hlt
      have cx := (hbel.cell (p := ⟨b, o + k, none⟩) hb).trans (hc k hlt)
      clear hc
      have hl2 := pickB_len (nhasB ys) xs k
      rcases hp : (nhasB ys) xs[k] with _ | _
      · have HF := Lib.hid (pickB_no hlt hp)
        generalize pickB (nhasB ys) (xs.take k) = zs at hown HF hl2
        have HP := Lib.hid hp
        clear hp
        generalize xs[k] = y at cx HF HP
        go_wp2_with fail
        refine (implHasO_any ys y u _ (HU.out.below hbel (Nat.le_refl _)) HN.out hys HS.out).mono ?_
        rintro e w1 ⟨rfl, hb1⟩
        have X1 := And.intro (own_below hown hb1 (Nat.le_refl _)) (hbel.trans (hb1.mono hbel.size))
        clear hown hbel hb1
        obtain ⟨hown, hbel⟩ := X1
        have hq : hasB ys y = true := by have := HP.out; unfold nhasB at this; simpa using this
        rw [hq]
        clear hq
        rw [← HF.out] at hown
        have S2 := Lib.hid (And.intro hown hbel)
        clear hown
        go_wp2
        go_roundw
        case rel => exact ⟨k + 1, by omega, by go_num, S2.out.1, S2.out.2⟩
        case measure => simp [intOf]; omega
      · have HF := Lib.hid (pickB_yes hlt hp)
        generalize pickB (nhasB ys) (xs.take k) = zs at hown HF hl2
        have HP := Lib.hid hp
        clear hp
        generalize xs[k] = y at cx HF HP
        go_wp2_with fail
        refine (implHasO_any ys y u _ (HU.out.below hbel (Nat.le_refl _)) HN.out hys HS.out).mono ?_
        rintro e w1 ⟨rfl, hb1⟩
        have X1 := And.intro (own_below hown hb1 (Nat.le_refl _)) (hbel.trans (hb1.mono hbel.size))
        clear hown hbel hb1
        obtain ⟨hown, hbel⟩ := X1
        have hq : hasB ys y = false := by have := HP.out; unfold nhasB at this; simpa using this
        rw [hq]
        clear hq
        go_wp2_with (first
          | (at_builtin; refine app_rd rfl (.tmp 18) (.tmp 20) 41 rfl rfl w.heap.size _ _ zs [y] rfl rfl (by exact hown.alloc _) (by exact rd_new _ y _) (nilOk_some _ _ _) (by simp; omega) (by have := hbel.size; simp; omega) ?_; intro v2 w2 hown2 hg2 _
             have S2 := Lib.hid (And.intro hown2 (step_below hbel hg2 hbel.size (own_mem hown)))
             rw [← HF.out] at S2
             clear hown2 hg2 hown hbel))
        go_roundw
        case rel => exact ⟨k + 1, by omega, by go_num, S2.out.1, S2.out.2⟩
        case measure => simp [intOf]; omega
    · have hge : ¬ (k : Int) < (xs.length : Int) := by omega
      have hl2 := pickB_len (nhasB ys) xs k
      obtain rfl : k = xs.length := by omega
      rw [List.take_of_length_le (Nat.le_refl _)] at hown hl2
      have R := Lib.hid (And.intro hown hbel)
      clear hown
      go_wp2
      go_ret
      exact ⟨_, rfl, R.out.1, R.out.2⟩

end Go.Proofs.Ytjbpkflladkdnaa
