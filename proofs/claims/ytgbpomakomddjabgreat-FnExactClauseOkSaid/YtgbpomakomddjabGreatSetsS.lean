/- DERIVED. CONTRACTS: impl.SetHas, SetOf, SetAdd, SetUnion, SetIntersection, SetDifference, SetSubset, SetEqual. -/
import Derived.Test.YtgbpomakomddjabGreatDats
import Derived.Test.YtgbpomakomddjabGreatSets
import Derived.Test.YtgbpomakomddjabGreatShelf
import Derived.Shelf.Spec.SlicesGrow
import Derived.Lib.OwnBridge
import Derived.Sort.Grow

section
namespace Go.Proofs.YtgbpomakomddjabGreat
open Go.RowKit Go.Shelf

theorem growNil_any (n : Nat) (w : World) (hn : n ≤ 1073741824) :
    Calls Tryz.prog 166 #[.slice none 0 0, .int .i64 n] w fun e w' => ∃ v', e = .returned v' ∧ w'.ownsRow w.heap.size 3 1 v' 0 [] ∧ Below w.heap.size w w' := by
  obtain ⟨i0, hi, hz0, hz1, hz2⟩ := info_parts infoInt
  by_cases h0 : n = 0
  · subst h0
    refine (Any8.slices_Grow_room Tryz.laysGrow_166 none 0 0 0 w (Nat.le_refl _) (by omega) (by omega) (Nat.le_refl _)).mono ?_
    rintro e w1 ⟨rfl, rfl⟩
    exact ⟨_, rfl, World.ownsRow_nil _ _ _ _, Below.refl _ _⟩
  · refine (Any8.slices_Grow_grow Tryz.laysGrow_166 i0 (.int .i64 0) hi hz0 (by omega) none 0 0 n [] w (Nat.le_refl _) (by omega) (by rw [hz2]; omega) (by omega) (by simp) (fun _ => rfl) (fun a h => by cases h)).mono ?_
    rintro e w1 ⟨rfl, rfl⟩
    have hge := grownCap_ge w (0 + n) 0 3
    have hle := grownCap_le_maxLen w (0 + n) 0 3 (by unfold maxLen; omega)
    refine ⟨_, rfl, ?_, ?_⟩
    · exact World.ownsRow_made w.drew _ _ (Nat.le_refl _) hle (by
        simp only [Array.size_append, size_zeroCells]
        change 0 + (0 + n - 0) * 1 + (grownCap w (0 + n) 0 3 - (0 + n)) * 1 = grownCap w (0 + n) 0 3 * 1
        omega)
    · exact (below_drewN' w 1).alloc (Nat.le_refl _) _

def catB (Ls : List (List Int)) : List Int := Ls.flatten
theorem cat_take {Ls : List (List Int)} {k : Nat} (h : k < Ls.length) : (catB (Ls.take (k + 1))) = (catB (Ls.take k)) ++ Ls[k] := by
  unfold catB
  rw [List.take_succ_eq_append_getElem h, List.flatten_append]; simp
theorem flat_le (Ls : List (List Int)) (k : Nat) : (catB (Ls.take k)).length ≤ (catB Ls).length := by
  unfold catB
  conv => rhs; rw [← List.take_append_drop k Ls, List.flatten_append, List.length_append]
  omega

set_option maxRecDepth 100000 in
set_option maxHeartbeats 2000000 in
theorem concat_any (vs : List Value) (Ls : List (List Int)) (vl : Value) (w : World) (hr : Rd w vl vs) (hn : vs.length = Ls.length) (hn0 : 0 < vs.length)
    (hel : ∀ i, (h : i < vs.length) → Rd w vs[i] ((Ls[i]'(hn ▸ h)).map (.int .i64)) ∧ NilOk vs[i]) (hlen : (catB Ls).length ≤ 1073741824) :
    Calls Tryz.prog 149 #[vl] w fun e w' => ∃ v', e = .returned v' ∧ w'.ownsRow w.heap.size 3 1 v' (catB Ls).length ((catB Ls).map (.int .i64)) ∧ Below w.heap.size w w' := by
  obtain ⟨hl, A, c, rfl, h⟩ := hr
  unfold maxLen at hl
  rcases h with h | ⟨b, o, rfl, hb, hc⟩
  · rw [h] at hn0; simp at hn0
  have HC := Lib.hid hc
  have HE := Lib.hid hel
  clear hc hel
  go_enter Tryz.func149, Tryz.ntmps149
  go_wp2
  go_loopw [3, 11] (fun s i wr => ∃ k : Nat, k ≤ vs.length ∧ i = .int .i64 k ∧ s = .int .i64 ((catB (Ls.take k)).length : Nat) ∧ w = wr) (fun _ i _ => vs.length - (intOf i).toNat)
  case atStart => exact ⟨0, Nat.zero_le _, rfl, rfl, rfl⟩
  case round =>
    obtain ⟨k, hk, rfl, rfl, rfl⟩ := hrel
    by_cases hlt : k < vs.length
    · have hlt' : (k : Int) < (vs.length : Int) := by omega
      have cx := HC.out k hlt
      obtain ⟨⟨hlk, A1, c1, he, _⟩, _⟩ := HE.out k hlt
      rw [List.length_map] at he
      rw [he] at cx
      have HF := Lib.hid (cat_take (k := k) (Ls := Ls) (by omega))
      have hb1 := flat_le Ls (k + 1)
      rw [HF.out, List.length_append] at hb1
      have hsum : ((catB (Ls.take (k + 1))).length : Int) = ((catB (Ls.take k)).length : Int) + ((Ls[k]'(by omega)).length : Int) := by rw [HF.out, List.length_append]; omega
      have HS := Lib.hid hsum
      clear hsum hlk he
      generalize (catB (Ls.take k)).length = m at HS hb1
      generalize (Ls[k]'(by omega)).length = q at HS hb1 cx
      have hnn : ¬ ((m : Int) + (q : Int) < 0) := by omega
      go_wp2
      go_roundw
      case rel => exact ⟨k + 1, by omega, by go_num, by rw [HS.out], by trivial⟩
      case measure => simp [intOf]; omega
    · have hge : ¬ (k : Int) < (vs.length : Int) := by omega
      obtain rfl : k = vs.length := by omega
      rw [List.take_of_length_le (by omega)]
      go_wp2_with fail
      refine (growNil_any _ _ (by omega)).mono ?_
      rintro e w1 ⟨v1, rfl, o1, b1⟩
      have O1 := Lib.hid (And.intro o1 b1)
      clear o1 b1
      go_wp2
      go_loopw [6, 27] (fun out i wr => ∃ k : Nat, k ≤ vs.length ∧ i = .int .i64 k ∧ wr.ownsRow w.heap.size 3 1 out (catB (Ls.take k)).length ((catB (Ls.take k)).map (.int .i64)) ∧ Below w.heap.size w wr) (fun _ i _ => vs.length - (intOf i).toNat)
      case atStart => exact ⟨0, Nat.zero_le _, rfl, O1.out.1, O1.out.2⟩
      case round =>
        obtain ⟨k, hk, rfl, hown, hbel⟩ := hrel
        by_cases hlt : k < vs.length
        · have hlt' : (k : Int) < (vs.length : Int) := by omega
          have cx := (hbel.cell (p := ⟨b, o + k, none⟩) hb).trans (HC.out k hlt)
          have HR := Lib.hid (HE.out k hlt)
          have HF := Lib.hid (cat_take (k := k) (Ls := Ls) (by omega))
          have hb1 := flat_le Ls (k + 1)
          rw [HF.out, List.length_append] at hb1
          generalize hV : vs[k] = V at cx HR
          clear hV
          generalize hys : Ls[k]'(by omega) = ys at HR HF hb1
          clear hys
          generalize (catB (Ls.take k)) = zs at hown HF hb1
          go_wp2_with (first
            | (at_builtin; refine app_rd rfl (.tmp 31) (.tmp 32) 25 rfl rfl w.heap.size _ _ zs ys rfl rfl (by exact hown) (by exact HR.out.1.below hbel (Nat.le_refl _)) HR.out.2 (by omega) hbel.size ?_; intro v2 w2 hown2 hg2 _
               have S2 := Lib.hid (And.intro hown2 (hbel.grown hg2 hbel.size (own_mem hown)))
               rw [← HF.out] at S2
               clear hown2 hg2 hown hbel))
          go_roundw
          case rel => exact ⟨k + 1, by omega, by go_num, S2.out.1, S2.out.2⟩
          case measure => simp [intOf]; omega
        · have hge : ¬ (k : Int) < (vs.length : Int) := by omega
          obtain rfl : k = vs.length := by omega
          rw [List.take_of_length_le (by omega)] at hown
          have R := Lib.hid (And.intro hown hbel)
          clear hown
          go_wp2
          go_ret
          exact ⟨_, rfl, R.out.1, R.out.2⟩
end Go.Proofs.YtgbpomakomddjabGreat
end

section
namespace Go.Proofs.YtgbpomakomddjabGreat
open Go.RowKit

def pickB (p : Int → Bool) (l : List Int) : List Int := l.filter p
def neB (n x : Int) : Bool := x != n
def nhasB (l : List Int) (x : Int) : Bool := !hasB l x
theorem pickB_yes {p : Int → Bool} {xs : List Int} {k : Nat} (h : k < xs.length) (hp : p xs[k] = true) : pickB p (xs.take (k + 1)) = pickB p (xs.take k) ++ [xs[k]] := by
  unfold pickB
  rw [List.take_succ_eq_append_getElem h, List.filter_append]; simp [hp]
theorem pickB_no {p : Int → Bool} {xs : List Int} {k : Nat} (h : k < xs.length) (hp : p xs[k] = false) : pickB p (xs.take (k + 1)) = pickB p (xs.take k) := by
  unfold pickB
  rw [List.take_succ_eq_append_getElem h, List.filter_append]; simp [hp]
theorem pickB_len (p : Int → Bool) (xs : List Int) (k : Nat) : (pickB p (xs.take k)).length ≤ xs.length :=
  Nat.le_trans (List.length_filter_le _ _) (by simp; omega)
theorem inter_pick (a b : List Int) : setB (pickB (hasB b) a) = interB a b := rfl
theorem diff_pick (a b : List Int) : setB (pickB (nhasB b) a) = diffB a b := rfl
theorem inter_pick2 (a b : List Int) : pickB (hasB (setB b)) (setB a) = interB a b := inter_eq a b
theorem diff_pick2 (a b : List Int) : pickB (nhasB (setB b)) (setB a) = diffB a b := diff_eq a b
theorem asc_le {l : List Int} (h : l.Pairwise (· < ·)) : l.Pairwise (· ≤ ·) := h.imp Int.le_of_lt

/-- (ordered).has on an ascending list. -/
theorem implHas2_any (xs : List Int) (x : Int) (v : Value) (w : World) (hr : Rd w v (xs.map (.int .i64))) (hnil : xs.length ≤ 1073741824) (hs : xs.Pairwise (· ≤ ·)) (hne : xs ≠ []) :
    Calls Tryz.prog 152 #[v, .int .i64 x] w fun e w' => e = .returned (.bool (hasB xs x)) ∧ Below w.heap.size w w' := by
  obtain ⟨hl, A, c, rfl, HR⟩ := rdI hr
  have h0 : 0 < xs.length := List.length_pos_iff.2 hne
  obtain ⟨b, o, rfl, hb, hc⟩ := HR 0 h0
  have HB := Tryz.bsearch_168 b o xs.length c xs x w (Nat.le_refl _) (by omega) (fun j hj => by rw [hc j hj]; simp [List.getD, List.getElem?_eq_getElem hj]) (by rw [List.take_length]; exact hs)
  rw [List.take_length] at HB
  change Calls _ _ _ _ (fun e w' => e = .returned (.tuple #[_, .bool (hasB xs x)]) ∧ _) at HB
  generalize ((xs.countP fun z => decide (z < x) : Nat) : Int) = q at HB
  clear hc HR hr hs
  generalize hasB xs x = r at HB
  go_enter Tryz.func152, Tryz.ntmps152
  go_wp2_with fail
  refine HB.mono ?_
  rintro e w1 ⟨rfl, n, rfl⟩
  go_wp2
  go_ret
  exact ⟨rfl, below_drewN' w n⟩

theorem bsNil_any (A : Option Addr) (c : Nat) (x : Int) (w : World) :
    Calls Tryz.prog 168 #[.slice A 0 c, .int .i64 x] w fun e w' => e = .returned (.tuple #[.int .i64 0, .bool false]) ∧ Below w.heap.size w w' := by
  go_enter Tryz.func168, Tryz.ntmps168
  go_wp2
  refine wp_loop_rounds 1 ?_
  rw [rounds_succ]
  go_wp2
  go_ret2
  exact ⟨rfl, Below.refl _ _⟩

theorem implHasO_any (xs : List Int) (x : Int) (v : Value) (w : World) (hr : Rd w v (xs.map (.int .i64))) (_hn : NilOk v) (hlen : xs.length ≤ 1073741824) (hs : xs.Pairwise (· ≤ ·)) :
    Calls Tryz.prog 152 #[v, .int .i64 x] w fun e w' => e = .returned (.bool (hasB xs x)) ∧ Below w.heap.size w w' := by
  by_cases hne : xs = []
  · subst hne
    obtain ⟨hl, A, c, rfl, HR⟩ := rdI hr
    clear hl HR hr hs
    go_enter Tryz.func152, Tryz.ntmps152
    go_wp2_with fail
    refine (bsNil_any A c x _).mono ?_
    rintro e w1 ⟨rfl, hb⟩
    go_wp2
    go_ret
    exact ⟨rfl, hb⟩
  · exact implHas2_any xs x v w hr hlen hs hne

set_option maxRecDepth 100000 in
set_option maxHeartbeats 2000000 in
theorem specRemove_any (xs : List Int) (n : Int) (v : Value) (w : World) (hr : Rd w v (xs.map (.int .i64))) (hlen : xs.length ≤ 1073741823) :
    Calls Tryz.prog 119 #[v, .int .i64 n] w fun e w' => ∃ v', e = .returned v' ∧ w'.ownsRow w.heap.size 3 1 v' (pickB (neB n) xs).length ((pickB (neB n) xs).map (.int .i64)) ∧ Below w.heap.size w w' := by
  obtain ⟨hl, A, c, rfl, HR⟩ := rdI hr
  clear hl
  have HA := Lib.hid HR
  clear hr HR
  have hown0 : (w.alloc (.cells #[] 3)).ownsRow w.heap.size 3 1 (.slice (some ⟨w.heap.size, 0, none⟩) 0 0) 0 [] := World.ownsRow_made w #[] 0 (Nat.le_refl _) (by decide) rfl
  have O0 := Lib.hid (And.intro hown0 ((Below.refl _ w).alloc (Nat.le_refl _) (.cells #[] 3)))
  clear hown0
  go_enter Tryz.func119, Tryz.ntmps119
  go_wp2
  go_loopw [5, 11] (fun out i wr => ∃ k : Nat, k ≤ xs.length ∧ i = .int .i64 k ∧ wr.ownsRow w.heap.size 3 1 out (pickB (neB n) (xs.take k)).length ((pickB (neB n) (xs.take k)).map (.int .i64)) ∧ Below w.heap.size w wr) (fun _ i _ => xs.length - (intOf i).toNat)
  case atStart => exact ⟨0, Nat.zero_le _, rfl, O0.out.1, O0.out.2⟩
  case round =>
    obtain ⟨k, hk, rfl, hown, hbel⟩ := hrel
    by_cases hlt : k < xs.length
    · have hlt' : (k : Int) < (xs.length : Int) := by omega
      obtain ⟨b, o, rfl, hb, hc⟩ := HA.out k hlt
      have cx := (hbel.cell (p := ⟨b, o + k, none⟩) hb).trans (hc k hlt)
      clear hc
      have hl2 := pickB_len (neB n) xs k
      rcases hp : (neB n) xs[k] with _ | _
      · have HF := Lib.hid (pickB_no hlt hp)
        generalize pickB (neB n) (xs.take k) = zs at hown HF hl2
        have HP := Lib.hid hp
        clear hp
        generalize xs[k] = y at cx HF HP
        have hb := HP.out
        unfold neB at hb
        have hb' : (y != n) = false := hb
        have he : y = n := by simpa using hb'
        clear hb hb'
        rw [← HF.out] at hown
        have S2 := Lib.hid (And.intro hown hbel)
        clear hown
        go_wp2
        go_roundw
        case rel => exact ⟨k + 1, by omega, by go_num, S2.out.1, S2.out.2⟩
        case measure => simp [intOf]; omega
      · have HF := Lib.hid (pickB_yes hlt hp)
        generalize pickB (neB n) (xs.take k) = zs at hown HF hl2
        have HP := Lib.hid hp
        clear hp
        generalize xs[k] = y at cx HF HP
        have hb := HP.out
        unfold neB at hb
        have hb' : (y != n) = true := hb
        go_wp2_with (first
          | (at_builtin; refine app_rd rfl (.tmp 18) (.tmp 20) 25 rfl rfl w.heap.size _ _ zs [y] rfl rfl (by exact hown.alloc _) (by exact rd_new _ y _) (nilOk_some _ _ _) (by simp; omega) (by have := hbel.size; simp; omega) ?_; intro v2 w2 hown2 hg2 _
             have S2 := Lib.hid (And.intro hown2 (step_below hbel hg2 hbel.size (own_mem hown)))
             rw [← HF.out] at S2
             clear hown2 hg2 hown hbel))
        go_roundw
        case rel => exact ⟨k + 1, by omega, by go_num, S2.out.1, S2.out.2⟩
        case measure => simp [intOf]; omega
    · have hge : ¬ (k : Int) < (xs.length : Int) := by omega
      have hl2 := pickB_len (neB n) xs k
      obtain rfl : k = xs.length := by omega
      rw [List.take_of_length_le (Nat.le_refl _)] at hown hl2
      have R := Lib.hid (And.intro hown hbel)
      clear hown
      go_wp2
      go_ret
      exact ⟨_, rfl, R.out.1, R.out.2⟩

set_option maxRecDepth 100000 in
set_option maxHeartbeats 2000000 in
theorem implRemove_any (xs : List Int) (n : Int) (v : Value) (w : World) (hr : Rd w v (xs.map (.int .i64))) (hlen : xs.length ≤ 1073741823) :
    Calls Tryz.prog 84 #[v, .int .i64 n] w fun e w' => ∃ v', e = .returned v' ∧ w'.ownsRow w.heap.size 3 1 v' (pickB (neB n) xs).length ((pickB (neB n) xs).map (.int .i64)) ∧ Below w.heap.size w w' := by
  obtain ⟨hl, A, c, rfl, HR⟩ := rdI hr
  clear hl
  have HA := Lib.hid HR
  clear hr HR
  have O0 := Lib.hid (And.intro (World.ownsRow_nil w w.heap.size 3 1) (Below.refl w.heap.size w))
  go_enter Tryz.func84, Tryz.ntmps84
  go_wp2
  go_loopw [5, 10] (fun out i wr => ∃ k : Nat, k ≤ xs.length ∧ i = .int .i64 k ∧ wr.ownsRow w.heap.size 3 1 out (pickB (neB n) (xs.take k)).length ((pickB (neB n) (xs.take k)).map (.int .i64)) ∧ Below w.heap.size w wr) (fun _ i _ => xs.length - (intOf i).toNat)
  case atStart => exact ⟨0, Nat.zero_le _, rfl, O0.out.1, O0.out.2⟩
  case round =>
    obtain ⟨k, hk, rfl, hown, hbel⟩ := hrel
    by_cases hlt : k < xs.length
    · have hlt' : (k : Int) < (xs.length : Int) := by omega
      obtain ⟨b, o, rfl, hb, hc⟩ := HA.out k hlt
      have cx := (hbel.cell (p := ⟨b, o + k, none⟩) hb).trans (hc k hlt)
      clear hc
      have hl2 := pickB_len (neB n) xs k
      rcases hp : (neB n) xs[k] with _ | _
      · have HF := Lib.hid (pickB_no hlt hp)
        generalize pickB (neB n) (xs.take k) = zs at hown HF hl2
        have HP := Lib.hid hp
        clear hp
        generalize xs[k] = y at cx HF HP
        have hb := HP.out
        unfold neB at hb
        have hb' : (y != n) = false := hb
        have he : y = n := by simpa using hb'
        clear hb hb'
        rw [← HF.out] at hown
        have S2 := Lib.hid (And.intro hown hbel)
        clear hown
        go_wp2
        go_roundw
        case rel => exact ⟨k + 1, by omega, by go_num, S2.out.1, S2.out.2⟩
        case measure => simp [intOf]; omega
      · have HF := Lib.hid (pickB_yes hlt hp)
        generalize pickB (neB n) (xs.take k) = zs at hown HF hl2
        have HP := Lib.hid hp
        clear hp
        generalize xs[k] = y at cx HF HP
        have hb := HP.out
        unfold neB at hb
        have hb' : (y != n) = true := hb
        go_wp2_with (first
          | (at_builtin; refine app_rd rfl (.tmp 17) (.tmp 19) 25 rfl rfl w.heap.size _ _ zs [y] rfl rfl (by exact hown.alloc _) (by exact rd_new _ y _) (nilOk_some _ _ _) (by simp; omega) (by have := hbel.size; simp; omega) ?_; intro v2 w2 hown2 hg2 _
             have S2 := Lib.hid (And.intro hown2 (step_below hbel hg2 hbel.size (own_mem hown)))
             rw [← HF.out] at S2
             clear hown2 hg2 hown hbel))
        go_roundw
        case rel => exact ⟨k + 1, by omega, by go_num, S2.out.1, S2.out.2⟩
        case measure => simp [intOf]; omega
    · have hge : ¬ (k : Int) < (xs.length : Int) := by omega
      have hl2 := pickB_len (neB n) xs k
      obtain rfl : k = xs.length := by omega
      rw [List.take_of_length_le (Nat.le_refl _)] at hown hl2
      have R := Lib.hid (And.intro hown hbel)
      clear hown
      go_wp2
      go_ret
      exact ⟨_, rfl, R.out.1, R.out.2⟩

set_option maxRecDepth 100000 in
set_option maxHeartbeats 2000000 in
theorem specInter_any (xs ys : List Int) (v u : Value) (w : World) (hr : Rd w v (xs.map (.int .i64))) (hu : Rd w u (ys.map (.int .i64))) (hlen : xs.length ≤ 1073741823) :
    Calls Tryz.prog 118 #[v, u] w fun e w' => ∃ v', e = .returned v' ∧ w'.ownsRow w.heap.size 3 1 v' (interB xs ys).length ((interB xs ys).map (.int .i64)) ∧ Below w.heap.size w w' := by
  obtain ⟨hl, A, c, rfl, HR⟩ := rdI hr
  clear hl
  have HA := Lib.hid HR
  have HU := Lib.hid hu
  clear hu
  clear hr HR
  have hown0 : (w.alloc (.cells #[] 3)).ownsRow w.heap.size 3 1 (.slice (some ⟨w.heap.size, 0, none⟩) 0 0) 0 [] := World.ownsRow_made w #[] 0 (Nat.le_refl _) (by decide) rfl
  have O0 := Lib.hid (And.intro hown0 ((Below.refl _ w).alloc (Nat.le_refl _) (.cells #[] 3)))
  clear hown0
  go_enter Tryz.func118, Tryz.ntmps118
  go_wp2
  go_loopw [5, 11] (fun out i wr => ∃ k : Nat, k ≤ xs.length ∧ i = .int .i64 k ∧ wr.ownsRow w.heap.size 3 1 out (pickB (hasB ys) (xs.take k)).length ((pickB (hasB ys) (xs.take k)).map (.int .i64)) ∧ Below w.heap.size w wr) (fun _ i _ => xs.length - (intOf i).toNat)
  case atStart => exact ⟨0, Nat.zero_le _, rfl, O0.out.1, O0.out.2⟩
  case round =>
    obtain ⟨k, hk, rfl, hown, hbel⟩ := hrel
    by_cases hlt : k < xs.length
    · have hlt' : (k : Int) < (xs.length : Int) := by omega
      obtain ⟨b, o, rfl, hb, hc⟩ := HA.out k hlt
      have cx := (hbel.cell (p := ⟨b, o + k, none⟩) hb).trans (hc k hlt)
      clear hc
      have hl2 := pickB_len (hasB ys) xs k
      rcases hp : (hasB ys) xs[k] with _ | _
      · have HF := Lib.hid (pickB_no hlt hp)
        generalize pickB (hasB ys) (xs.take k) = zs at hown HF hl2
        have HP := Lib.hid hp
        clear hp
        generalize xs[k] = y at cx HF HP
        go_wp2_with fail
        refine (specHas_any ys y u _ (HU.out.below hbel (Nat.le_refl _))).mono ?_
        rintro e w1 ⟨rfl, hw⟩
        obtain rfl := hw.symm
        rw [HP.out]
        rw [← HF.out] at hown
        have S2 := Lib.hid (And.intro hown hbel)
        clear hown
        go_wp2
        go_roundw
        case rel => exact ⟨k + 1, by omega, by go_num, S2.out.1, S2.out.2⟩
        case measure => simp [intOf]; omega
      · have HF := Lib.hid (pickB_yes hlt hp)
        generalize pickB (hasB ys) (xs.take k) = zs at hown HF hl2
        have HP := Lib.hid hp
        clear hp
        generalize xs[k] = y at cx HF HP
        go_wp2_with fail
        refine (specHas_any ys y u _ (HU.out.below hbel (Nat.le_refl _))).mono ?_
        rintro e w1 ⟨rfl, hw⟩
        obtain rfl := hw.symm
        rw [HP.out]
        go_wp2_with (first
          | (at_builtin; refine app_rd rfl (.tmp 18) (.tmp 20) 25 rfl rfl w.heap.size _ _ zs [y] rfl rfl (by exact hown.alloc _) (by exact rd_new _ y _) (nilOk_some _ _ _) (by simp; omega) (by have := hbel.size; simp; omega) ?_; intro v2 w2 hown2 hg2 _
             have S2 := Lib.hid (And.intro hown2 (step_below hbel hg2 hbel.size (own_mem hown)))
             rw [← HF.out] at S2
             clear hown2 hg2 hown hbel))
        go_roundw
        case rel => exact ⟨k + 1, by omega, by go_num, S2.out.1, S2.out.2⟩
        case measure => simp [intOf]; omega
    · have hge : ¬ (k : Int) < (xs.length : Int) := by omega
      have hl2 := pickB_len (hasB ys) xs k
      obtain rfl : k = xs.length := by omega
      rw [List.take_of_length_le (Nat.le_refl _)] at hown hl2
      have R := Lib.hid (And.intro hown hbel)
      clear hown
      go_wp2_with fail
      refine (specSetOf_any _ _ _ (own_rd R.out.1 (by unfold maxLen; omega)) (by omega)).mono ?_
      rintro e w2 ⟨v2, rfl, ho2, _, hb2⟩
      rw [inter_pick] at ho2
      have R2 := Lib.hid (And.intro (own_base ho2 R.out.2.size) (R.out.2.trans (hb2.mono R.out.2.size)))
      clear ho2 hb2
      go_wp2
      go_ret
      exact ⟨_, rfl, R2.out.1, R2.out.2⟩

set_option maxRecDepth 100000 in
set_option maxHeartbeats 2000000 in
theorem implCommon_any (xs ys : List Int) (v u : Value) (w : World) (hr : Rd w v (xs.map (.int .i64))) (hu : Rd w u (ys.map (.int .i64))) (hys : ys.length ≤ 1073741824) (hs : ys.Pairwise (· ≤ ·)) (hne : NilOk u) (hlen : xs.length ≤ 1073741823) :
    Calls Tryz.prog 123 #[v, u] w fun e w' => ∃ v', e = .returned v' ∧ w'.ownsRow w.heap.size 3 1 v' (pickB (hasB ys) xs).length ((pickB (hasB ys) xs).map (.int .i64)) ∧ Below w.heap.size w w' := by
  obtain ⟨hl, A, c, rfl, HR⟩ := rdI hr
  clear hl
  have HA := Lib.hid HR
  have HU := Lib.hid hu
  have HS := Lib.hid hs
  have HN := Lib.hid hne
  clear hu hs hne
  clear hr HR
  have O0 := Lib.hid (And.intro (World.ownsRow_nil w w.heap.size 3 1) (Below.refl w.heap.size w))
  go_enter Tryz.func123, Tryz.ntmps123
  go_wp2
  go_loopw [5, 10] (fun out i wr => ∃ k : Nat, k ≤ xs.length ∧ i = .int .i64 k ∧ wr.ownsRow w.heap.size 3 1 out (pickB (hasB ys) (xs.take k)).length ((pickB (hasB ys) (xs.take k)).map (.int .i64)) ∧ Below w.heap.size w wr) (fun _ i _ => xs.length - (intOf i).toNat)
  case atStart => exact ⟨0, Nat.zero_le _, rfl, O0.out.1, O0.out.2⟩
  case round =>
    obtain ⟨k, hk, rfl, hown, hbel⟩ := hrel
    by_cases hlt : k < xs.length
    · have hlt' : (k : Int) < (xs.length : Int) := by omega
      obtain ⟨b, o, rfl, hb, hc⟩ := HA.out k hlt
      have cx := (hbel.cell (p := ⟨b, o + k, none⟩) hb).trans (hc k hlt)
      clear hc
      have hl2 := pickB_len (hasB ys) xs k
      rcases hp : (hasB ys) xs[k] with _ | _
      · have HF := Lib.hid (pickB_no hlt hp)
        generalize pickB (hasB ys) (xs.take k) = zs at hown HF hl2
        have HP := Lib.hid hp
        clear hp
        generalize xs[k] = y at cx HF HP
        go_wp2_with fail
        refine (implHasO_any ys y u _ (HU.out.below hbel (Nat.le_refl _)) HN.out hys HS.out).mono ?_
        rintro e w1 ⟨rfl, hb1⟩
        have X1 := And.intro (own_below hown hb1 (Nat.le_refl _)) (hbel.trans (hb1.mono hbel.size))
        clear hown hbel hb1
        obtain ⟨hown, hbel⟩ := X1
        rw [HP.out]
        rw [← HF.out] at hown
        have S2 := Lib.hid (And.intro hown hbel)
        clear hown
        go_wp2
        go_roundw
        case rel => exact ⟨k + 1, by omega, by go_num, S2.out.1, S2.out.2⟩
        case measure => simp [intOf]; omega
      · have HF := Lib.hid (pickB_yes hlt hp)
        generalize pickB (hasB ys) (xs.take k) = zs at hown HF hl2
        have HP := Lib.hid hp
        clear hp
        generalize xs[k] = y at cx HF HP
        go_wp2_with fail
        refine (implHasO_any ys y u _ (HU.out.below hbel (Nat.le_refl _)) HN.out hys HS.out).mono ?_
        rintro e w1 ⟨rfl, hb1⟩
        have X1 := And.intro (own_below hown hb1 (Nat.le_refl _)) (hbel.trans (hb1.mono hbel.size))
        clear hown hbel hb1
        obtain ⟨hown, hbel⟩ := X1
        rw [HP.out]
        go_wp2_with (first
          | (at_builtin; refine app_rd rfl (.tmp 17) (.tmp 19) 151 rfl rfl w.heap.size _ _ zs [y] rfl rfl (by exact hown.alloc _) (by exact rd_new _ y _) (nilOk_some _ _ _) (by simp; omega) (by have := hbel.size; simp; omega) ?_; intro v2 w2 hown2 hg2 _
             have S2 := Lib.hid (And.intro hown2 (step_below hbel hg2 hbel.size (own_mem hown)))
             rw [← HF.out] at S2
             clear hown2 hg2 hown hbel))
        go_roundw
        case rel => exact ⟨k + 1, by omega, by go_num, S2.out.1, S2.out.2⟩
        case measure => simp [intOf]; omega
    · have hge : ¬ (k : Int) < (xs.length : Int) := by omega
      have hl2 := pickB_len (hasB ys) xs k
      obtain rfl : k = xs.length := by omega
      rw [List.take_of_length_le (Nat.le_refl _)] at hown hl2
      have R := Lib.hid (And.intro hown hbel)
      clear hown
      go_wp2
      go_ret
      exact ⟨_, rfl, R.out.1, R.out.2⟩

end Go.Proofs.YtgbpomakomddjabGreat
end

section
namespace Go.Proofs.YtgbpomakomddjabGreat
open Go.RowKit Go.Shelf Go.Sort Go.Lib

theorem below_grow {B : Nat} {a w : World} (h : Below B a w) (os : Array Obj) (hB : B ≤ w.heap.size) : Below B a (grow w os) :=
  ⟨h.os, h.tape, h.output, by have := h.size; simp [grow]; omega, fun k hk => by
    rw [← h.block k hk]
    have hk' : k < w.heap.size := by omega
    simp [grow, Array.getElem?_append, hk']⟩

/-- What the library's sort and compact leave of an own row of ints. -/
theorem sorted_left {w w1 : World} {base g cap nn q : Nat} {e : TypeId} {os : Array Obj} {zs s : List Int} (hs : s.length = zs.length) (hown : w1.ownsRow base e 1 (.slice (some ⟨g, 0, none⟩) zs.length cap) zs.length (zs.map (.int .i64))) (hbel : Below base w w1) (hb : base ≤ g) :
    (putRow (Value.int .i64) (Sort.ahead (grow (putRow (Value.int .i64) (Sort.ahead w1 nn) g 0 s.toArray) os) q) g 0 (compact s ++ List.replicate (s.length - (compact s).length) 0).toArray).ownsRow base e 1 (.slice (some ⟨g, 0, none⟩) (compact s).length cap) (compact s).length ((compact s).map (.int .i64)) ∧
    Below base w (putRow (Value.int .i64) (Sort.ahead (grow (putRow (Value.int .i64) (Sort.ahead w1 nn) g 0 s.toArray) os) q) g 0 (compact s ++ List.replicate (s.length - (compact s).length) 0).toArray) := by
  have hle := compact_length_le s
  have h1 := ownsRow_putRow (q := nn) (k := zs.length) (ys := s) hown hs (Nat.le_refl _)
  rw [← hs, List.take_length, hs] at h1
  have hb1 : Below base w (putRow (Value.int .i64) (Sort.ahead w1 nn) g 0 s.toArray) := below_putRow hbel hb
  have hg1 : g < (putRow (Value.int .i64) (Sort.ahead w1 nn) g 0 s.toArray).heap.size := (h1.lt g rfl).2
  have h2 : (grow (putRow (Value.int .i64) (Sort.ahead w1 nn) g 0 s.toArray) os).ownsRow base e 1 (.slice (some ⟨g, 0, none⟩) zs.length cap) zs.length (s.map (.int .i64)) :=
    own_below h1 (below_grow (Below.refl _ _) os (Nat.le_refl _)) (Nat.le_refl _)
  have hb2 : Below base w (grow (putRow (Value.int .i64) (Sort.ahead w1 nn) g 0 s.toArray) os) := below_grow hb1 os (by omega)
  have h3 := ownsRow_putRow (q := q) (k := (compact s).length) (ys := compact s ++ List.replicate (s.length - (compact s).length) 0) h2 (by simp; omega) (by omega)
  rw [List.take_left] at h3
  exact ⟨h3, below_putRow hb2 hb⟩

set_option maxRecDepth 100000 in
set_option maxHeartbeats 2000000 in
theorem orderedOf_any (vs : List Value) (Ls : List (List Int)) (vl : Value) (w : World) (hr : Rd w vl vs) (hn : vs.length = Ls.length) (hn0 : 0 < vs.length)
    (hel : ∀ i, (h : i < vs.length) → Rd w vs[i] ((Ls[i]'(hn ▸ h)).map (.int .i64)) ∧ NilOk vs[i]) (hlen : (catB Ls).length ≤ 1073741824) :
    Calls Tryz.prog 122 #[vl] w fun e w' => ∃ v', e = .returned v' ∧ w'.ownsRow w.heap.size 3 1 v' (setB (catB Ls)).length ((setB (catB Ls)).map (.int .i64)) ∧ Below w.heap.size w w' := by
  have HCC := concat_any vs Ls vl w hr hn hn0 hel hlen
  clear hr hn hn0 hel
  generalize catB Ls = zs at HCC hlen
  rw [← sortB_eq]
  go_enter Tryz.func122, Tryz.ntmps122
  go_wp2_with fail
  refine HCC.mono ?_
  rintro e w1 ⟨v1, rfl, o1, b1⟩
  by_cases hv : v1 = .slice none 0 0
  · subst hv
    have hz : zs = [] := by
      rcases o1.2 with ⟨_, h0⟩ | ⟨g, cap, cur, h0, _⟩
      · exact List.eq_nil_of_length_eq_zero h0
      · cases h0
    subst hz
    have hB := Lib.hid b1
    clear o1 b1 HCC
    go_wp2_with fail
    refine (Tryz.slices_Sort_int_none none 0 _).mono ?_
    rintro e w2 ⟨rfl, rfl⟩
    go_wp2_with fail
    refine (Tryz.slices_Compact_int_empty none 0 _).mono ?_
    rintro e w3 ⟨rfl, rfl⟩
    go_wp2
    go_ret
    exact ⟨_, rfl, by rw [sortB_eq]; exact World.ownsRow_nil _ _ _ _, hB.out⟩
  · obtain ⟨g, cap, rfl, hbg, hgl, hncap, hcm, -, hH⟩ := Lib.holds_of_ownsRow o1 hv
    have hsort := Tryz.slices_Sort_int g 0 cap zs w1 hH hgl (by omega)
    have hs : (zs.mergeSort fun x y => decide (x ≤ y)).length = zs.length := List.length_mergeSort zs
    change Calls _ _ _ _ _ at hsort
    have hd : sortB zs = compact (zs.mergeSort fun x y => decide (x ≤ y)) := rfl
    generalize (zs.mergeSort fun x y => decide (x ≤ y)) = s at hsort hs hd
    have HD := Lib.hid hd
    clear hd
    have HO := Lib.hid (And.intro o1 (And.intro b1 hH))
    clear o1 b1 hv HCC hH
    go_wp2_with fail
    refine hsort.mono ?_
    rintro e w2 ⟨rfl, nn, os, rfl⟩
    have hH2 : Holds (Value.int .i64) (grow (putRow (Value.int .i64) (Sort.ahead w1 nn) g 0 s.toArray) os) g 0 s.toArray :=
      holds_grow _ _ os g 0 _ (by simpa [putRow, mapBlock, Sort.ahead] using hgl) (holds_putRow _ _ g 0 _ _ (holds_ahead _ w1 nn g 0 _ HO.out.2.2) (by simp [hs]))
    have hcomp := Tryz.slices_Compact_int g 0 cap s _ hH2 (by omega) (by omega)
    have HL := Lib.hid (fun q => sorted_left (nn := nn) (q := q) (os := os) hs HO.out.1 HO.out.2.1 hbg)
    clear hH2 hsort
    rw [hs] at hcomp
    simp only [hs] at HL
    generalize compact s = cs at hcomp HL HD
    generalize grow (putRow (Value.int .i64) (Sort.ahead w1 nn) g 0 s.toArray) os = w2 at hcomp HL ⊢
    go_wp2_with fail
    refine hcomp.mono ?_
    rintro e w3 ⟨rfl, q, rfl⟩
    have HQ := Lib.hid (HL.out q)
    generalize putRow (Value.int .i64) (Sort.ahead w2 q) g 0 _ = w3 at HQ ⊢
    go_wp2
    go_ret
    exact ⟨_, rfl, by rw [HD.out]; exact HQ.out.1, HQ.out.2⟩
end Go.Proofs.YtgbpomakomddjabGreat
end

section
namespace Go.Proofs.YtgbpomakomddjabGreat
open Go.RowKit

theorem rd_cellsE (w : World) (us : List Value) (t : TypeId) (hl : us.length ≤ 1000000) : Rd (w.alloc (.cells us.toArray t)) (.slice (some ⟨w.heap.size, 0, none⟩) us.length us.length) us :=
  ⟨by unfold maxLen; omega, _, _, rfl, .inr ⟨w.heap.size, 0, rfl, by simp, fun j hj => by
    rw [World.cell?_alloc_at _ _ _ _ rfl]
    simp [List.getElem?_eq_getElem hj]⟩⟩

theorem rd_sl {w : World} {v : Value} {xs : List Int} (h : Rd w v (xs.map (.int .i64))) : ∃ A c, v = .slice A xs.length c := by
  obtain ⟨_, A, c, rfl, _⟩ := h
  exact ⟨A, c, by rw [List.length_map]⟩

/-- orderedOf over one list. -/
theorem ord1 (xs : List Int) (v : Value) (t : TypeId) (w : World) (hr : Rd w v (xs.map (.int .i64))) (hn : NilOk v) (hlen : xs.length ≤ 1073741824) :
    Calls Tryz.prog 122 #[.slice (some ⟨w.heap.size, 0, none⟩) 1 1] (w.alloc (.cells #[v] t)) fun e w' => ∃ v', e = .returned v' ∧ w'.ownsRow w.heap.size 3 1 v' (setB xs).length ((setB xs).map (.int .i64)) ∧ Below w.heap.size w w' := by
  have he : catB [xs] = xs := by simp [catB]
  have H := orderedOf_any [v] [xs] (.slice (some ⟨w.heap.size, 0, none⟩) 1 1) (w.alloc (.cells #[v] t)) (rd_cellsE w [v] t (by simp)) rfl (by simp) (fun i h => by
    have hi : i = 0 := by simpa using h
    subst hi
    exact ⟨rd_alloc hr _, hn⟩) (by rw [he]; exact hlen)
  rw [he] at H
  refine H.mono ?_
  rintro e w1 ⟨v', rfl, ho, hb⟩
  exact ⟨v', rfl, own_base ho (by simp), ((Below.refl _ _).alloc (Nat.le_refl _) _).trans (hb.mono (by simp))⟩
theorem ord2 (xs ys : List Int) (v u : Value) (t : TypeId) (w : World) (hr : Rd w v (xs.map (.int .i64))) (hn : NilOk v) (hu : Rd w u (ys.map (.int .i64))) (hn2 : NilOk u) (hlen : xs.length + ys.length ≤ 1073741824) :
    Calls Tryz.prog 122 #[.slice (some ⟨w.heap.size, 0, none⟩) 2 2] (w.alloc (.cells #[v, u] t)) fun e w' => ∃ v', e = .returned v' ∧ w'.ownsRow w.heap.size 3 1 v' (setB (xs ++ ys)).length ((setB (xs ++ ys)).map (.int .i64)) ∧ Below w.heap.size w w' := by
  have he : catB [xs, ys] = xs ++ ys := by simp [catB]
  have H := orderedOf_any [v, u] [xs, ys] (.slice (some ⟨w.heap.size, 0, none⟩) 2 2) (w.alloc (.cells #[v, u] t)) (rd_cellsE w [v, u] t (by simp)) rfl (by simp) (fun i h => by
    have hi : i = 0 ∨ i = 1 := by simp at h; omega
    rcases hi with hi | hi
    · subst hi; exact ⟨rd_alloc hr _, hn⟩
    · subst hi; exact ⟨rd_alloc hu _, hn2⟩) (by rw [he, List.length_append]; exact hlen)
  rw [he] at H
  refine H.mono ?_
  rintro e w1 ⟨v', rfl, ho, hb⟩
  exact ⟨v', rfl, own_base ho (by simp), ((Below.refl _ _).alloc (Nat.le_refl _) _).trans (hb.mono (by simp))⟩

theorem implInter_any (xs ys : List Int) (v u : Value) (w : World) (hr : Rd w v (xs.map (.int .i64))) (hn : NilOk v) (hu : Rd w u (ys.map (.int .i64))) (hn2 : NilOk u) (hlen : xs.length ≤ 1073741823) (hlen2 : ys.length ≤ 1073741823) :
    Calls Tryz.prog 83 #[v, u] w fun e w' => ∃ v', e = .returned v' ∧ w'.ownsRow w.heap.size 3 1 v' (interB xs ys).length ((interB xs ys).map (.int .i64)) ∧ Below w.heap.size w w' := by
  obtain ⟨A, c, rfl⟩ := rd_sl hr
  obtain ⟨B, d, rfl⟩ := rd_sl hu
  have H1 := Lib.hid (fun t => ord1 xs _ t w hr hn (by omega))
  have HU := Lib.hid (And.intro hu hn2)
  clear hr hn hu hn2
  go_enter Tryz.func83, Tryz.ntmps83
  go_wp2_with fail
  refine (H1.out _).mono ?_
  rintro e w1 ⟨v1, rfl, ho1, hb1⟩
  have O1 := Lib.hid (And.intro ho1 hb1)
  clear ho1 hb1 H1
  go_wp2_with fail
  refine (ord1 ys _ _ w1 (HU.out.1.below O1.out.2 (Nat.le_refl _)) HU.out.2 (by omega)).mono ?_
  rintro e w2 ⟨v2, rfl, ho2, hb2⟩
  have O2 := Lib.hid (And.intro ho2 (And.intro (own_below O1.out.1 hb2 (Nat.le_refl _)) (O1.out.2.trans (hb2.mono O1.out.2.size))))
  have hl1 := len_setB xs
  have hl2 := len_setB ys
  clear ho2 hb2 O1
  go_wp2_with fail
  refine (implCommon_any (setB xs) (setB ys) _ _ _ (own_rd O2.out.2.1 (by unfold maxLen; omega)) (own_rd O2.out.1 (by unfold maxLen; omega)) (by omega) (asc_le (asc_setB ys)) (nilOk_own O2.out.1) (by omega)).mono ?_
  rintro e w3 ⟨v3, rfl, ho3, hb3⟩
  rw [inter_pick2] at ho3
  have R := Lib.hid (And.intro (own_base ho3 O2.out.2.2.size) (O2.out.2.2.trans (hb3.mono O2.out.2.2.size)))
  clear ho3 hb3
  go_wp2
  go_ret
  exact ⟨_, rfl, R.out.1, R.out.2⟩

end Go.Proofs.YtgbpomakomddjabGreat
end
