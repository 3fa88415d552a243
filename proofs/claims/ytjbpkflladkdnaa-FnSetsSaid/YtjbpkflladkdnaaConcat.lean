/- DERIVED. CONTRACTS: slices.Concat at []int. -/
import Derived.Test.YtjbpkflladkdnaaApp
import Derived.Test.YtjbpkflladkdnaaSetB
import Derived.Test.YtjbpkflladkdnaaShelf
import Derived.Shelf.Spec.SlicesGrow
namespace Go.Proofs.Ytjbpkflladkdnaa
open Go.RowKit Go.Shelf

theorem growNil_any (n : Nat) (w : World) (hn : n ≤ 1073741824) :
    Calls Try.prog 61 #[.slice none 0 0, .int .i64 n] w fun e w' => ∃ v', e = .returned v' ∧ w'.ownsRow w.heap.size 3 1 v' 0 [] ∧ Below w.heap.size w w' := by
  obtain ⟨i0, hi, hz0, hz1, hz2⟩ := info_parts infoInt
  by_cases h0 : n = 0
  · subst h0
    refine (Any8.slices_Grow_room Try.laysGrow_61 none 0 0 0 w (Nat.le_refl _) (by omega) (by omega) (Nat.le_refl _)).mono ?_
    rintro e w1 ⟨rfl, rfl⟩
    exact ⟨_, rfl, World.ownsRow_nil _ _ _ _, Below.refl _ _⟩
  · refine (Any8.slices_Grow_grow Try.laysGrow_61 i0 (.int .i64 0) hi hz0 (by omega) none 0 0 n [] w (Nat.le_refl _) (by omega) (by rw [hz2]; omega) (by omega) (by simp) (fun _ => rfl) (fun a h => by cases h)).mono ?_
    rintro e w1 ⟨rfl, rfl⟩
    have hge := grownCap_ge w (0 + n) 0 3
    have hle := grownCap_le_maxLen w (0 + n) 0 3 (by unfold maxLen; omega)
    refine ⟨_, rfl, ?_, ?_⟩
    · exact World.ownsRow_made w.drew _ _ (Nat.le_refl _) hle (by
        simp only [Array.size_append, size_zeroCells]
        change 0 + (0 + n - 0) * 1 + (grownCap w (0 + n) 0 3 - (0 + n)) * 1 = grownCap w (0 + n) 0 3 * 1
        omega)
    · exact (below_drewN' w 1).alloc (Nat.le_refl _) _

def catB (Ls : List (List Int)) : List Int := Ls.flatten
theorem flat_take {Ls : List (List Int)} {k : Nat} (h : k < Ls.length) : (catB (Ls.take (k + 1))) = (catB (Ls.take k)) ++ Ls[k] := by
  unfold catB
  rw [List.take_succ_eq_append_getElem h, List.flatten_append]; simp
theorem flat_le (Ls : List (List Int)) (k : Nat) : (catB (Ls.take k)).length ≤ (catB Ls).length := by
  unfold catB
  conv => rhs; rw [← List.take_append_drop k Ls, List.flatten_append, List.length_append]
  omega

set_option maxRecDepth 100000 in
set_option maxHeartbeats 2000000 in
theorem concat_any (vs : List Value) (Ls : List (List Int)) (vl : Value) (w : World) (hr : Rd w vl vs) (hn : vs.length = Ls.length) (hn0 : 0 < vs.length)
    (hel : ∀ i, (h : i < vs.length) → Rd w vs[i] ((Ls[i]'(hn ▸ h)).map (.int .i64)) ∧ NilOk vs[i]) (hlen : (catB Ls).length ≤ 1073741824) :
    Calls Try.prog 55 #[vl] w fun e w' => ∃ v', e = .returned v' ∧ w'.ownsRow w.heap.size 3 1 v' (catB Ls).length ((catB Ls).map (.int .i64)) ∧ Below w.heap.size w w' := by
  obtain ⟨hl, A, c, rfl, h⟩ := hr
  unfold maxLen at hl
  rcases h with h | ⟨b, o, rfl, hb, hc⟩
  · rw [h] at hn0; simp at hn0
  have HC := Lib.hid hc
  have HE := Lib.hid hel
  clear hc hel
  go_enter Try.func55, Try.ntmps55
  go_wp2
  go_loopw [3, 11] (fun s i wr => ∃ k : Nat, k ≤ vs.length ∧ i = .int .i64 k ∧ s = .int .i64 ((catB (Ls.take k)).length : Nat) ∧ w = wr) (fun _ i _ => vs.length - (intOf i).toNat)
  case atStart => exact ⟨0, Nat.zero_le _, rfl, rfl, rfl⟩
  case round =>
    obtain ⟨k, hk, rfl, rfl, rfl⟩ := hrel
    by_cases hlt : k < vs.length
    · have hlt' : (k : Int) < (vs.length : Int) := by omega
      have cx := HC.out k hlt
      obtain ⟨⟨hlk, A1, c1, he, _⟩, _⟩ := HE.out k hlt
      rw [List.length_map] at he
      rw [he] at cx
      have HF := Lib.hid (flat_take (k := k) (Ls := Ls) (by omega))
      have hb1 := flat_le Ls (k + 1)
      rw [HF.out, List.length_append] at hb1
      have hsum : ((catB (Ls.take (k + 1))).length : Int) = ((catB (Ls.take k)).length : Int) + ((Ls[k]'(by omega)).length : Int) := by rw [HF.out, List.length_append]; omega
      have HS := Lib.hid hsum
      clear hsum hlk he
      generalize (catB (Ls.take k)).length = m at HS hb1
      generalize (Ls[k]'(by omega)).length = q at HS hb1 cx
      have hnn : ¬ ((m : Int) + (q : Int) < 0) := by omega
      go_wp2
      go_roundw
      case rel => exact ⟨k + 1, by omega, by go_num, by rw [HS.out], by trivial⟩
      case measure => simp [intOf]; omega
    · have hge : ¬ (k : Int) < (vs.length : Int) := by omega
      obtain rfl : k = vs.length := by omega
      rw [List.take_of_length_le (by omega)]
      go_wp2_with fail
      refine (growNil_any _ _ (by omega)).mono ?_
      rintro e w1 ⟨v1, rfl, o1, b1⟩
      have O1 := Lib.hid (And.intro o1 b1)
      clear o1 b1
      go_wp2
      go_loopw [6, 27] (fun out i wr => ∃ k : Nat, k ≤ vs.length ∧ i = .int .i64 k ∧ wr.ownsRow w.heap.size 3 1 out (catB (Ls.take k)).length ((catB (Ls.take k)).map (.int .i64)) ∧ Below w.heap.size w wr) (fun _ i _ => vs.length - (intOf i).toNat)
      case atStart => exact ⟨0, Nat.zero_le _, rfl, O1.out.1, O1.out.2⟩
      case round =>
        obtain ⟨k, hk, rfl, hown, hbel⟩ := hrel
        by_cases hlt : k < vs.length
        · have hlt' : (k : Int) < (vs.length : Int) := by omega
          have cx := (hbel.cell (p := ⟨b, o + k, none⟩) hb).trans (HC.out k hlt)
          have HR := Lib.hid (HE.out k hlt)
          have HF := Lib.hid (flat_take (k := k) (Ls := Ls) (by omega))
          have hb1 := flat_le Ls (k + 1)
          rw [HF.out, List.length_append] at hb1
          generalize hV : vs[k] = V at cx HR
          clear hV
          generalize hys : Ls[k]'(by omega) = ys at HR HF hb1
          clear hys
          generalize (catB (Ls.take k)) = zs at hown HF hb1
          go_wp2_with (first
            | (at_builtin; refine app_rd rfl (.tmp 31) (.tmp 32) 23 rfl rfl w.heap.size _ _ zs ys rfl rfl (by exact hown) (by exact HR.out.1.below hbel (Nat.le_refl _)) HR.out.2 (by omega) hbel.size ?_; intro v2 w2 hown2 hg2 _
               have S2 := Lib.hid (And.intro hown2 (hbel.grown hg2 hbel.size (own_mem hown)))
               rw [← HF.out] at S2
               clear hown2 hg2 hown hbel))
          go_roundw
          case rel => exact ⟨k + 1, by omega, by go_num, S2.out.1, S2.out.2⟩
          case measure => simp [intOf]; omega
        · have hge : ¬ (k : Int) < (vs.length : Int) := by omega
          obtain rfl : k = vs.length := by omega
          rw [List.take_of_length_le (by omega)] at hown
          have R := Lib.hid (And.intro hown hbel)
          clear hown
          go_wp2
          go_ret
          exact ⟨_, rfl, R.out.1, R.out.2⟩
end Go.Proofs.Ytjbpkflladkdnaa
