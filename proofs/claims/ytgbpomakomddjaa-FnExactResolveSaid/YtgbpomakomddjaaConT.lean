/- DERIVED. CONTRACTS: slices.Concat and slices.Clone at []Literal. -/
import Derived.Test.YtgbpomakomddjaaDats
import Derived.Test.YtgbpomakomddjaaRowV
import Derived.Test.YtgbpomakomddjaaRwT
import Derived.Test.YtgbpomakomddjaaShelf
import Derived.Shelf.Spec.SlicesGrow
namespace Go.Proofs.Ytgbpomakomddjaa
open Go.RowKit Go.Shelf

theorem growNilT_any (n : Nat) (w : World) (hn : n ≤ 1073741824) :
    Calls Try.prog 46 #[.slice none 0 0, .int .i64 n] w fun e w' => ∃ v', e = .returned v' ∧ w'.ownsRow w.heap.size 45 3 v' 0 [] ∧ Below w.heap.size w w' := by
  obtain ⟨i0, hi, hz0, hz1, hz2⟩ := info_parts infoLiteral_t
  by_cases h0 : n = 0
  · subst h0
    refine (Any8.slices_Grow_room Try.laysGrow_46 none 0 0 0 w (Nat.le_refl _) (by omega) (by omega) (Nat.le_refl _)).mono ?_
    rintro e w1 ⟨rfl, rfl⟩
    exact ⟨_, rfl, World.ownsRow_nil _ _ _ _, Below.refl _ _⟩
  · refine (Any8.slices_Grow_grow Try.laysGrow_46 i0 _ hi hz0 (by omega) none 0 0 n [] w (Nat.le_refl _) (by omega) (by rw [hz2]; omega) (by omega) (by simp) (fun _ => rfl) (fun a h => by cases h)).mono ?_
    rintro e w1 ⟨rfl, rfl⟩
    have hge := grownCap_ge w (0 + n) 0 45
    have hle := grownCap_le_maxLen w (0 + n) 0 45 (by unfold maxLen; omega)
    refine ⟨_, rfl, ?_, ?_⟩
    · exact World.ownsRow_made w.drew _ _ (Nat.le_refl _) hle (by
        simp only [Array.size_append, size_zeroCells]
        change 0 + (0 + n - 0) * 3 + (grownCap w (0 + n) 0 45 - (0 + n)) * 3 = grownCap w (0 + n) 0 45 * 3
        omega)
    · exact (below_drewN' w 1).alloc (Nat.le_refl _) _

def catT (Ls : List (List Lt)) : List Lt := Ls.flatten
theorem catT_take {Ls : List (List Lt)} {k : Nat} (h : k < Ls.length) : (catT (Ls.take (k + 1))) = (catT (Ls.take k)) ++ Ls[k] := by
  unfold catT
  rw [List.take_succ_eq_append_getElem h, List.flatten_append]; simp
theorem flatT_le (Ls : List (List Lt)) (k : Nat) : (catT (Ls.take k)).length ≤ (catT Ls).length := by
  unfold catT
  conv => rhs; rw [← List.take_append_drop k Ls, List.flatten_append, List.length_append]
  omega

set_option maxRecDepth 100000 in
set_option maxHeartbeats 2000000 in
theorem concatT_any (vs : List Value) (Ls : List (List Lt)) (vl : Value) (w : World) (hr : Rd w vl vs) (hn : vs.length = Ls.length) (hn0 : 0 < vs.length)
    (hel : ∀ i, (h : i < vs.length) → (trLts (Ls[i]'(hn ▸ h))).rd w vs[i] ∧ NilOk vs[i]) (hlen : (catT Ls).length ≤ 536870912) :
    Calls Try.prog 31 #[vl] w fun e w' => ∃ v', e = .returned v' ∧ w'.ownsRow w.heap.size 45 3 v' (catT Ls).length (cells3 (catT Ls)) ∧ Below w.heap.size w w' := by
  obtain ⟨hl, A, c, rfl, h⟩ := hr
  unfold maxLen at hl
  rcases h with h | ⟨b, o, rfl, hb, hc⟩
  · rw [h] at hn0; simp at hn0
  have HC := Lib.hid hc
  have HE := Lib.hid hel
  clear hc hel
  go_enter Try.func31, Try.ntmps31
  go_wp2
  go_loopw [3, 11] (fun s i wr => ∃ k : Nat, k ≤ vs.length ∧ i = .int .i64 k ∧ s = .int .i64 ((catT (Ls.take k)).length : Nat) ∧ w = wr) (fun _ i _ => vs.length - (intOf i).toNat)
  case atStart => exact ⟨0, Nat.zero_le _, rfl, rfl, rfl⟩
  case round =>
    obtain ⟨k, hk, rfl, rfl, rfl⟩ := hrel
    by_cases hlt : k < vs.length
    · have hlt' : (k : Int) < (vs.length : Int) := by omega
      have cx := HC.out k hlt
      obtain ⟨A1, c1, he⟩ := rdT_slice (HE.out k hlt).1
      rw [he] at cx
      have HF := Lib.hid (catT_take (k := k) (Ls := Ls) (by omega))
      have hb1 := flatT_le Ls (k + 1)
      rw [HF.out, List.length_append] at hb1
      have hsum : ((catT (Ls.take (k + 1))).length : Int) = ((catT (Ls.take k)).length : Int) + ((Ls[k]'(by omega)).length : Int) := by rw [HF.out, List.length_append]; omega
      have HS := Lib.hid hsum
      clear hsum he
      generalize (catT (Ls.take k)).length = m at HS hb1
      generalize (Ls[k]'(by omega)).length = q at HS hb1 cx
      have hnn : ¬ ((m : Int) + (q : Int) < 0) := by omega
      go_wp2
      go_roundw
      case rel => exact ⟨k + 1, by omega, by go_num, by rw [HS.out], by trivial⟩
      case measure => simp [intOf]; omega
    · have hge : ¬ (k : Int) < (vs.length : Int) := by omega
      obtain rfl : k = vs.length := by omega
      rw [List.take_of_length_le (by omega)]
      go_wp2_with fail
      refine (growNilT_any _ _ (by omega)).mono ?_
      rintro e w1 ⟨v1, rfl, o1, b1⟩
      have O1 := Lib.hid (And.intro o1 b1)
      clear o1 b1
      go_wp2
      go_loopw [6, 27] (fun out i wr => ∃ k : Nat, k ≤ vs.length ∧ i = .int .i64 k ∧ wr.ownsRow w.heap.size 45 3 out (catT (Ls.take k)).length (cells3 (catT (Ls.take k))) ∧ Below w.heap.size w wr) (fun _ i _ => vs.length - (intOf i).toNat)
      case atStart => exact ⟨0, Nat.zero_le _, rfl, O1.out.1, O1.out.2⟩
      case round =>
        obtain ⟨k, hk, rfl, hown, hbel⟩ := hrel
        by_cases hlt : k < vs.length
        · have hlt' : (k : Int) < (vs.length : Int) := by omega
          have cx := (hbel.cell (p := ⟨b, o + k, none⟩) hb).trans (HC.out k hlt)
          have HR := Lib.hid (HE.out k hlt)
          have HF := Lib.hid (catT_take (k := k) (Ls := Ls) (by omega))
          have hb1 := flatT_le Ls (k + 1)
          rw [HF.out, List.length_append] at hb1
          generalize hV : vs[k] = V at cx HR
          clear hV
          generalize hys : Ls[k]'(by omega) = ys at HR HF hb1
          clear hys
          generalize (catT (Ls.take k)) = zs at hown HF hb1
          have hb2 : zs.length + ys.length ≤ 1073741824 := by omega
          go_wp2_with (first
            | (at_builtin; refine app_rdT rfl (.tmp 31) (.tmp 32) 25 rfl rfl w.heap.size _ _ zs ys rfl rfl (by exact hown) (by exact Tr.rd_below hbel (Nat.le_refl _) _ _ HR.out.1) HR.out.2 hb2 hbel.size ?_; intro v2 w2 hown2 hg2 _
               have S2 := Lib.hid (And.intro hown2 (hbel.grown hg2 hbel.size (own_mem hown)))
               rw [← HF.out] at S2
               clear hown2 hg2 hown hbel))
          go_roundw
          case rel => exact ⟨k + 1, by omega, by go_num, S2.out.1, S2.out.2⟩
          case measure => simp [intOf]; omega
        · have hge : ¬ (k : Int) < (vs.length : Int) := by omega
          obtain rfl : k = vs.length := by omega
          rw [List.take_of_length_le (by omega)] at hown
          have R := Lib.hid (And.intro hown hbel)
          clear hown
          go_wp2
          go_ret
          exact ⟨_, rfl, R.out.1, R.out.2⟩
theorem newVT_any (w : World) (T : TypeId) (l : List Value) (hl : l.length ≤ maxLen) : Rd (w.alloc (.cells ⟨l⟩ T)) (.slice (some ⟨w.heap.size, 0, none⟩) l.length l.length) l :=
  ⟨hl, _, _, rfl, .inr ⟨w.heap.size, 0, rfl, by simp, fun j hj => by
    rw [World.cell?_alloc_at _ _ _ _ rfl]
    simp [hj]⟩⟩
theorem two_allT {W : World} {x y : Value} {xs ys : List Lt} (hx : (trLts xs).rd W x ∧ NilOk x) (hy : (trLts ys).rd W y ∧ NilOk y) :
    ∀ i, (h : i < [x, y].length) → (trLts ([xs, ys][i]'h)).rd W ([x, y][i]) ∧ NilOk ([x, y][i]) := fun i h => by
  match i, h with
  | 0, _ => exact hx
  | 1, _ => exact hy
theorem catT_two (x y : List Lt) : catT [x, y] = x ++ y := by simp [catT]
theorem cloneT_any (l : List Lt) (v : Value) (w : World) {B : Nat} (ho : w.ownsRow B 45 3 v l.length (cells3 l)) (hlen : l.length ≤ 1073741824) :
    Calls Try.prog 30 #[v] w fun e w' => ∃ v', e = .returned v' ∧ w'.ownsRow w.heap.size 45 3 v' l.length (cells3 l) ∧ Below w.heap.size w w' := by
  rcases ownsT_cases ho with ⟨rfl, h0⟩ | ⟨g, c, rfl, _, _, _⟩
  · have hz : l = [] := List.eq_nil_of_length_eq_zero h0
    subst hz
    refine (AnyE.slices_Clone_nil Try.laysClone_30 0 0 w).mono ?_
    rintro e w1 ⟨rfl, rfl⟩
    exact ⟨_, rfl, World.ownsRow_nil _ _ _ _, Below.refl _ _⟩
  · obtain ⟨i0, hi, hz0, hz1, hz2⟩ := info_parts infoLiteral_t
    refine (AnyE.slices_Clone Try.laysClone_30 i0 _ 3 24 hi hz0 hz1 hz2 rfl (by decide) Try.sizeOf45 g 0 l.length c (cells3 l) w (cells3_len l) (by unfold maxLen; omega) (by omega) (fun j u hj => by rw [Nat.zero_add]; exact cellN_at ho hj) (cells3_one l)).mono ?_
    rintro e w1 ⟨v', rfl, o, _, b⟩
    exact ⟨v', rfl, o, b⟩
end Go.Proofs.Ytgbpomakomddjaa
