/- DERIVED. CONTRACTS: spec.SplitAny, impl.SplitAny. -/
import Derived.Test.YtlcmnmobfhajdabGreatDoorChecked
import Derived.Test.YtlcmnmobfhajdabGreatDoorCore
import Derived.Test.YtlcmnmobfhajdabGreatDoorTxtMaths
import Derived.Test.YtlcmnmobfhajdabGreatDoorShelf
import Derived.WalkKit
import Derived.Lib.Hide
import Derived.OwnWalk
import Derived.BigQuiet
import Derived.Deep.QuietTactic
import Derived.Outline
import Derived.Deep.RegionWith
namespace Go.Proofs.YtlcmnmobfhajdabGreatDoor
open Go.RowKit

theorem infoString : (Tryz.prog.info? 9).map (fun i => (i.zero, i.size, i.bytes)) = some (some (.string ⟨#[]⟩), 1, 16) := by kernel_rfl

theorem map_snoc (l : List ByteArray) (x : ByteArray) : (l ++ [x]).map Value.string = l.map Value.string ++ [.string x] := by simp

set_option maxRecDepth 100000 in
set_option maxHeartbeats 2000000 in
theorem specSplitAny_any (s b : ByteArray) (w : World) (hs : s.size ≤ 1099511627776) (hb : b.size ≤ maxLen) :
    Calls Tryz.prog 40 #[.string s, .string b] w fun e w' => ∃ v, e = .returned v ∧ w'.ownsRow w.heap.size 9 1 v (splitB s b).length ((splitB s b).map .string) ∧ Below w.heap.size w w' := by
  unfold maxLen at hb
  obtain ⟨i0, hi, hz0, hz1, hz2⟩ := info_parts infoString
  go_enter Tryz.func40, Tryz.ntmps40
  go_wp2
  go_loopw [5, 6, 7] (fun out from_ i wr => ∃ k : Nat, k ≤ s.size ∧ i = .int .i64 k ∧ from_ = .int .i64 (spl s b k).2 ∧ wr.ownsRow w.heap.size 9 1 out (spl s b k).1.length ((spl s b k).1.map .string) ∧ Below w.heap.size w wr) (fun _ _ i _ => s.size - (intOf i).toNat)
  case atStart => exact ⟨0, Nat.zero_le _, rfl, rfl, World.ownsRow_made w #[] 0 (Nat.le_refl _) (by decide) rfl, (Below.refl _ _).alloc (Nat.le_refl _) _⟩
  case round =>
    obtain ⟨k, hk, rfl, rfl, hown, hbel⟩ := hrel
    have hle := spl_le s b k
    by_cases hlt : k < s.size
    · have hlt' : (k : Int) < (s.size : Int) := by omega
      have hfl : (spl s b k).2 ≤ k := hle.1
      have hnl : (spl s b k).1.length ≤ k := hle.2
      have HIT := Lib.hid (spl_hit (s := s) (b := b) (k := k))
      have MISS := Lib.hid (spl_miss (s := s) (b := b) (k := k))
      clear hle
      generalize hsp : spl s b k = p at hown hfl hnl HIT MISS
      have HSP := Lib.hid hsp
      clear hsp
      obtain ⟨ps, f⟩ := p
      dsimp only at hown hfl hnl
      have hnb : ps.length ≤ 1099511627776 := by omega
      go_wp2
      go_loopw [5, 6, 8] (fun out from_ j wr' => ∃ q n : Nat, q ≤ b.size ∧ j = .int .i64 q ∧ out = u5 ∧ from_ = .int .i64 f ∧ wr' = wr.drewN n ∧ ∀ l, (hl : l < b.size) → (hk : k < s.size) → l < q → s[k] ≠ b[l]) (fun _ _ j _ => b.size - (intOf j).toNat)
      case atStart => exact ⟨0, 0, Nat.zero_le _, rfl, rfl, rfl, rfl, fun l _ _ h => absurd h (by omega)⟩
      case round =>
        obtain ⟨q, n, hq, rfl, rfl, rfl, rfl, hno⟩ := hrel
        by_cases hql : q < b.size
        · have hql' : (q : Int) < (b.size : Int) := by omega
          by_cases he : s[k] = b[q]
          · have H1 := Lib.hid (HIT.out (hitB_mk hlt hql he))
            have HE : Hid (s[k] = b[q]) := Lib.hid he
            have he' : ((s[k].toNat : Int) == (b[q].toNat : Int)) = true := by rw [he]; simp
            clear hno he
            go_wp2
            go_quiet (fail)
            go_wp2_with (first | (at_builtin; refine wpList_append_own _ rfl (.tmp 29) (.tmp 34) 48 rfl w.heap.size 9 i0 (.string ⟨#[]⟩) 1 16 Tryz.underlying48 hi hz0 hz1 hz2 rfl (by decide) u5 ps.length (ps.map .string) rfl (by exact hown.alloc _) ⟨wr.heap.size, 0, none⟩ 1 1 [.string (s.extract f k)] rfl rfl ?c1 ?c2 ?c3 ?c4 ?c5 ?_))
            case c1 => exact new_cell (wr.drewN (n + nq)) _ _
            case c2 => simp [Value.oneCell']
            case c3 => unfold maxLen; omega
            case c4 => omega
            case c5 => have := hbel.size; simp; omega
            intro v' w1 hown1 hg1 _
            have R : Hid (w1.ownsRow w.heap.size 9 1 v' (spl s b (k + 1)).1.length ((spl s b (k + 1)).1.map .string) ∧ Below w.heap.size w w1 ∧ (spl s b (k + 1)).2 = k + 1) := by
              rw [H1.out]
              refine Lib.hid ⟨by rw [List.length_append, map_snoc]; exact hown1, ?_, rfl⟩
              exact ((below_drewN hbel (n + nq)).alloc hbel.size _).grown hg1 (by have := hbel.size; simp; omega) (fun i hi => (hown.lt i hi).1)
            clear hown1 hg1 hown
            go_wp2
            go_roundw
            case rel => exact ⟨k + 1, by omega, by go_num, by rw [R.out.2.2]; go_num, R.out.1, R.out.2.1⟩
            case measure => simp [intOf]; omega
          · have he' : ((s[k].toNat : Int) == (b[q].toNat : Int)) = false := by
              rw [beq_eq_false_iff_ne]; intro e; exact he (UInt8.toNat_inj.1 (by omega))
            have STEP := Lib.hid (fun l (hl : l < b.size) (hk : k < s.size) (h : l < q + 1) => (by
              by_cases e : l = q
              · subst e; exact he
              · exact hno l hl hk (by omega) : s[k] ≠ b[l]))
            clear hno he
            go_wp2
            go_quiet (fail)
            go_wp2
            go_roundw
            case rel => exact ⟨q + 1, _, by omega, by go_num, rfl, rfl, rfl, STEP.out⟩
            case measure => simp [intOf]; omega
        · have hge : ¬ (q : Int) < (b.size : Int) := by omega
          have H1 := MISS.out (hitB_no (fun l hl hk => hno l hl hk (by omega)))
          have R : Hid ((wr.drewN n).ownsRow w.heap.size 9 1 u5 (spl s b (k + 1)).1.length ((spl s b (k + 1)).1.map .string) ∧ Below w.heap.size w (wr.drewN n) ∧ (spl s b (k + 1)).2 = f) := by
            rw [H1]
            exact Lib.hid ⟨hown, below_drewN hbel n, rfl⟩
          clear H1 hno hown
          go_wp2
          go_roundw
          case rel => exact ⟨k + 1, by omega, by go_num, by rw [R.out.2.2], R.out.1, R.out.2.1⟩
          case measure => simp [intOf]; omega
    · have hge : ¬ (k : Int) < (s.size : Int) := by omega
      obtain rfl : k = s.size := by omega
      have hfl : (spl s b s.size).2 ≤ s.size := hle.1
      have hnl : (spl s b s.size).1.length ≤ s.size := hle.2
      have hsb : splitB s b = (spl s b s.size).1 ++ [s.extract (spl s b s.size).2 s.size] := rfl
      have HSB := Lib.hid hsb
      clear hsb hle
      generalize spl s b s.size = p at hown hfl hnl HSB
      obtain ⟨ps, f⟩ := p
      dsimp only at hown hfl hnl
      go_wp2_with (first | (at_builtin; refine wpList_append_own _ rfl (.tmp 38) (.tmp 42) 48 rfl w.heap.size 9 i0 (.string ⟨#[]⟩) 1 16 Tryz.underlying48 hi hz0 hz1 hz2 rfl (by decide) u5 ps.length (ps.map .string) rfl (by exact hown.alloc _) ⟨wr.heap.size, 0, none⟩ 1 1 [.string (s.extract f s.size)] rfl rfl ?c1 ?c2 ?c3 ?c4 ?c5 ?_))
      case c2 => simp [Value.oneCell']
      case c3 => unfold maxLen; omega
      case c4 => omega
      case c5 => have := hbel.size; simp; omega
      intro v' w1 hown1 hg1 _
      have R : Hid (w1.ownsRow w.heap.size 9 1 v' (splitB s b).length ((splitB s b).map .string) ∧ Below w.heap.size w w1) := by
        rw [HSB.out]
        refine Lib.hid ⟨by rw [List.length_append, map_snoc]; exact hown1, ?_⟩
        exact (hbel.alloc hbel.size _).grown hg1 (by have := hbel.size; simp; omega) (fun i hi => (hown.lt i hi).1)
      clear hown1 hg1 hown
      go_wp2
      go_ret
      exact ⟨_, rfl, R.out.1, R.out.2⟩

theorem indexByte_any (b : ByteArray) (c : UInt8) (w : World) :
    Calls Tryz.prog 119 #[.string b, .int .u8 c.toNat] w fun e w' => e = .returned (.int .i64 (Lib.indexByte b.data.toList c)) ∧ w = w' :=
  (Tryz.strings_IndexByte b c.toNat w).mono fun e w' ⟨he, hw⟩ => ⟨by rw [he]; simp, hw.symm⟩

set_option maxHeartbeats 400000 in
theorem clone_any (s : ByteArray) (w : World) (hs : s.size ≤ 281474976710656) :
    Calls Tryz.prog 120 #[.string s] w fun e w' => e = .returned (.string s) ∧ Below w.heap.size w w' := by
  go_enter Tryz.func120, Tryz.ntmps120
  go_wp2_with (go_at_call 142; refine (Tryz.stringslite_Clone _ _ hs).mono ?_; rintro e w' ⟨rfl, hb⟩)
  go_ret
  exact ⟨rfl, hb⟩

theorem extract_le (s : ByteArray) (a b : Nat) : (s.extract a b).size ≤ s.size := by
  rw [ByteArray.size_extract]; omega

set_option maxRecDepth 100000 in
set_option maxHeartbeats 2000000 in
theorem implSplitAny_any (s b : ByteArray) (w : World) (hs : s.size ≤ 1099511627776) :
    Calls Tryz.prog 88 #[.string s, .string b] w fun e w' => ∃ v, e = .returned v ∧ w'.ownsRow w.heap.size 9 1 v (splitB s b).length ((splitB s b).map .string) ∧ Below w.heap.size w w' := by
  obtain ⟨i0, hi, hz0, hz1, hz2⟩ := info_parts infoString
  go_enter Tryz.func88, Tryz.ntmps88
  go_wp2
  go_loopw [5, 6, 10] (fun out from_ i wr => ∃ k : Nat, k ≤ s.size ∧ i = .int .i64 k ∧ from_ = .int .i64 (spl s b k).2 ∧ wr.ownsRow w.heap.size 9 1 out (spl s b k).1.length ((spl s b k).1.map .string) ∧ Below w.heap.size w wr) (fun _ _ i _ => s.size - (intOf i).toNat)
  case atStart => exact ⟨0, Nat.zero_le _, rfl, rfl, World.ownsRow_nil _ _ _ _, Below.refl _ _⟩
  case round =>
    obtain ⟨k, hk, rfl, rfl, hown, hbel⟩ := hrel
    have hle := spl_le s b k
    by_cases hlt : k < s.size
    · have hlt' : (k : Int) < (s.size : Int) := by omega
      have hfl : (spl s b k).2 ≤ k := hle.1
      have hnl : (spl s b k).1.length ≤ k := hle.2
      have hh := hit_index (s := s) (b := b) hlt
      have HIT := Lib.hid (spl_hit (s := s) (b := b) (k := k))
      have MISS := Lib.hid (spl_miss (s := s) (b := b) (k := k))
      clear hle
      generalize hsp : spl s b k = p at hown hfl hnl HIT MISS
      have HSP := Lib.hid hsp
      clear hsp
      obtain ⟨ps, f⟩ := p
      dsimp only at hown hfl hnl
      have hnb : ps.length ≤ 1099511627776 := by omega
      have hsz := extract_le s f k
      by_cases hix : 0 ≤ Lib.indexByte b.data.toList s[k]
      · have H1 := Lib.hid (HIT.out (by rw [hh]; exact decide_eq_true hix))
        clear hh
        go_wp2_with (first
          | (go_at_call 119; refine (indexByte_any _ _ _).mono ?_; rintro e w' ⟨rfl, rfl⟩)
          | (go_at_call 120; refine (clone_any _ _ (by omega)).mono ?_; rintro e w1 ⟨rfl, hb1⟩; have hown1 := own_below hown hb1 (Nat.le_refl _); have hbel1 := hbel.trans (hb1.mono hbel.size))
          | (at_builtin; refine wpList_append_own _ rfl (.tmp 19) (.tmp 25) 48 rfl w.heap.size 9 i0 (.string ⟨#[]⟩) 1 16 Tryz.underlying48 hi hz0 hz1 hz2 rfl (by decide) u5 ps.length (ps.map .string) rfl (by exact hown1.alloc _) ⟨w1.heap.size, 0, none⟩ 1 1 [.string (s.extract f k)] rfl rfl (by exact new_cell _ _ _) (by simp [Value.oneCell']) (by unfold maxLen; omega) (by omega) (by have := hbel1.size; simp; omega) ?_; intro v' w2 hown2 hg2 _
             have R : Hid (w2.ownsRow w.heap.size 9 1 v' (spl s b (k + 1)).1.length ((spl s b (k + 1)).1.map .string) ∧ Below w.heap.size w w2 ∧ (spl s b (k + 1)).2 = k + 1) := (by
               rw [H1.out]
               refine Lib.hid ⟨by rw [List.length_append, map_snoc]; exact hown2, ?_, rfl⟩
               exact (hbel1.alloc hbel1.size _).grown hg2 (by have := hbel1.size; simp; omega) (fun i hi => (hown1.lt i hi).1))
             clear hown2 hg2 hown1))
        go_roundw
        case rel => exact ⟨k + 1, by omega, by go_num, by rw [R.out.2.2]; go_num, R.out.1, R.out.2.1⟩
        case measure => simp [intOf]; omega
      · have H1 := MISS.out (by rw [hh]; exact decide_eq_false hix)
        have R : Hid (wr.ownsRow w.heap.size 9 1 u5 (spl s b (k + 1)).1.length ((spl s b (k + 1)).1.map .string) ∧ Below w.heap.size w wr ∧ (spl s b (k + 1)).2 = f) := by
          rw [H1]
          exact Lib.hid ⟨hown, hbel, rfl⟩
        clear H1 hown hh
        go_wp2_with (go_at_call 119; refine (indexByte_any _ _ _).mono ?_; rintro e w' ⟨rfl, rfl⟩)
        go_roundw
        case rel => exact ⟨k + 1, by omega, by go_num, by rw [R.out.2.2], R.out.1, R.out.2.1⟩
        case measure => simp [intOf]; omega
    · have hge : ¬ (k : Int) < (s.size : Int) := by omega
      obtain rfl : k = s.size := by omega
      have hfl : (spl s b s.size).2 ≤ s.size := hle.1
      have hnl : (spl s b s.size).1.length ≤ s.size := hle.2
      have hsb : splitB s b = (spl s b s.size).1 ++ [s.extract (spl s b s.size).2 s.size] := rfl
      have HSB := Lib.hid hsb
      clear hsb hle
      generalize spl s b s.size = p at hown hfl hnl HSB
      obtain ⟨ps, f⟩ := p
      dsimp only at hown hfl hnl
      have hsz := extract_le s f s.size
      go_wp2_with (first
        | (go_at_call 120; refine (clone_any _ _ (by omega)).mono ?_; rintro e w1 ⟨rfl, hb1⟩; have hown1 := own_below hown hb1 (Nat.le_refl _); have hbel1 := hbel.trans (hb1.mono hbel.size))
        | (at_builtin; refine wpList_append_own _ rfl (.tmp 30) (.tmp 35) 48 rfl w.heap.size 9 i0 (.string ⟨#[]⟩) 1 16 Tryz.underlying48 hi hz0 hz1 hz2 rfl (by decide) u5 ps.length (ps.map .string) rfl (by exact hown1.alloc _) ⟨w1.heap.size, 0, none⟩ 1 1 [.string (s.extract f s.size)] rfl rfl (by exact new_cell _ _ _) (by simp [Value.oneCell']) (by unfold maxLen; omega) (by omega) (by have := hbel1.size; simp; omega) ?_; intro v' w2 hown2 hg2 _
           have R : Hid (w2.ownsRow w.heap.size 9 1 v' (splitB s b).length ((splitB s b).map .string) ∧ Below w.heap.size w w2) := (by
             rw [HSB.out]
             refine Lib.hid ⟨by rw [List.length_append, map_snoc]; exact hown2, ?_⟩
             exact (hbel1.alloc hbel1.size _).grown hg2 (by have := hbel1.size; simp; omega) (fun i hi => (hown1.lt i hi).1))
           clear hown2 hg2 hown1))
      go_ret
      exact ⟨_, rfl, R.out.1, R.out.2⟩
end Go.Proofs.YtlcmnmobfhajdabGreatDoor
