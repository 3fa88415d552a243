/- DERIVED. CONTRACTS: spec.ParseInt, impl.ParseInt. -/
import Derived.Test.YtilcfbffjjdgnabGreatDoorChecked
import Derived.Test.YtilcfbffjjdgnabGreatDoorCore
import Derived.Test.YtilcfbffjjdgnabGreatDoorFmt
import Derived.Test.YtilcfbffjjdgnabGreatDoorDig
import Derived.Test.YtilcfbffjjdgnabGreatDoorTxtMaths
import Derived.Test.YtilcfbffjjdgnabGreatDoorShelf
import Derived.WalkKit
import Derived.Lib.Hide
import Derived.Outline
namespace Go.Proofs.YtilcfbffjjdgnabGreatDoor
open Go.RowKit

def ParRes (s : ByteArray) (e : Ending) : Prop := e = .returned (.tuple #[.int .i64 (parseB s).1, .bool (parseB s).2])
theorem par_res_no {s : ByteArray} {e : Ending} (h : parseB s = (0, false)) (he : e = .returned (.tuple #[.int .i64 0, .bool false])) : ParRes s e := by
  unfold ParRes; rw [h]; exact he
theorem par_res_yes {s : ByteArray} {e : Ending} {v : Int} (h : parseB s = (v, true)) (he : e = .returned (.tuple #[.int .i64 v, .bool true])) : ParRes s e := by
  unfold ParRes; rw [h]; exact he

theorem ok_step {s : ByteArray} {k : Nat} (h : ∀ j, j < k → dOk s j) (hk : dOk s k) : ∀ j, j < k + 1 → dOk s j := fun j hj => by
  by_cases e : j = k
  · subst e; exact hk
  · exact h j (by omega)

set_option maxRecDepth 100000 in
set_option maxHeartbeats 2000000 in
theorem specParse_pos (s : ByteArray) (w : World) (hs : s.size ≤ maxLen) (hpos : 0 < s.size) :
    Calls Tryz.prog 52 #[.string s] w fun e w' => ParRes s e ∧ Below w.heap.size w w' := by
  unfold maxLen at hs
  have hpos' : (0 : Int) < s.size := by omega
  have hne : s.toList.isEmpty = false := str_some (fun e => by rw [e] at hpos; exact absurd hpos (by decide))
  have hb0 := byt_at hpos
  rcases hng : negS s with _ | _
  · have h45 : ((s[0].toNat : Int) == 45) = false := by
      unfold negS at hng; rw [hb0] at hng; simp at hng ⊢; omega
    have HNG := Lib.hid hng
    clear hng hb0
    go_enter Tryz.func52, Tryz.ntmps52
    go_wp2
    go_loop [4, 6] (fun n i => ∃ k : Nat, k ≤ s.size ∧ i = .int .i64 k ∧ n = .int .i64 (dv s k) ∧ (0 < k → s.size ≤ 8) ∧ ∀ j, j < k → dOk s j) (fun _ i => s.size - (intOf i).toNat)
    case atStart => exact ⟨0, Nat.zero_le _, rfl, rfl, fun h => absurd h (by omega), fun j h => absurd h (by omega)⟩
    case round =>
      obtain ⟨k, hk, rfl, rfl, h8, hall⟩ := hrel
      by_cases hlt : k < s.size
      · have hlt' : (k : Int) < s.size := by omega
        have hbk := byt_at hlt
        have hc : (s[k].toNat : Int) ≤ 255 := by have := s[k].toNat_lt; omega
        have hc0 : (0 : Int) ≤ s[k].toNat := by omega
        have hdv : k ≤ 7 → dv s k ≤ 9999999 := fun h => dv_le7 hall h
        by_cases hgood : 48 ≤ s[k].toNat ∧ s[k].toNat ≤ 57 ∧ s.size ≤ 8
        · obtain ⟨hg1, hg2, hg3⟩ := hgood
          have hstep := dv_step (s := s) (k := k) (by rintro ⟨_, h⟩; rw [HNG.out] at h; cases h)
          have hok : dOk s k := .inr (by omega)
          rw [hbk] at hstep
          have HA := Lib.hid (ok_step hall hok)
          have HS := Lib.hid hstep
          have hd := hdv (by omega)
          have g1 : ¬ (s[k].toNat : Int) - 48 < 0 := by omega
          have g2 : ¬ (9 : Int) < (s[k].toNat : Int) - 48 := by omega
          have g3 : ¬ (8 : Int) < s.size := by omega
          clear hbk hall hstep hok hdv h8
          by_cases hk0 : k = 0
          · subst hk0
            go_wp2
            go_round
            case rel => exact ⟨0 + 1, by omega, by go_num, by rw [HS.out]; go_num, fun _ => hg3, HA.out⟩
            case measure => simp [intOf]; omega
          · have hk1 : ((k : Int) == 0) = false := by simp; omega
            go_wp2
            go_round
            case rel => exact ⟨k + 1, by omega, by go_num, by rw [HS.out]; go_num, fun _ => hg3, HA.out⟩
            case measure => simp [intOf]; omega
        · have hbad : parseB s = (0, false) := by
            by_cases hl : 8 < s.size
            · exact par_long hl
            · refine par_bad hlt ?_
              rintro (⟨_, h⟩ | h)
              · rw [HNG.out] at h; cases h
              · omega
          have HB := Lib.hid hbad
          clear hbk hall hbad hdv h8
          by_cases g1 : (s[k].toNat : Int) - 48 < 0
          · by_cases hk0 : k = 0
            · subst hk0
              go_wp2
              go_ret2
              exact ⟨par_res_no HB.out rfl, Below.refl _ _⟩
            · have hk1 : ((k : Int) == 0) = false := by simp; omega
              go_wp2
              go_ret2
              exact ⟨par_res_no HB.out rfl, Below.refl _ _⟩
          · by_cases g2 : (9 : Int) < (s[k].toNat : Int) - 48
            · by_cases hk0 : k = 0
              · subst hk0
                go_wp2
                go_ret2
                exact ⟨par_res_no HB.out rfl, Below.refl _ _⟩
              · have hk1 : ((k : Int) == 0) = false := by simp; omega
                go_wp2
                go_ret2
                exact ⟨par_res_no HB.out rfl, Below.refl _ _⟩
            · have g3 : (8 : Int) < s.size := by omega
              by_cases hk0 : k = 0
              · subst hk0
                go_wp2
                go_ret2
                exact ⟨par_res_no HB.out rfl, Below.refl _ _⟩
              · have hk1 : ((k : Int) == 0) = false := by simp; omega
                go_wp2
                go_ret2
                exact ⟨par_res_no HB.out rfl, Below.refl _ _⟩
      · have hge : ¬ (k : Int) < s.size := by omega
        obtain rfl : k = s.size := by omega
        have hd := dv_le8 hall (h8 hpos)
        have hv : valS s = (dv s s.size : Int) := by unfold valS; rw [HNG.out]; simp
        by_cases he : fmtB (dv s s.size : Int) = s
        · have HY := Lib.hid (par_yes (s := s) hall hpos (by rw [hv]; exact he))
          rw [hv] at HY
          have HE := Lib.hid he
          clear hall hv he h8
          go_wp2_with (go_at_call 38; refine (specFmt_any _ _ (by omega) (by omega)).mono ?_; rintro e w1 ⟨rfl, hbel⟩; rw [HE.out])
          go_ret2
          exact ⟨par_res_yes HY.out rfl, hbel⟩
        · have HY := Lib.hid (par_ne (s := s) (by rw [hv]; exact he))
          have hne2 := str_ne he
          clear hall hv he h8
          generalize hf : fmtB (dv s s.size : Int) = f at hne2
          have HF := Lib.hid hf
          clear hf
          go_wp2_with (go_at_call 38; refine (specFmt_any _ _ (by omega) (by omega)).mono ?_; rintro e w1 ⟨rfl, hbel⟩; rw [HF.out])
          go_ret2
          exact ⟨par_res_no HY.out rfl, hbel⟩
  · have h45 : ((s[0].toNat : Int) == 45) = true := by
      unfold negS at hng; rw [hb0] at hng; simp at hng ⊢; omega
    have HNG := Lib.hid hng
    clear hng hb0
    go_enter Tryz.func52, Tryz.ntmps52
    go_wp2
    go_loop [4, 6] (fun n i => ∃ k : Nat, k ≤ s.size ∧ i = .int .i64 k ∧ n = .int .i64 (dv s k) ∧ (1 < k → s.size ≤ 8) ∧ ∀ j, j < k → dOk s j) (fun _ i => s.size - (intOf i).toNat)
    case atStart => exact ⟨0, Nat.zero_le _, rfl, rfl, fun h => absurd h (by omega), fun j h => absurd h (by omega)⟩
    case round =>
      obtain ⟨k, hk, rfl, rfl, h8, hall⟩ := hrel
      by_cases hlt : k < s.size
      · have hlt' : (k : Int) < s.size := by omega
        have hbk := byt_at hlt
        have hc : (s[k].toNat : Int) ≤ 255 := by have := s[k].toNat_lt; omega
        have hc0 : (0 : Int) ≤ s[k].toNat := by omega
        have hdv : k ≤ 7 → dv s k ≤ 9999999 := fun h => dv_le7 hall h
        by_cases hk0 : k = 0
        · subst hk0
          have HA := Lib.hid (ok_step hall (.inl ⟨rfl, HNG.out⟩))
          have HS := Lib.hid (dv_sign HNG.out)
          clear hbk hall hdv h8
          go_wp2
          go_round
          case rel => exact ⟨0 + 1, by omega, by go_num, by rw [HS.out]; rfl, fun h => absurd h (by omega), HA.out⟩
          case measure => simp [intOf]; omega
        · have hk1 : ((k : Int) == 0) = false := by simp; omega
          by_cases hgood : 48 ≤ s[k].toNat ∧ s[k].toNat ≤ 57 ∧ s.size ≤ 8
          · obtain ⟨hg1, hg2, hg3⟩ := hgood
            have hstep := dv_step (s := s) (k := k) (by rintro ⟨h, _⟩; exact hk0 h)
            have hok : dOk s k := .inr (by omega)
            rw [hbk] at hstep
            have HA := Lib.hid (ok_step hall hok)
            have HS := Lib.hid hstep
            have hd := hdv (by omega)
            have g1 : ¬ (s[k].toNat : Int) - 48 < 0 := by omega
            have g2 : ¬ (9 : Int) < (s[k].toNat : Int) - 48 := by omega
            have g3 : ¬ (8 : Int) < s.size := by omega
            clear hbk hall hstep hok hdv h8
            go_wp2
            go_round
            case rel => exact ⟨k + 1, by omega, by go_num, by rw [HS.out]; go_num, fun _ => hg3, HA.out⟩
            case measure => simp [intOf]; omega
          · have hbad : parseB s = (0, false) := by
              by_cases hl : 8 < s.size
              · exact par_long hl
              · refine par_bad hlt ?_
                rintro (⟨h, _⟩ | h)
                · exact hk0 h
                · omega
            have HB := Lib.hid hbad
            clear hbk hall hbad hdv h8
            by_cases g1 : (s[k].toNat : Int) - 48 < 0
            · go_wp2
              go_ret2
              exact ⟨par_res_no HB.out rfl, Below.refl _ _⟩
            · by_cases g2 : (9 : Int) < (s[k].toNat : Int) - 48
              · go_wp2
                go_ret2
                exact ⟨par_res_no HB.out rfl, Below.refl _ _⟩
              · have g3 : (8 : Int) < s.size := by omega
                go_wp2
                go_ret2
                exact ⟨par_res_no HB.out rfl, Below.refl _ _⟩
      · have hge : ¬ (k : Int) < s.size := by omega
        obtain rfl : k = s.size := by omega
        have hd : dv s s.size ≤ 99999999 := by
          by_cases h1 : 1 < s.size
          · exact dv_le8 hall (h8 h1)
          · exact dv_le8 hall (by omega)
        have hv : valS s = -(dv s s.size : Int) := by unfold valS; rw [HNG.out]; simp
        by_cases he : fmtB (-(dv s s.size : Int)) = s
        · have HY := Lib.hid (par_yes (s := s) hall hpos (by rw [hv]; exact he))
          rw [hv] at HY
          have HE := Lib.hid he
          clear hall hv he h8
          go_wp2_with (go_at_call 38; refine (specFmt_any _ _ (by omega) (by omega)).mono ?_; rintro e w1 ⟨rfl, hbel⟩; rw [HE.out])
          go_ret2
          exact ⟨par_res_yes HY.out rfl, hbel⟩
        · have HY := Lib.hid (par_ne (s := s) (by rw [hv]; exact he))
          have hne2 := str_ne he
          clear hall hv he h8
          generalize hf : fmtB (-(dv s s.size : Int)) = f at hne2
          have HF := Lib.hid hf
          clear hf
          go_wp2_with (go_at_call 38; refine (specFmt_any _ _ (by omega) (by omega)).mono ?_; rintro e w1 ⟨rfl, hbel⟩; rw [HF.out])
          go_ret2
          exact ⟨par_res_no HY.out rfl, hbel⟩

set_option maxRecDepth 100000 in
set_option maxHeartbeats 1000000 in
theorem specParse_any (s : ByteArray) (w : World) (hs : s.size ≤ maxLen) :
    Calls Tryz.prog 52 #[.string s] w fun e w' => ParRes s e ∧ Below w.heap.size w w' := by
  by_cases hpos : 0 < s.size
  · exact specParse_pos s w hs hpos
  · have h0 : s.size = 0 := by omega
    have hse : s = ⟨#[]⟩ := ByteArray.ext (Array.eq_empty_of_size_eq_zero h0)
    have HB := Lib.hid (par_none h0)
    subst hse
    clear hpos h0 hs
    go_enter Tryz.func52, Tryz.ntmps52
    go_wp2
    refine wp_loop_rounds 1 ?_
    rw [rounds_succ]
    go_wp2
    go_ret2
    exact ⟨par_res_no HB.out rfl, Below.refl _ _⟩

theorem hasPrefix_any (s : ByteArray) (w : World) :
    Calls Tryz.prog 115 #[.string s, .string ⟨#[45]⟩] w fun e w' => e = .returned (.bool (negS s)) ∧ w = w' :=
  (Tryz.strings_HasPrefix s ⟨#[45]⟩ w).mono fun e w' ⟨he, hw⟩ => ⟨by rw [he, ← negS_prefix], hw.symm⟩

theorem digB_yes {c : Int} (h1 : 48 ≤ c) (h2 : c ≤ 57) : digB c = true := by simp [digB, h1, h2]
theorem digB_no {c : Int} (h : ¬ (48 ≤ c ∧ c ≤ 57)) : digB c = false := by simp [digB]; omega

set_option maxRecDepth 100000 in
set_option maxHeartbeats 2000000 in
theorem implParse_any (s : ByteArray) (w : World) (hs : s.size ≤ maxLen) (ht : TB w) :
    Calls Tryz.prog 55 #[.string s] w fun e w' => ParRes s e ∧ Below w.heap.size w w' := by
  unfold maxLen at hs
  have HT := Lib.hid ht
  clear ht
  have hbi : ∀ pos, Hid (Below w.heap.size w (w.iter s pos)) := fun pos => Lib.hid ((Below.refl _ _).alloc (Nat.le_refl _) _)
  go_enter Tryz.func55, Tryz.ntmps55
  go_wp2
  go_loopw [4] (fun n w' => ∃ pos : Nat, pos ≤ s.size ∧ w' = w.iter s pos ∧ n = .int .i64 (dv s pos) ∧ dv s pos ≤ 100000 ∧ ∀ j, j < pos → dOk s j) (fun _ w' => s.size - w'.iterPos w.heap.size)
  case atStart => exact ⟨0, Nat.zero_le _, rfl, rfl, Nat.zero_le _, fun j h => absurd h (by omega)⟩
  case round =>
    obtain ⟨k, hk, rfl, rfl, hd, hall⟩ := hrel
    by_cases hlt : k < s.size
    · have hbk := byt_at hlt
      by_cases ha : s[k].toNat < 128
      · have hnx : ∀ ty, (Instr.next (.pointer (some ⟨w.heap.size, 0, none⟩)) true ty).run Tryz.prog (w.iter s k) = _ := fun ty => run_next_ascii w s k ty hlt ha
        by_cases hsg : k = 0 ∧ negS s = true
        · obtain ⟨rfl, hng⟩ := hsg
          have h45 : ((s[0].toNat : Int) == 45) = true := by
            unfold negS at hng; rw [hbk] at hng; simp at hng ⊢; omega
          have HA := Lib.hid (ok_step hall (.inl ⟨rfl, hng⟩))
          have HS := Lib.hid (dv_sign hng)
          clear hbk hall hng
          go_wp2
          go_roundw
          case rel => exact ⟨1, by omega, rfl, by rw [HS.out]; rfl, by rw [HS.out]; omega, HA.out⟩
          case measure => simp; omega
        · have hne : k = 0 → ((s[k].toNat : Int) == 45) = false := by
            intro h0
            subst h0
            unfold negS at hsg; rw [hbk] at hsg; simp at hsg ⊢; omega
          by_cases hgood : 48 ≤ s[k].toNat ∧ s[k].toNat ≤ 57
          · obtain ⟨hg1, hg2⟩ := hgood
            have hstep := dv_step (s := s) (k := k) hsg
            have hok : dOk s k := .inr (by omega)
            rw [hbk] at hstep
            have hdg := digB_yes (c := s[k].toNat) (by omega) (by omega)
            have HA := Lib.hid (ok_step hall hok)
            have HSG := Lib.hid hsg
            by_cases hbig : 100000 < dv s (k + 1)
            · have HB := Lib.hid (par_big (s := s) (k := k + 1) (by omega) hbig)
              have hb1 : (100000 : Int) < 10 * (dv s k : Int) + ((s[k].toNat : Int) - 48) := by omega
              clear hbk hall hstep hok hsg hbig
              by_cases hk0 : k = 0
              · have h45 := hne hk0
                subst hk0
                clear hne
                go_wp2_with (go_at_call 114; refine (isDigit_any _ _).mono ?_; rintro e w' ⟨rfl, rfl⟩)
                go_ret2
                exact ⟨par_res_no HB.out rfl, (hbi _).out⟩
              · have hk1 : ((k : Int) == 0) = false := by simp; omega
                clear hne
                go_wp2_with (go_at_call 114; refine (isDigit_any _ _).mono ?_; rintro e w' ⟨rfl, rfl⟩)
                go_ret2
                exact ⟨par_res_no HB.out rfl, (hbi _).out⟩
            · have hb1 : ¬ (100000 : Int) < 10 * (dv s k : Int) + ((s[k].toNat : Int) - 48) := by omega
              have HS : Hid ((dv s (k + 1) : Int) = 10 * (dv s k : Int) + ((s[k].toNat : Int) - 48)) := Lib.hid (by omega)
              have HD : Hid (dv s (k + 1) ≤ 100000) := Lib.hid (by omega)
              clear hbk hall hstep hok hsg hbig
              by_cases hk0 : k = 0
              · have h45 := hne hk0
                subst hk0
                clear hne
                go_wp2_with (go_at_call 114; refine (isDigit_any _ _).mono ?_; rintro e w' ⟨rfl, rfl⟩)
                go_roundw
                case rel => exact ⟨0 + 1, by omega, rfl, by rw [HS.out]; first | done | go_num, HD.out, HA.out⟩
                case measure => simp; omega
              · have hk1 : ((k : Int) == 0) = false := by simp; omega
                clear hne
                go_wp2_with (go_at_call 114; refine (isDigit_any _ _).mono ?_; rintro e w' ⟨rfl, rfl⟩)
                go_roundw
                case rel => exact ⟨k + 1, by omega, rfl, by rw [HS.out], HD.out, HA.out⟩
                case measure => simp; omega
          · have hbad : parseB s = (0, false) := par_bad hlt (by
              rintro (h | h)
              · exact hsg h
              · omega)
            have HB := Lib.hid hbad
            have hdg := digB_no (c := s[k].toNat) (by omega)
            clear hbk hall hbad hsg
            by_cases hk0 : k = 0
            · have h45 := hne hk0
              subst hk0
              clear hne
              go_wp2_with (go_at_call 114; refine (isDigit_any _ _).mono ?_; rintro e w' ⟨rfl, rfl⟩)
              go_ret2
              exact ⟨par_res_no HB.out rfl, (hbi _).out⟩
            · have hk1 : ((k : Int) == 0) = false := by simp; omega
              clear hne
              go_wp2_with (go_at_call 114; refine (isDigit_any _ _).mono ?_; rintro e w' ⟨rfl, rfl⟩)
              go_ret2
              exact ⟨par_res_no HB.out rfl, (hbi _).out⟩
      · have hdec := (decode_high s k hlt (by omega)).1
        have hnx : ∀ ty, (Instr.next (.pointer (some ⟨w.heap.size, 0, none⟩)) true ty).run Tryz.prog (w.iter s k) = _ := fun ty => run_next_any w s k ty hlt
        have hbad : parseB s = (0, false) := par_bad hlt (by
          rintro (⟨h0, h⟩ | h)
          · subst h0; unfold negS at h; rw [hbk] at h; simp at h; omega
          · omega)
        have HB := Lib.hid hbad
        have hdg := digB_no (c := (Utf8.decode s k).1) (by omega)
        have h45 : (((Utf8.decode s k).1 : Int) == 45) = false := by simp; omega
        clear hbk hall hbad
        by_cases hk0 : k = 0
        · subst hk0
          go_wp2_with (go_at_call 114; refine (isDigit_any _ _).mono ?_; rintro e w' ⟨rfl, rfl⟩)
          go_ret2
          exact ⟨par_res_no HB.out rfl, (hbi _).out⟩
        · have hk1 : ((k : Int) == 0) = false := by simp; omega
          go_wp2_with (go_at_call 114; refine (isDigit_any _ _).mono ?_; rintro e w' ⟨rfl, rfl⟩)
          go_ret2
          exact ⟨par_res_no HB.out rfl, (hbi _).out⟩
    · have hnx : ∀ ty, (Instr.next (.pointer (some ⟨w.heap.size, 0, none⟩)) true ty).run Tryz.prog (w.iter s k) = _ := fun ty => run_next_end w s k ty hlt
      obtain rfl : k = s.size := by omega
      have HT1 : Hid (TB (w.iter s s.size)) := Lib.hid (HT.out.below (hbi s.size).out (Nat.le_refl _))
      rcases hng : negS s with _ | _
      · have hv : valS s = (dv s s.size : Int) := by unfold valS; rw [hng]; simp
        have HNG := Lib.hid hng
        clear hng
        by_cases he : fmtB (dv s s.size : Int) = s
        · have hpos : 0 < s.size := by have := fmtB_some (n := (dv s s.size : Int)) (by omega) (by omega); rw [he] at this; omega
          have HY := Lib.hid (par_yes (s := s) hall hpos (by rw [hv]; exact he))
          rw [hv] at HY
          have HE := Lib.hid he
          clear hall hv he hpos
          go_wp2_with (first
            | (go_at_call 115; refine (hasPrefix_any _ _).mono ?_; rintro e w' ⟨rfl, rfl⟩; rw [HNG.out])
            | (go_at_call 46; refine (implFmt_any _ _ (by omega) (by omega) HT1.out).mono ?_; rintro e w1 ⟨rfl, hbel⟩; rw [HE.out]))
          go_ret2
          exact ⟨par_res_yes HY.out rfl, (hbi _).out.trans (hbel.mono (hbi s.size).out.size)⟩
        · have HY := Lib.hid (par_ne (s := s) (by rw [hv]; exact he))
          have hne2 := str_ne he
          clear hall hv he
          generalize hf : fmtB (dv s s.size : Int) = f at hne2
          have HF := Lib.hid hf
          clear hf
          go_wp2_with (first
            | (go_at_call 115; refine (hasPrefix_any _ _).mono ?_; rintro e w' ⟨rfl, rfl⟩; rw [HNG.out])
            | (go_at_call 46; refine (implFmt_any _ _ (by omega) (by omega) HT1.out).mono ?_; rintro e w1 ⟨rfl, hbel⟩; rw [HF.out]))
          go_ret2
          exact ⟨par_res_no HY.out rfl, (hbi _).out.trans (hbel.mono (hbi s.size).out.size)⟩
      · have hv : valS s = -(dv s s.size : Int) := by unfold valS; rw [hng]; simp
        have HNG := Lib.hid hng
        clear hng
        by_cases he : fmtB (-(dv s s.size : Int)) = s
        · have hpos : 0 < s.size := by have := fmtB_some (n := -(dv s s.size : Int)) (by omega) (by omega); rw [he] at this; omega
          have HY := Lib.hid (par_yes (s := s) hall hpos (by rw [hv]; exact he))
          rw [hv] at HY
          have HE := Lib.hid he
          clear hall hv he hpos
          go_wp2_with (first
            | (go_at_call 115; refine (hasPrefix_any _ _).mono ?_; rintro e w' ⟨rfl, rfl⟩; rw [HNG.out])
            | (go_at_call 46; refine (implFmt_any _ _ (by omega) (by omega) HT1.out).mono ?_; rintro e w1 ⟨rfl, hbel⟩; rw [HE.out]))
          go_ret2
          exact ⟨par_res_yes HY.out rfl, (hbi _).out.trans (hbel.mono (hbi s.size).out.size)⟩
        · have HY := Lib.hid (par_ne (s := s) (by rw [hv]; exact he))
          have hne2 := str_ne he
          clear hall hv he
          generalize hf : fmtB (-(dv s s.size : Int)) = f at hne2
          have HF := Lib.hid hf
          clear hf
          go_wp2_with (first
            | (go_at_call 115; refine (hasPrefix_any _ _).mono ?_; rintro e w' ⟨rfl, rfl⟩; rw [HNG.out])
            | (go_at_call 46; refine (implFmt_any _ _ (by omega) (by omega) HT1.out).mono ?_; rintro e w1 ⟨rfl, hbel⟩; rw [HF.out]))
          go_ret2
          exact ⟨par_res_no HY.out rfl, (hbi _).out.trans (hbel.mono (hbi s.size).out.size)⟩
end Go.Proofs.YtilcfbffjjdgnabGreatDoor
