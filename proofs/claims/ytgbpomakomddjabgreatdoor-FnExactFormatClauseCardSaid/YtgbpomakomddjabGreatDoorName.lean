/- DERIVED. CONTRACTS: isLower, spec.IsName, impl.IsName. -/
import Derived.Test.YtgbpomakomddjabGreatDoorChecked
import Derived.Test.YtgbpomakomddjabGreatDoorMaths
import Derived.Test.YtgbpomakomddjabGreatDoorDats
import Derived.Test.YtgbpomakomddjabGreatDoorDig
import Derived.WalkKit
import Derived.Lib.Hide
import Derived.BigQuiet
import Derived.Outline
import Derived.Deep.QuietTactic
namespace Go.Proofs.YtgbpomakomddjabGreatDoor
open Go.RowKit

set_option maxHeartbeats 400000 in
theorem isLower_any (c : Int) (w : World) :
    Calls Tryz.prog 160 #[.int .i32 c] w fun e w' => e = .returned (.bool (lowB c)) ∧ w = w' := by
  by_cases h : (97 : Int) ≤ c
  all_goals
    go_enter Tryz.func160, Tryz.ntmps160
    go_wp2
    go_ret
    exact ⟨by simp [lowB] <;> omega, rfl⟩


set_option maxRecDepth 100000 in
set_option maxHeartbeats 1000000 in
theorem specIsName_any (s : ByteArray) (w : World) (hs : s.size ≤ maxLen) :
    Calls Tryz.prog 137 #[.string s] w fun e w' => e = .returned (.bool (nmB s)) ∧ w = w' := by
  unfold maxLen at hs
  go_enter Tryz.func137, Tryz.ntmps137
  go_wp2
  go_loop [3] (fun i => ∃ k : Nat, k ≤ s.size ∧ i = .int .i64 k ∧ ∀ j, (hj : j < s.size) → j < k → nmAt j s[j].toNat = true) (fun i => s.size - (intOf i).toNat)
  case atStart => exact ⟨0, Nat.zero_le _, rfl, fun j _ h => absurd h (by omega)⟩
  case round =>
    obtain ⟨k, hk, rfl, hall⟩ := hrel
    by_cases hlt : k < s.size
    · have hlt' : (k : Int) < (s.size : Int) := by omega
      have hb : (s[k].toNat : Int) < 256 := by have := s[k].toNat_lt; omega
      have hb0 : (0 : Int) ≤ s[k].toNat := by omega
      have step : nmAt k s[k].toNat = true → ∀ j, (hj : j < s.size) → j < k + 1 → nmAt j s[j].toNat = true := fun hn j hj hjk => by
        by_cases e : j = k
        · subst e; exact hn
        · exact hall j hj (by omega)
      have bad := nmB_at hlt
      have STEP := Lib.hid step
      have BAD := Lib.hid bad
      clear step bad hall
      by_cases h97 : (97 : Int) ≤ s[k].toNat
      · by_cases h122 : (s[k].toNat : Int) ≤ 122
        · go_wp2
          go_round
          case rel => exact ⟨k + 1, by omega, by go_num, STEP.out (nmAt_low (by omega) (by omega))⟩
          case measure => simp [intOf]; omega
        · by_cases hk0 : k = 0
          · subst hk0
            go_wp2
            go_ret
            exact ⟨by rw [BAD.out (nmAt_zero (by omega))]; rfl, rfl⟩
          · have hk1 : ((k : Int) == 0) = false := by simp; omega
            go_wp2
            go_ret
            exact ⟨by rw [BAD.out (nmAt_high (by omega))]; rfl, rfl⟩
      · by_cases hk0 : k = 0
        · subst hk0
          go_wp2
          go_ret
          exact ⟨by rw [BAD.out (nmAt_zero (by omega))]; rfl, rfl⟩
        · have hk1 : ((k : Int) == 0) = false := by simp; omega
          by_cases h48 : (48 : Int) ≤ s[k].toNat
          · by_cases h57 : (s[k].toNat : Int) ≤ 57
            · go_wp2
              go_round
              case rel => exact ⟨k + 1, by omega, by go_num, STEP.out (nmAt_dig (by omega) (by omega) (by omega))⟩
              case measure => simp [intOf]; omega
            · go_wp2
              go_ret
              exact ⟨by rw [BAD.out (nmAt_mid (by omega) (by omega))]; rfl, rfl⟩
          · go_wp2
            go_ret
            exact ⟨by rw [BAD.out (nmAt_less (by omega))]; rfl, rfl⟩
    · have hge : ¬ (k : Int) < (s.size : Int) := by omega
      have hn := nmB_size (s := s) (fun j hj => hall j hj (by omega))
      have HN := Lib.hid hn
      clear hn hall
      go_wp2_with (go_at_call 82; refine (l01In_any _ _ _ _).mono ?_; rintro e w' ⟨rfl, rfl⟩)
      go_ret
      exact ⟨by rw [HN.out]; rfl, rfl⟩

theorem below_iter (w : World) (s : ByteArray) (pos : Nat) : Below w.heap.size w (w.iter s pos) := (Below.refl _ _).alloc (Nat.le_refl _) _

set_option maxRecDepth 100000 in
set_option maxHeartbeats 1000000 in
theorem implIsName_any (s : ByteArray) (w : World) (hs : s.size ≤ maxLen) :
    Calls Tryz.prog 140 #[.string s] w fun e w' => e = .returned (.bool (nmB s)) ∧ Below w.heap.size w w' := by
  unfold maxLen at hs
  by_cases h1 : s.size < 1
  · have HN := Lib.hid (nmB_len (s := s) (.inl h1))
    have h1' : (s.size : Int) < 1 := by omega
    go_enter Tryz.func140, Tryz.ntmps140
    go_wp2
    go_ret
    exact ⟨by rw [HN.out]; rfl, Below.refl _ _⟩
  by_cases h8 : 8 < s.size
  · have HN := Lib.hid (nmB_len (s := s) (.inr h8))
    have h1' : ¬ (s.size : Int) < 1 := by omega
    have h8' : (8 : Int) < s.size := by omega
    go_enter Tryz.func140, Tryz.ntmps140
    go_wp2
    go_ret
    exact ⟨by rw [HN.out]; rfl, Below.refl _ _⟩
  have h1' : ¬ (s.size : Int) < 1 := by omega
  have h8' : ¬ (8 : Int) < s.size := by omega
  go_enter Tryz.func140, Tryz.ntmps140
  go_wp2
  go_loopw [3] (fun i w' => ∃ pos : Nat, pos ≤ s.size ∧ w' = w.iter s pos ∧ ∀ j, (hj : j < s.size) → j < pos → nmAt j s[j].toNat = true) (fun i w' => s.size - w'.iterPos w.heap.size)
  case atStart => exact ⟨0, Nat.zero_le _, rfl, fun j _ h => absurd h (by omega)⟩
  case round =>
    obtain ⟨k, hk, rfl, hall⟩ := hrel
    by_cases hlt : k < s.size
    · have hb : (s[k].toNat : Int) < 256 := by have := s[k].toNat_lt; omega
      have step : nmAt k s[k].toNat = true → ∀ j, (hj : j < s.size) → j < k + 1 → nmAt j s[j].toNat = true := fun hn j hj hjk => by
        by_cases e : j = k
        · subst e; exact hn
        · exact hall j hj (by omega)
      have bad := nmB_at hlt
      by_cases ha : s[k].toNat < 128
      · have STEP := Lib.hid step
        have BAD := Lib.hid bad
        clear step bad hall
        have hnx : ∀ ty, (Instr.next (.pointer (some ⟨w.heap.size, 0, none⟩)) true ty).run Tryz.prog (w.iter s k) = _ := fun ty => run_next_ascii w s k ty hlt ha
        by_cases hl : lowB s[k].toNat = true
        · go_wp2_with (go_at_call 160; refine (isLower_any _ _).mono ?_; rintro e w' ⟨rfl, rfl⟩)
          go_roundw
          case rel => exact ⟨k + 1, by omega, rfl, STEP.out (by simp [nmAt, hl])⟩
          case measure => simp; omega
        · have hl : lowB s[k].toNat = false := by simpa using hl
          by_cases hk0 : k = 0
          · subst hk0
            go_wp2_with (go_at_call 160; refine (isLower_any _ _).mono ?_; rintro e w' ⟨rfl, rfl⟩)
            go_ret
            exact ⟨by rw [BAD.out (by simp [nmAt, hl])]; rfl, below_iter _ _ _⟩
          · have hk1 : ((k : Int) == 0) = false := by simp; omega
            by_cases hd : digB s[k].toNat = true
            · go_wp2_with (first | (go_at_call 160; refine (isLower_any _ _).mono ?_; rintro e w' ⟨rfl, rfl⟩) | (go_at_call 105; refine (isDigit_any _ _).mono ?_; rintro e w' ⟨rfl, rfl⟩))
              go_roundw
              case rel => exact ⟨k + 1, by omega, rfl, STEP.out (by simp [nmAt, hd]; omega)⟩
              case measure => simp; omega
            · have hd : digB s[k].toNat = false := by simpa using hd
              go_wp2_with (first | (go_at_call 160; refine (isLower_any _ _).mono ?_; rintro e w' ⟨rfl, rfl⟩) | (go_at_call 105; refine (isDigit_any _ _).mono ?_; rintro e w' ⟨rfl, rfl⟩))
              go_ret
              exact ⟨by rw [BAD.out (by simp [nmAt, hl, hd])]; rfl, below_iter _ _ _⟩
      · have hdec := (decode_high s k hlt (by omega)).1
        have hbad : nmAt k s[k].toNat = false := nmAt_high (by omega)
        have BAD := Lib.hid (bad hbad)
        clear step bad hall hbad
        have hnx : ∀ ty, (Instr.next (.pointer (some ⟨w.heap.size, 0, none⟩)) true ty).run Tryz.prog (w.iter s k) = _ := fun ty => run_next_any w s k ty hlt
        have hl : lowB (Utf8.decode s k).1 = false := by simp [lowB]; omega
        have hd : digB (Utf8.decode s k).1 = false := by simp [digB]; omega
        by_cases hk0 : k = 0
        · subst hk0
          go_wp2_with (first | (go_at_call 160; refine (isLower_any _ _).mono ?_; rintro e w' ⟨rfl, rfl⟩))
          go_ret
          exact ⟨by rw [BAD.out]; rfl, below_iter _ _ _⟩
        · have hk1 : ((k : Int) == 0) = false := by simp; omega
          go_wp2_with (first | (go_at_call 160; refine (isLower_any _ _).mono ?_; rintro e w' ⟨rfl, rfl⟩) | (go_at_call 105; refine (isDigit_any _ _).mono ?_; rintro e w' ⟨rfl, rfl⟩))
          go_ret
          exact ⟨by rw [BAD.out]; rfl, below_iter _ _ _⟩
    · have hnx : ∀ ty, (Instr.next (.pointer (some ⟨w.heap.size, 0, none⟩)) true ty).run Tryz.prog (w.iter s k) = _ := fun ty => run_next_end w s k ty hlt
      have HN := Lib.hid (nmB_all (s := s) (by omega) (by omega) (fun j hj => hall j hj (by omega)))
      clear hall
      go_wp2
      go_ret
      exact ⟨by rw [HN.out]; rfl, below_iter _ _ _⟩
end Go.Proofs.YtgbpomakomddjabGreatDoor
