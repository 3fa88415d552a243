/- DERIVED. CONTRACTS: impl.StepsOk, spec.StepsOk, impl.isTime. -/
import Derived.Test.YtgbpomakomddjabGreatDoorChecked
import Derived.Test.YtgbpomakomddjabGreatDoorCore
import Derived.Test.YtgbpomakomddjabGreatDoorMaths
import Derived.Test.YtgbpomakomddjabGreatDoorDats
import Derived.WalkKit
import Derived.Lib.Hide
import Derived.OwnWalk
import Derived.BigQuiet
import Derived.Deep.QuietTactic
import Derived.Outline
import Derived.Deep.RegionWith
namespace Go.Proofs.YtgbpomakomddjabGreatDoor
open Go.RowKit

theorem ret_boolS {a b : Bool} (h : a = b) : Ending.returned (.bool a) = .returned (.bool b) := by rw [h]
theorem getD_at {xs : List Pr} {j : Nat} (h : j < xs.length) : xs.getD j (0, 0) = xs[j] := by simp [List.getD, List.getElem?_eq_getElem h]
theorem okS_bad {xs : List Pr} {j : Nat} (hj : j < xs.length) (h : ¬ goodP xs j) : okP xs = false := okP_no fun hk => h (hk.2.2.2 j hj)

set_option maxRecDepth 100000 in
set_option maxHeartbeats 1000000 in
theorem implStepsOk_any (xs : List Pr) (v : Value) (w : World) (hr : RdP w v xs) :
    Calls Tryz.prog 142 #[v] w fun e w' => e = .returned (.bool (okP xs)) ∧ Below w.heap.size w w' := by
  have hl := hr.le
  obtain ⟨A, c, rfl, HR⟩ := rdPk hr
  clear hr
  have HA := Lib.hid HR
  clear HR
  by_cases h1 : xs.length < 1
  · have H := Lib.hid (okP_no (xs := xs) fun h => by have := h.1; omega)
    have h1' : (xs.length : Int) < 1 := by omega
    go_enter Tryz.func142, Tryz.ntmps142
    go_wp2
    go_ret
    exact ⟨ret_boolS H.out.symm, Below.refl _ _⟩
  have h1' : ¬ (xs.length : Int) < 1 := by omega
  by_cases h8 : 8 < xs.length
  · have H := Lib.hid (okP_no (xs := xs) fun h => by have := h.2.1; omega)
    have h8' : (8 : Int) < (xs.length : Int) := by omega
    go_enter Tryz.func142, Tryz.ntmps142
    go_wp2
    go_ret
    exact ⟨ret_boolS H.out.symm, Below.refl _ _⟩
  have h8' : ¬ (8 : Int) < (xs.length : Int) := by omega
  obtain ⟨b, o, rfl, hb, hc⟩ := HA.out 0 (by omega)
  have hz := (hc 0 (by omega)).1
  rw [Nat.zero_mul, Nat.add_zero] at hz
  have HC := Lib.hid hc
  clear hc HA
  have h0n : 0 < xs.length := by omega
  by_cases hz0 : xs[0].1 = 0
  · rw [hz0] at hz
    have HZ0 := Lib.hid hz0
    clear hz0
    go_enter Tryz.func142, Tryz.ntmps142
    go_wp2
    go_loopw [22] (fun i wr => ∃ k : Nat, k ≤ xs.length ∧ i = .int .i64 k ∧ Below w.heap.size w wr ∧ ∀ j, j < k → goodP xs j) (fun i _ => xs.length - (intOf i).toNat)
    case atStart => exact ⟨0, Nat.zero_le _, rfl, Below.refl _ _, fun j h => by omega⟩
    case round =>
      obtain ⟨k, hk, rfl, hbel, hall⟩ := hrel
      by_cases hlt : k < xs.length
      · have hlt' : (k : Int) < (xs.length : Int) := by omega
        obtain ⟨cx0, cx1⟩ := HC.out k hlt
        replace cx0 := (hbel.cell (p := ⟨b, o + k * 2, none⟩) hb).trans cx0
        replace cx1 := (hbel.cell (p := ⟨b, o + k * 2 + 1, none⟩) hb).trans cx1
        have hbw : b < wr.heap.size := by have := hbel.size; omega
        have hg : goodP xs k ↔ 0 ≤ xs[k].1 ∧ xs[k].1 ≤ 60 ∧ 0 ≤ xs[k].2 ∧ xs[k].2 ≤ 20 ∧ (0 < k → (xs.getD (k - 1) (0, 0)).1 < xs[k].1) := by
          unfold goodP; rw [getD_at hlt]
        by_cases hk0 : k = 0
        · have hk0' : ¬ (0 : Int) < (k : Int) := by omega
          have hk0d : decide (0 < k) = false := by simpa using hk0
          have hk0e : decide ((0 : Int) < (k : Int)) = false := by simpa using hk0
          have HG := Lib.hid (show xs[k].1 = 0 ∧ (goodP xs k ↔ xs[k].1 ≤ 60 ∧ 0 ≤ xs[k].2 ∧ xs[k].2 ≤ 20) from by
            subst hk0
            have := HZ0.out
            exact ⟨this, by rw [hg, this]; omega⟩)
          have HALL := Lib.hid hall
          have HB := Lib.hid hbel
          have HK := Lib.hid hk0
          clear hg hall hbel hk0 hz
          generalize xs[k].1 = x0 at cx0 HG
          generalize xs[k].2 = x1 at cx1 HG
          have hx0 : ¬ 60 < x0 := by have := HG.out.1; omega
          by_cases hlo : x1 < 0
          · have H := Lib.hid (okS_bad hlt fun hg => by have := (HG.out.2.1 hg); omega)
            go_wp2
            go_quiet (fail)
            go_wp2
            go_ret
            exact ⟨ret_boolS H.out.symm, below_drewN ((HB.out.alloc HB.out.size _)) _⟩
          by_cases hhi : 20 < x1
          · have H := Lib.hid (okS_bad hlt fun hg => by have := (HG.out.2.1 hg); omega)
            go_wp2
            go_quiet (fail)
            go_wp2
            go_ret
            exact ⟨ret_boolS H.out.symm, below_drewN ((HB.out.alloc HB.out.size _)) _⟩
          have HN := Lib.hid (show ∀ j, j < k + 1 → goodP xs j from fun j hj => by
            by_cases e : j = k
            · subst e; exact HG.out.2.2 (by omega)
            · exact HALL.out j (by omega))
          go_wp2
          go_quiet (fail)
          go_wp2
          go_roundw
          case rel => exact ⟨k + 1, by omega, by go_num, below_drewN ((HB.out.alloc HB.out.size _)) _, HN.out⟩
          case measure => simp [intOf]; omega
        · have hk0' : (0 : Int) < (k : Int) := by omega
          have hk0n : 0 < k := by omega
          have hk0d : decide (0 < k) = true := by simpa using hk0n
          obtain ⟨k1, hk1⟩ : ∃ k1, k1 = k - 1 := ⟨_, rfl⟩
          have hlt1 : k1 < xs.length := by omega
          have hw : IntKind.i64.wrap ((k : Int) - 1) = (k1 : Int) := by rw [IntKind.wrap_i64]; omega
          have hltk : (k1 : Int) < (xs.length : Int) := by omega
          have hge1 : 0 ≤ (k1 : Int) := by omega
          have cz0 := (hbel.cell (p := ⟨b, o + k1 * 2, none⟩) hb).trans (HC.out k1 hlt1).1
          have hp0 := (hall k1 (by omega)).1
          rw [getD_at hlt1] at hp0
          rw [← hk1, getD_at hlt1] at hg
          have HG := Lib.hid hg
          have HALL := Lib.hid hall
          have HB := Lib.hid hbel
          have HK := Lib.hid hk1
          clear hg hall hbel hk0 hk1 hz
          generalize xs[k1].1 = z0 at cz0 HG hp0
          generalize xs[k].1 = x0 at cx0 HG
          generalize xs[k].2 = x1 at cx1 HG
          by_cases hle : x0 ≤ z0
          · have H := Lib.hid (okS_bad hlt fun hg => by have := (HG.out.1 hg).2.2.2.2 (by omega); omega)
            go_wp2
            go_quiet (fail)
            go_wp2
            go_ret
            exact ⟨ret_boolS H.out.symm, below_drewN ((HB.out.alloc HB.out.size _)) _⟩
          by_cases hx0 : 60 < x0
          · have H := Lib.hid (okS_bad hlt fun hg => by have := (HG.out.1 hg); omega)
            go_wp2
            go_quiet (fail)
            go_wp2
            go_ret
            exact ⟨ret_boolS H.out.symm, below_drewN ((HB.out.alloc HB.out.size _)) _⟩
          by_cases hlo : x1 < 0
          · have H := Lib.hid (okS_bad hlt fun hg => by have := (HG.out.1 hg); omega)
            go_wp2
            go_quiet (fail)
            go_wp2
            go_ret
            exact ⟨ret_boolS H.out.symm, below_drewN ((HB.out.alloc HB.out.size _)) _⟩
          by_cases hhi : 20 < x1
          · have H := Lib.hid (okS_bad hlt fun hg => by have := (HG.out.1 hg); omega)
            go_wp2
            go_quiet (fail)
            go_wp2
            go_ret
            exact ⟨ret_boolS H.out.symm, below_drewN ((HB.out.alloc HB.out.size _)) _⟩
          have HN := Lib.hid (show ∀ j, j < k + 1 → goodP xs j from fun j hj => by
            by_cases e : j = k
            · subst e; exact HG.out.2 (by omega)
            · exact HALL.out j (by omega))
          go_wp2
          go_quiet (fail)
          go_wp2
          go_roundw
          case rel => exact ⟨k + 1, by omega, by go_num, below_drewN ((HB.out.alloc HB.out.size _)) _, HN.out⟩
          case measure => simp [intOf]; omega
      · have hge : ¬ (k : Int) < (xs.length : Int) := by omega
        obtain rfl : k = xs.length := by omega
        have H := Lib.hid (okP_iff.2 (show okS xs from ⟨by omega, by omega, by rw [getD_at h0n]; exact HZ0.out, hall⟩))
        clear hall
        go_wp2
        go_ret
        exact ⟨ret_boolS H.out.symm, hbel⟩
  · have H := Lib.hid (okP_no (xs := xs) fun h => hz0 (by have := h.2.2.1; rwa [getD_at h0n] at this))
    have hz0' : (xs[0].1 != 0) = true := by simpa using hz0
    clear hz0
    generalize xs[0].1 = z at hz hz0'
    go_enter Tryz.func142, Tryz.ntmps142
    go_wp2
    go_ret
    exact ⟨ret_boolS H.out.symm, Below.refl _ _⟩

theorem quiet_left {P : Program} {f : FuncId} {args : Array Value} {w : World} {n : Nat} {v : Value}
    (h : Calls P f args (w.drewN n) fun e w' => e = .returned v ∧ w.drewN n = w') : Calls P f args (w.drewN n) fun e w' => e = .returned v ∧ ∃ m, w' = w.drewN m :=
  h.mono fun _ _ ⟨he, hw⟩ => ⟨he, n, hw.symm⟩
theorem quiet_add_left {P : Program} {f : FuncId} {args : Array Value} {w : World} {a n : Nat} {v : Value}
    (h : Calls P f args (w.drewN (a + n)) fun e w' => e = .returned v ∧ w.drewN (a + n) = w') :
    Calls P f args (w.drewN (a + n)) fun e w'' => e = .returned v ∧ ∃ m, w'' = w.drewN (a + m) :=
  h.mono fun _ _ ⟨he, hm⟩ => ⟨he, n, hm.symm⟩
theorem in_any (n lo hi : Int) (w : World) :
    Calls Tryz.prog 82 #[.int .i64 n, .int .i64 lo, .int .i64 hi] w fun e w' => e = .returned (.bool (inB n lo hi)) ∧ w = w' := l01In_any n lo hi w

set_option maxRecDepth 100000 in
set_option maxHeartbeats 2000000 in
theorem specStepsOk_any (xs : List Pr) (v : Value) (w : World) (hr : RdP w v xs) :
    Calls Tryz.prog 138 #[v] w fun e w' => e = .returned (.bool (okP xs)) ∧ Below w.heap.size w w' := by
  have hl := hr.le
  obtain ⟨A, c, rfl, HR⟩ := rdPk hr
  clear hr
  have HA := Lib.hid HR
  clear HR
  go_enter Tryz.func138, Tryz.ntmps138
  go_wp2
  go_loopw [7] (fun i wr => ∃ k : Nat, k ≤ xs.length ∧ i = .int .i64 k ∧ Below w.heap.size w wr ∧ ∀ j, j < k → goodP xs j) (fun i _ => xs.length - (intOf i).toNat)
  case atStart => exact ⟨0, Nat.zero_le _, rfl, Below.refl _ _, fun j h => by omega⟩
  case round =>
    obtain ⟨k, hk, rfl, hbel, hall⟩ := hrel
    by_cases hlt : k < xs.length
    · have hlt' : (k : Int) < (xs.length : Int) := by omega
      obtain ⟨b, o, rfl, hb, hc⟩ := HA.out k hlt
      obtain ⟨cx0, cx1⟩ := hc k hlt
      replace cx0 := (hbel.cell (p := ⟨b, o + k * 2, none⟩) hb).trans cx0
      replace cx1 := (hbel.cell (p := ⟨b, o + k * 2 + 1, none⟩) hb).trans cx1
      have hbw : b < wr.heap.size := by have := hbel.size; omega
      have hg : goodP xs k ↔ 0 ≤ xs[k].1 ∧ xs[k].1 ≤ 60 ∧ 0 ≤ xs[k].2 ∧ xs[k].2 ≤ 20 ∧ (0 < k → (xs.getD (k - 1) (0, 0)).1 < xs[k].1) := by
        unfold goodP; rw [getD_at hlt]
      have HALL := Lib.hid hall
      have HB := Lib.hid hbel
      have HC := Lib.hid hc
      have HG := Lib.hid hg
      clear hg hall hbel hc
      generalize xs[k].1 = x0 at cx0 HG
      generalize xs[k].2 = x1 at cx1 HG
      by_cases hx0 : 0 ≤ x0 ∧ x0 ≤ 60
      · have e0 := inB_yes hx0
        by_cases hx1 : 0 ≤ x1 ∧ x1 ≤ 20
        · have e1 := inB_yes hx1
          have HX0 := Lib.hid hx0
          have HX1 := Lib.hid hx1
          clear hx0 hx1
          by_cases hk0 : k = 0
          · have hk0d : decide (0 < k) = false := by simpa using hk0
            have hk0e : decide ((0 : Int) < (k : Int)) = false := by simpa using hk0
            have HN := Lib.hid (show ∀ j, j < k + 1 → goodP xs j from fun j hj => by
              by_cases e : j = k
              · subst e; have := HX0.out; have := HX1.out; exact HG.out.2 (by omega)
              · exact HALL.out j (by omega))
            have HK := Lib.hid hk0
            clear hk0
            go_wp2
            go_quiet ((go_at_call 82; exact quiet_left (in_any _ _ _ _)))
            go_wp2
            go_roundw
            case rel => exact ⟨k + 1, by omega, by go_num, below_drewN ((HB.out.alloc HB.out.size _)) _, HN.out⟩
            case measure => simp [intOf]; omega
          · have hk0' : (0 : Int) < (k : Int) := by omega
            have hk0n : 0 < k := by omega
            have hk0d : decide (0 < k) = true := by simpa using hk0n
            obtain ⟨k1, hk1⟩ : ∃ k1, k1 = k - 1 := ⟨_, rfl⟩
            have hlt1 : k1 < xs.length := by omega
            have hw : IntKind.i64.wrap ((k : Int) - 1) = (k1 : Int) := by rw [IntKind.wrap_i64]; omega
            have hltk : (k1 : Int) < (xs.length : Int) := by omega
            have hge1 : 0 ≤ (k1 : Int) := by omega
            have cz0 := (HB.out.cell (p := ⟨b, o + k1 * 2, none⟩) hb).trans (HC.out k1 hlt1).1
            have hg2 := HG.out
            rw [← hk1, getD_at hlt1] at hg2
            have HG2 := Lib.hid hg2
            have HK := Lib.hid hk1
            clear hg2 hk0 hk1
            generalize xs[k1].1 = z0 at cz0 HG2
            by_cases hle : x0 ≤ z0
            · have H := Lib.hid (okS_bad hlt fun hg => by have := (HG2.out.1 hg).2.2.2.2 (by omega); omega)
              have hle' : z0 ≥ x0 := hle
              go_wp2
              go_quiet ((go_at_call 82; exact quiet_left (in_any _ _ _ _)))
              go_wp2
              go_ret
              exact ⟨ret_boolS H.out.symm, below_drewN ((HB.out.alloc HB.out.size _)) _⟩
            · have hle' : ¬ z0 ≥ x0 := hle
              have HN := Lib.hid (show ∀ j, j < k + 1 → goodP xs j from fun j hj => by
                by_cases e : j = k
                · subst e; have := HX0.out; have := HX1.out; exact HG2.out.2 (by omega)
                · exact HALL.out j (by omega))
              go_wp2
              go_quiet ((go_at_call 82; exact quiet_left (in_any _ _ _ _)))
              go_wp2
              go_roundw
              case rel => exact ⟨k + 1, by omega, by go_num, below_drewN ((HB.out.alloc HB.out.size _)) _, HN.out⟩
              case measure => simp [intOf]; omega
        · have e1 := inB_no hx1
          have H := Lib.hid (okS_bad hlt fun hg => by have := (HG.out.1 hg); omega)
          clear hx1 hx0
          go_wp2
          go_quiet ((go_at_call 82; exact quiet_left (in_any _ _ _ _)))
          go_wp2
          go_ret
          exact ⟨ret_boolS H.out.symm, below_drewN ((HB.out.alloc HB.out.size _)) _⟩
      · have e0 := inB_no hx0
        have H := Lib.hid (okS_bad hlt fun hg => by have := (HG.out.1 hg); omega)
        clear hx0
        go_wp2
        go_quiet ((go_at_call 82; exact quiet_left (in_any _ _ _ _)))
        go_wp2
        go_ret
        exact ⟨ret_boolS H.out.symm, below_drewN ((HB.out.alloc HB.out.size _)) _⟩
    · have hge : ¬ (k : Int) < (xs.length : Int) := by omega
      obtain rfl : k = xs.length := by omega
      have HALL := Lib.hid hall
      clear hall
      by_cases h18 : 1 ≤ (xs.length : Int) ∧ (xs.length : Int) ≤ 8
      · have e := inB_yes h18
        obtain ⟨b, o, rfl, hb, hc⟩ := HA.out 0 (by omega)
        have hn0 : 0 < xs.length := by omega
        have hz := (hbel.cell (p := ⟨b, o + 0 * 2, none⟩) hb).trans (hc 0 (by omega)).1
        rw [Nat.zero_mul, Nat.add_zero] at hz
        have H := Lib.hid (show okP xs = decide (xs[0].1 = 0) from by
          by_cases h0 : xs[0].1 = 0
          · rw [decide_eq_true h0]; exact okP_iff.2 ⟨by omega, by omega, by rw [getD_at hn0]; exact h0, HALL.out⟩
          · rw [decide_eq_false h0]; exact okP_no fun h => h0 (by have := h.2.2.1; rwa [getD_at hn0] at this))
        clear hc h18
        generalize xs[0].1 = z at hz H
        go_wp2_with fail
        refine (in_any _ _ _ _).mono ?_
        rintro e1 w1 ⟨rfl, rfl⟩
        by_cases hz0 : z = 0
        · subst hz0
          go_wp2
          go_ret
          exact ⟨ret_boolS H.out.symm, hbel⟩
        · have hz1 : (z == 0) = false := by simpa using hz0
          have HZ := Lib.hid hz0
          clear hz0
          go_wp2
          go_ret
          exact ⟨ret_boolS (by rw [H.out, decide_eq_false HZ.out]), hbel⟩
      · have e := inB_no h18
        have H := Lib.hid (okP_no (xs := xs) fun h => h18 (by have := h.1; have := h.2.1; omega))
        clear h18
        go_wp2_with fail
        refine (in_any _ _ _ _).mono ?_
        rintro e1 w1 ⟨rfl, rfl⟩
        go_wp2
        go_ret
        exact ⟨ret_boolS H.out.symm, hbel⟩

end Go.Proofs.YtgbpomakomddjabGreatDoor
