/- DERIVED. CONTRACTS: ModeOk, of the model and of the program. -/
import Derived.Test.YtgbpomakomddjabGreatDoorDats
import Derived.Test.YtgbpomakomddjabGreatDoorMaths
import Derived.Test.YtgbpomakomddjabGreatDoorCore
import Derived.WalkKit
import Derived.Lib.Hide
import Derived.OwnWalk
import Derived.BigQuiet
import Derived.Deep.RegionWith
import Derived.Deep.QuietTactic
import Derived.Outline
namespace Go.Proofs.YtgbpomakomddjabGreatDoor
open Go.RowKit

theorem inD_any (n lo hi : Int) (w : World) :
    Calls Tryz.prog 82 #[.int .i64 n, .int .i64 lo, .int .i64 hi] w fun e w' => e = .returned (.bool (inB n lo hi)) ∧ w = w' := l01In_any n lo hi w
theorem ret_boo {a b : Bool} (h : a = b) : Ending.returned (.bool a) = .returned (.bool b) := by rw [h]

theorem isDur_any (n : Int) (w : World) :
    Calls Tryz.prog 174 #[.int .i64 n] w fun e w' => e = .returned (.bool (inB n 1 12)) ∧ w = w' := by
  by_cases h : 1 ≤ n
  all_goals
    go_enter Tryz.func174, Tryz.ntmps174
    go_wp2
    go_ret
    exact ⟨by simp [inB] <;> omega, rfl⟩

set_option maxRecDepth 100000 in
set_option maxHeartbeats 1000000 in
theorem specNums_any (l : List Int) (n : Int) (v : Value) (w : World) (hr : Rd w v (l.map (.int .i64))) :
    Calls Tryz.prog 159 #[v, .int .i64 n] w fun e w' => e = .returned (.bool (numsB l n)) ∧ w = w' := by
  obtain ⟨hl, A, c, rfl, ha⟩ := rdI hr
  unfold maxLen at hl
  clear hr
  have HA := Lib.hid ha
  clear ha
  generalize hres : numsB l n = res
  have RES := Lib.hid hres
  clear hres
  go_enter Tryz.func159, Tryz.ntmps159
  go_wp2
  go_loop [9] (fun i => ∃ k : Nat, k ≤ l.length ∧ i = .int .i64 k ∧ ∀ j, (hj : j < l.length) → j < k → inB l[j] 0 20 = true) (fun i => l.length - (intOf i).toNat)
  case atStart => exact ⟨0, Nat.zero_le _, rfl, fun j _ h => absurd h (by omega)⟩
  case round =>
    obtain ⟨k, hk, rfl, hall⟩ := hrel
    by_cases hlt : k < l.length
    · have hlt' : (k : Int) < (l.length : Int) := by omega
      obtain ⟨b, o, rfl, hb, hc⟩ := HA.out k hlt
      have hx := hc k hlt
      clear hc
      rcases hin : inB l[k] 0 20 with _ | _
      · have HN := Lib.hid (nums_no hlt hin n)
        have HI := Lib.hid hin
        clear hin hall
        generalize l[k] = x at hx HI
        go_wp2_with fail
        refine (inD_any _ _ _ _).mono ?_
        rintro e w' ⟨rfl, rfl⟩
        rw [HI.out]
        go_wp2
        go_ret
        exact ⟨ret_boo (by rw [← RES.out, HN.out]), rfl⟩
      · have STEP := Lib.hid (all_succ (p := fun x => inB x 0 20 = true) hlt hall hin)
        have HI := Lib.hid hin
        clear hin hall
        generalize l[k] = x at hx HI
        go_wp2_with fail
        refine (inD_any _ _ _ _).mono ?_
        rintro e w' ⟨rfl, rfl⟩
        rw [HI.out]
        go_wp2
        go_round
        case rel => exact ⟨k + 1, by omega, by go_num, STEP.out⟩
        case measure => simp [intOf]; omega
    · have hge : ¬ (k : Int) < (l.length : Int) := by omega
      have HY := Lib.hid (nums_yes (fun j hj => hall j hj (by omega)) n)
      clear hall
      go_wp2
      go_ret
      exact ⟨ret_boo (by rw [← RES.out, HY.out]; rfl), rfl⟩

set_option maxRecDepth 100000 in
set_option maxHeartbeats 1000000 in
theorem areAmounts_any (l : List Int) (n : Int) (v : Value) (w : World) (hr : Rd w v (l.map (.int .i64))) :
    Calls Tryz.prog 175 #[v, .int .i64 n] w fun e w' => e = .returned (.bool (numsB l n)) ∧ w = w' := by
  obtain ⟨hl, A, c, rfl, ha⟩ := rdI hr
  unfold maxLen at hl
  clear hr
  have HA := Lib.hid ha
  clear ha
  generalize hres : numsB l n = res
  have RES := Lib.hid hres
  clear hres
  go_enter Tryz.func175, Tryz.ntmps175
  go_wp2
  go_loop [9] (fun i => ∃ k : Nat, k ≤ l.length ∧ i = .int .i64 k ∧ ∀ j, (hj : j < l.length) → j < k → inB l[j] 0 20 = true) (fun i => l.length - (intOf i).toNat)
  case atStart => exact ⟨0, Nat.zero_le _, rfl, fun j _ h => absurd h (by omega)⟩
  case round =>
    obtain ⟨k, hk, rfl, hall⟩ := hrel
    by_cases hlt : k < l.length
    · have hlt' : (k : Int) < (l.length : Int) := by omega
      obtain ⟨b, o, rfl, hb, hc⟩ := HA.out k hlt
      have hx := hc k hlt
      clear hc
      have HN := Lib.hid (fun hin => nums_no hlt hin n)
      have STEP := Lib.hid (fun hin => all_succ (p := fun x => inB x 0 20 = true) hlt hall hin)
      clear hall
      generalize l[k] = x at hx HN STEP
      by_cases h0 : x < 0
      · go_wp2
        go_ret
        exact ⟨ret_boo (by rw [← RES.out, HN.out (by simp [inB]; omega)]), rfl⟩
      · by_cases h1 : 20 < x
        · go_wp2
          go_ret
          exact ⟨ret_boo (by rw [← RES.out, HN.out (by simp [inB]; omega)]), rfl⟩
        · go_wp2
          go_round
          case rel => exact ⟨k + 1, by omega, by go_num, STEP.out (by simp [inB]; omega)⟩
          case measure => simp [intOf]; omega
    · have hge : ¬ (k : Int) < (l.length : Int) := by omega
      have HY := Lib.hid (nums_yes (fun j hj => hall j hj (by omega)) n)
      clear hall
      go_wp2
      go_ret
      exact ⟨ret_boo (by rw [← RES.out, HY.out]; rfl), rfl⟩

/-- A valid mode, for r resources and s stocks. -/
def mokB (m : Md) (r s : Int) : Bool := inB m.du 1 12 && (numsB m.us r && numsB m.co s)

set_option maxRecDepth 100000 in
set_option maxHeartbeats 1000000 in
theorem specModeOk_any (m : Md) (r s : Int) (v : Value) (w : World) (hv : (trM m).rd w v) :
    Calls Tryz.prog 136 #[v, .int .i64 r, .int .i64 s] w fun e w' => e = .returned (.bool (mokB m r s)) ∧ Below w.heap.size w w' := by
  obtain ⟨U, cu, C, cc, rfl, r1, r2⟩ := rdM hv
  clear hv
  have R1 := Lib.hid (r1.below ((Below.refl _ _).alloc (Nat.le_refl _) (Obj.cells #[.int .i64 m.du, .slice U m.us.length cu, .slice C m.co.length cc] 149)) (Nat.le_refl _))
  have R2 := Lib.hid (r2.below ((Below.refl _ _).alloc (Nat.le_refl _) (Obj.cells #[.int .i64 m.du, .slice U m.us.length cu, .slice C m.co.length cc] 149)) (Nat.le_refl _))
  clear r1 r2
  generalize hres : mokB m r s = res
  have RES := Lib.hid hres
  clear hres
  go_enter Tryz.func136, Tryz.ntmps136
  go_wp2_with fail
  refine (inD_any _ _ _ _).mono ?_
  rintro e w' ⟨rfl, rfl⟩
  rcases h1 : inB m.du 1 12 with _ | _
  · have H1 := Lib.hid h1
    clear h1
    go_wp2
    go_ret
    exact ⟨ret_boo (by rw [← RES.out]; simp [mokB, H1.out]), (Below.refl _ _).alloc (Nat.le_refl _) _⟩
  · have H1 := Lib.hid h1
    clear h1
    go_wp2_with fail
    refine (specNums_any _ _ _ _ R1.out).mono ?_
    rintro e w' ⟨rfl, rfl⟩
    rcases h2 : numsB m.us r with _ | _
    · have H2 := Lib.hid h2
      clear h2
      go_wp2
      go_ret
      exact ⟨ret_boo (by rw [← RES.out]; simp [mokB, H2.out]), (Below.refl _ _).alloc (Nat.le_refl _) _⟩
    · have H2 := Lib.hid h2
      clear h2
      go_wp2_with fail
      refine (specNums_any _ _ _ _ R2.out).mono ?_
      rintro e w' ⟨rfl, rfl⟩
      go_wp2
      go_ret
      exact ⟨ret_boo (by rw [← RES.out]; simp [mokB, H1.out, H2.out]), (Below.refl _ _).alloc (Nat.le_refl _) _⟩

set_option maxRecDepth 100000 in
set_option maxHeartbeats 1000000 in
theorem implModeOk_any (m : Md) (r s : Int) (v : Value) (w : World) (hv : (trM m).rd w v) :
    Calls Tryz.prog 161 #[v, .int .i64 r, .int .i64 s] w fun e w' => e = .returned (.bool (mokB m r s)) ∧ Below w.heap.size w w' := by
  obtain ⟨U, cu, C, cc, rfl, r1, r2⟩ := rdM hv
  clear hv
  have R1 := Lib.hid (r1.below ((Below.refl _ _).alloc (Nat.le_refl _) (Obj.cells #[.int .i64 m.du, .slice U m.us.length cu, .slice C m.co.length cc] 149)) (Nat.le_refl _))
  have R2 := Lib.hid (r2.below ((Below.refl _ _).alloc (Nat.le_refl _) (Obj.cells #[.int .i64 m.du, .slice U m.us.length cu, .slice C m.co.length cc] 149)) (Nat.le_refl _))
  clear r1 r2
  generalize hres : mokB m r s = res
  have RES := Lib.hid hres
  clear hres
  go_enter Tryz.func161, Tryz.ntmps161
  go_wp2_with fail
  refine (isDur_any _ _).mono ?_
  rintro e w' ⟨rfl, rfl⟩
  rcases h1 : inB m.du 1 12 with _ | _
  · have H1 := Lib.hid h1
    clear h1
    go_wp2
    go_ret
    exact ⟨ret_boo (by rw [← RES.out]; simp [mokB, H1.out]), (Below.refl _ _).alloc (Nat.le_refl _) _⟩
  · have H1 := Lib.hid h1
    clear h1
    go_wp2_with fail
    refine (areAmounts_any _ _ _ _ R1.out).mono ?_
    rintro e w' ⟨rfl, rfl⟩
    rcases h2 : numsB m.us r with _ | _
    · have H2 := Lib.hid h2
      clear h2
      go_wp2
      go_ret
      exact ⟨ret_boo (by rw [← RES.out]; simp [mokB, H2.out]), (Below.refl _ _).alloc (Nat.le_refl _) _⟩
    · have H2 := Lib.hid h2
      clear h2
      go_wp2_with fail
      refine (areAmounts_any _ _ _ _ R2.out).mono ?_
      rintro e w' ⟨rfl, rfl⟩
      go_wp2
      go_ret
      exact ⟨ret_boo (by rw [← RES.out]; simp [mokB, H1.out, H2.out]), (Below.refl _ _).alloc (Nat.le_refl _) _⟩
end Go.Proofs.YtgbpomakomddjabGreatDoor
