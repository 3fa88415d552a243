/- DERIVED. CONTRACTS: eqStringS. -/
import Derived.Test.YtllbhbilgmjbjaaChecked
import Derived.Test.YtllbhbilgmjbjaaRd
import Derived.WalkKit
import Derived.Lib.Hide
import Derived.BigQuiet
import Derived.Deep.QuietTactic
import Derived.Outline
namespace Go.Proofs.Ytllbhbilgmjbjaa
open Go.RowKit

theorem eqS_pre {xs ys : List ByteArray} {k : Nat} (hl : xs.length = ys.length) (hk : ¬ k < xs.length) (h : ∀ j, (h1 : j < xs.length) → (h2 : j < ys.length) → j < k → xs[j] = ys[j]) : xs = ys :=
  List.ext_getElem hl fun j h1 h2 => h j h1 h2 (by omega)

set_option maxRecDepth 100000 in
set_option maxHeartbeats 1000000 in
theorem eqS_any (xs ys : List ByteArray) (va vb : Value) (w : World) (ha : Rd w va (xs.map .string)) (hb : Rd w vb (ys.map .string)) :
    Calls Try.prog 11 #[va, vb] w fun e w' => e = .returned (.bool (decide (xs = ys))) ∧ ∃ n, w' = w.drewN n := by
  obtain ⟨hla, A, ca, rfl, ha⟩ := ha
  obtain ⟨hlb, B, cb, rfl, hb⟩ := hb
  simp only [List.length_map] at *
  unfold maxLen at hla hlb
  by_cases hne : xs.length = ys.length
  · rcases ha with ha | ⟨b1, o1, rfl, hb1, hc1⟩
    · have hx : xs = [] := by simpa using ha
      subst hx
      have hy : ys = [] := List.eq_nil_of_length_eq_zero hne.symm
      subst hy
      clear ha hb hne hla hlb
      go_enter Try.func11, Try.ntmps11
      go_wp2
      refine wp_loop_rounds 1 ?_
      rw [rounds_succ]
      go_wp2
      go_ret
      exact ⟨rfl, 0, rfl⟩
    · rcases hb with hb | ⟨b2, o2, rfl, hb2, hc2⟩
      · have hy : ys = [] := by simpa using hb
        subst hy
        have hx : xs = [] := List.eq_nil_of_length_eq_zero hne
        subst hx
        clear hb hne hla hlb hc1
        go_enter Try.func11, Try.ntmps11
        go_wp2
        refine wp_loop_rounds 1 ?_
        rw [rounds_succ]
        go_wp2
        go_ret
        exact ⟨rfl, 0, rfl⟩
      · have hne' : ((xs.length : Int) != (ys.length : Int)) = false := by simp; omega
        have HL := Lib.hid hne
        clear hne
        have HC1 := Lib.hid hc1
        have HC2 := Lib.hid hc2
        clear hc1 hc2
        go_enter Try.func11, Try.ntmps11
        go_wp2
        go_loopw [5] (fun i wr => ∃ k n : Nat, k ≤ xs.length ∧ i = .int .i64 k ∧ wr = w.drewN n ∧ ∀ j, (h1 : j < xs.length) → (h2 : j < ys.length) → j < k → xs[j] = ys[j]) (fun i _ => xs.length - (intOf i).toNat)
        case atStart => exact ⟨0, 0, Nat.zero_le _, rfl, rfl, fun j _ _ h => absurd h (by omega)⟩
        case round =>
          obtain ⟨k, n, hk, rfl, rfl, hall⟩ := hrel
          by_cases hlt : k < xs.length
          · have hlt' : (k : Int) < (xs.length : Int) := by omega
            have hlt2 : k < ys.length := by have := HL.out; omega
            have hlt2' : (k : Int) < (ys.length : Int) := by omega
            have cx : w.cell? ⟨b1, o1 + k, none⟩ = some (.string xs[k]) := by have := HC1.out k hlt; simpa using this
            have cy : w.cell? ⟨b2, o2 + k, none⟩ = some (.string ys[k]) := by have := HC2.out k hlt2; simpa using this
            by_cases he : xs[k] = ys[k]
            · have step : ∀ j, (h1 : j < xs.length) → (h2 : j < ys.length) → j < k + 1 → xs[j] = ys[j] := fun j h1 h2 h => by
                by_cases e : j = k
                · subst e; exact he
                · exact hall j h1 h2 (by omega)
              have STEP := Lib.hid step
              clear step hall
              rw [he] at cx
              clear he
              generalize ys[k] = y at cx cy
              go_wp2
              go_quiet (fail)
              go_wp2
              go_roundw
              case rel => exact ⟨k + 1, n + nq, by omega, by go_num, rfl, STEP.out⟩
              case measure => simp [intOf]; omega
            · have hfin : decide (xs = ys) = false := by
                rw [decide_eq_false_iff_not]; intro e; subst e; exact he rfl
              have HF := Lib.hid hfin
              have he' := str_ne he
              clear hall hfin he
              generalize xs[k] = x at cx he'
              generalize ys[k] = y at cy he'
              go_wp2
              go_quiet (fail)
              go_wp2
              go_ret
              exact ⟨by rw [HF.out]; rfl, n + nq, by rw [World.drewN_drewN]⟩
          · have hge : ¬ (k : Int) < (xs.length : Int) := by omega
            have HF := Lib.hid (decide_eq_true (eqS_pre HL.out hlt hall))
            clear hall
            go_wp2
            go_ret
            exact ⟨by rw [HF.out]; rfl, _, rfl⟩
  · have HF : Hid (decide (xs = ys) = false) := Lib.hid (by rw [decide_eq_false_iff_not]; intro e; exact hne (by rw [e]))
    have hne' : ((xs.length : Int) != (ys.length : Int)) = true := by simp; omega
    clear hne ha hb
    go_enter Try.func11, Try.ntmps11
    go_wp2
    go_ret
    exact ⟨by rw [HF.out]; rfl, 0, rfl⟩
end Go.Proofs.Ytllbhbilgmjbjaa
