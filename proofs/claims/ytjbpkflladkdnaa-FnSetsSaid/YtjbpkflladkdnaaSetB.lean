/- DERIVED. CONTRACTS: impl.SetOk. -/
import Derived.Test.YtjbpkflladkdnaaSetA
namespace Go.Proofs.Ytjbpkflladkdnaa
open Go.RowKit

set_option maxRecDepth 100000 in
set_option maxHeartbeats 1000000 in
theorem implAsc_any (xs : List Int) (v : Value) (w : World) (hr : Rd w v (xs.map (.int .i64))) :
    Calls Try.prog 49 #[v] w fun e w' => e = .returned (.bool (ascB xs)) ∧ Below w.heap.size w w' := by
  obtain ⟨hl, A, c, rfl, HR⟩ := rdI hr
  unfold maxLen at hl
  have HA := Lib.hid HR
  clear hr HR
  go_enter Try.func49, Try.ntmps49
  go_wp2
  go_loopw [3] (fun i wr => ∃ k : Nat, 1 ≤ k ∧ (k ≤ xs.length ∨ k = 1) ∧ i = .int .i64 k ∧ Below w.heap.size w wr ∧ ∀ j, (h : j < xs.length) → j < k → 0 < j → xs[j - 1] < xs[j]) (fun i _ => xs.length + 1 - (intOf i).toNat)
  case atStart => exact ⟨1, Nat.le_refl _, .inr rfl, rfl, Below.refl _ _, fun j _ h => by omega⟩
  case round =>
    obtain ⟨k, hpos, hk, rfl, hbel, hall⟩ := hrel
    by_cases hlt : k < xs.length
    · have hlt' : (k : Int) < (xs.length : Int) := by omega
      obtain ⟨b, o, rfl, hb, hc⟩ := HA.out k hlt
      obtain ⟨k1, hk1⟩ : ∃ k1, k1 = k - 1 := ⟨_, rfl⟩
      have hw : IntKind.i64.wrap ((k : Int) - 1) = (k1 : Int) := by rw [IntKind.wrap_i64]; omega
      have hltk : k1 < xs.length := by omega
      have hlt1 : (k1 : Int) < (xs.length : Int) := by omega
      have hge1 : 0 ≤ (k1 : Int) := by omega
      have cx := (hbel.cell (p := ⟨b, o + k1, none⟩) hb).trans (hc k1 hltk)
      have cy := (hbel.cell (p := ⟨b, o + k, none⟩) hb).trans (hc k hlt)
      clear hc
      by_cases he : xs[k] ≤ xs[k1]
      · have H := Lib.hid (ascB_badk hlt hpos hk1 he)
        clear hall hk1
        generalize xs[k1] = x at cx he
        generalize xs[k] = y at cy he
        have he' : x ≥ y := he
        go_wp2
        go_quiet (fail)
        go_wp2
        go_ret
        exact ⟨ret_b H.out, below_drewN hbel _⟩
      · have HN := Lib.hid (show ∀ j, (h : j < xs.length) → j < k + 1 → 0 < j → xs[j - 1] < xs[j] from fun j hj hjk h0 => by
          by_cases e : j = k
          · subst e; subst hk1; omega
          · exact hall j hj (by omega) h0)
        clear hall hk1
        generalize xs[k1] = x at cx he
        generalize xs[k] = y at cy he
        have he' : ¬ x ≥ y := he
        go_wp2
        go_quiet (fail)
        go_wp2
        go_roundw
        case rel => exact ⟨k + 1, by omega, by omega, by go_num, below_drewN hbel _, HN.out⟩
        case measure => simp [intOf]; omega
    · have hge : ¬ (k : Int) < (xs.length : Int) := by omega
      have H := Lib.hid (show ascB xs = true from ascB_iff.2 fun j hj h0 => hall j hj (by omega) h0)
      clear hall
      go_wp2
      go_ret
      exact ⟨ret_b H.out, hbel⟩

theorem implOk_any (xs : List Int) (v : Value) (w : World) (hr : Rd w v (xs.map (.int .i64))) :
    Calls Try.prog 20 #[v] w fun e w' => e = .returned (.bool (ascB xs)) ∧ Below w.heap.size w w' := by
  go_enter Try.func20, Try.ntmps20
  go_wp2_with fail
  refine (implAsc_any xs v _ hr).mono ?_
  rintro e w1 ⟨rfl, hb⟩
  go_wp2
  go_ret
  exact ⟨rfl, hb⟩

end Go.Proofs.Ytjbpkflladkdnaa
