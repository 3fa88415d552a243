/- DERIVED. CONTRACT: slices.Equal at ints. -/
import Derived.Test.YtgbpomakomddjabSets
import Derived.Test.YtgbpomakomddjabCore
import Derived.Test.YtgbpomakomddjabActA
namespace Go.Proofs.Ytgbpomakomddjab
open Go.RowKit

set_option maxRecDepth 100000 in
set_option maxHeartbeats 1000000 in
theorem slicesEqual_any (xs ys : List Int) (v u : Value) (w : World) (hr : Rd w v (xs.map (.int .i64))) (hu : Rd w u (ys.map (.int .i64))) :
    Calls Try.prog 32 #[v, u] w fun e w' => e = .returned (.bool (eqB xs ys)) ∧ Below w.heap.size w w' := by
  obtain ⟨hl, A, c, rfl, HR⟩ := rdI hr
  obtain ⟨hl2, B, c2, rfl, HR2⟩ := rdI hu
  unfold maxLen at hl hl2
  have HA := Lib.hid HR
  have HB := Lib.hid HR2
  clear hr HR hu HR2
  by_cases hne : xs.length = ys.length
  · go_enter Try.func32, Try.ntmps32
    go_wp2
    go_loopw [5, 13] (fun _ i wr => ∃ k : Nat, k ≤ xs.length ∧ i = .int .i64 k ∧ Below w.heap.size w wr ∧ ∀ j, (h : j < xs.length) → j < k → xs[j] = ys[j]'(hne ▸ h)) (fun _ i _ => xs.length - (intOf i).toNat)
    case atStart => exact ⟨0, Nat.zero_le _, rfl, Below.refl _ _, fun j _ h => absurd h (by omega)⟩
    case round =>
      obtain ⟨k, hk, rfl, hbel, hall⟩ := hrel
      by_cases hlt : k < xs.length
      · have hlt' : (k : Int) < (xs.length : Int) := by omega
        have hlt2 : k < ys.length := hne ▸ hlt
        have hlt2' : (k : Int) < (ys.length : Int) := by omega
        obtain ⟨b, o, rfl, hb, hc⟩ := HA.out k hlt
        obtain ⟨b2, o2, rfl, hb2, hc2⟩ := HB.out k hlt2
        have cx := (hbel.cell (p := ⟨b, o + k, none⟩) hb).trans (hc k hlt)
        have cy := (hbel.cell (p := ⟨b2, o2 + k, none⟩) hb2).trans (hc2 k hlt2)
        clear hc hc2
        by_cases he : xs[k] = ys[k]
        · have HN := Lib.hid (show ∀ j, (h : j < xs.length) → j < k + 1 → xs[j] = ys[j]'(hne ▸ h) from fun j hj hjk => by
            by_cases e : j = k
            · subst e; exact he
            · exact hall j hj (by omega))
          clear hall
          generalize xs[k] = x at cx he
          generalize ys[k] = y at cy he
          subst he
          go_wp2
          go_quiet (fail)
          go_wp2
          go_roundw
          case rel => exact ⟨k + 1, by omega, by go_num, below_drewN hbel _, HN.out⟩
          case measure => simp [intOf]; omega
        · have H := Lib.hid (eq_no hlt hlt2 he)
          clear hall
          generalize xs[k] = x at cx he
          generalize ys[k] = y at cy he
          have hb : (x == y) = false := by simpa using he
          go_wp2
          go_quiet (fail)
          go_wp2
          go_ret
          exact ⟨ret_b H.out, below_drewN hbel _⟩
      · have hge : ¬ (k : Int) < (xs.length : Int) := by omega
        have H := Lib.hid (show eqB xs ys = true from decide_eq_true (List.ext_getElem hne fun j h1 _ => hall j h1 (by omega)))
        clear hall
        go_wp2
        go_ret
        exact ⟨ret_b H.out, hbel⟩
  · have H := Lib.hid (show eqB xs ys = false from decide_eq_false (fun e => hne (by rw [e])))
    go_enter Try.func32, Try.ntmps32
    have hne' : ((xs.length : Int) != (ys.length : Int)) = true := by simp; omega
    clear hne
    go_wp2
    go_ret
    exact ⟨ret_b H.out, Below.refl _ _⟩

end Go.Proofs.Ytgbpomakomddjab
