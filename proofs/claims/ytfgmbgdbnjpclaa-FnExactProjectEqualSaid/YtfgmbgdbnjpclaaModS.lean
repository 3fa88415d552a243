/- DERIVED. CONTRACTS of the laws' helpers over modes and activities: sz. -/
import Derived.Test.YtfgmbgdbnjpclaaChecked
import Derived.Test.YtfgmbgdbnjpclaaMod
import Derived.WalkKit
import Derived.Lib.Hide
import Derived.OwnWalk
import Derived.BigQuiet
import Derived.Deep.RegionWith
import Derived.Deep.QuietTactic
import Derived.Outline
namespace Go.Proofs.Ytfgmbgdbnjpclaa
open Go.RowKit

theorem szI_any (a : Option Addr) (len cap : Nat) (left : Int) (w : World) (h1 : len ≤ 9223372036854775807) (h0 : 0 ≤ left) (h2 : left ≤ 1048576) :
    Calls Try.prog 55 #[.slice a len cap, .int .i64 left] w fun e w' => e = .returned (.int .i64 (if left < len then -1 else left - len)) ∧ w = w' := by
  by_cases h : left < len
  · have h' : left - len < 0 := by omega
    rw [if_pos h]
    go_enter Try.func55, Try.ntmps55
    go_wp2
    go_ret
    exact ⟨rfl, rfl⟩
  · have h' : ¬ left - len < 0 := by omega
    rw [if_neg h]
    go_enter Try.func55, Try.ntmps55
    go_wp2
    go_ret
    exact ⟨rfl, rfl⟩

theorem ret_numZ {a b : Int} (h : a = b) : Ending.returned (.int .i64 a) = .returned (.int .i64 b) := by rw [h]

set_option maxRecDepth 100000 in
theorem szM_any (d : Int) (U C : Option Addr) (n k cu cc : Nat) (left : Int) (w : World) (h1 : n ≤ 9223372036854775807) (h2 : k ≤ 9223372036854775807) (h0 : 0 ≤ left) (h3 : left ≤ 1048576) :
    Calls Try.prog 154 #[.agg #[.int .i64 d, .slice U n cu, .slice C k cc], .int .i64 left] w fun e w' => e = .returned (.int .i64 (if left < n + k then -1 else left - (n + k))) ∧ Below w.heap.size w w' := by
  generalize hres : (if left < n + k then -1 else left - (n + k)) = res
  have RES := Lib.hid hres
  clear hres
  go_enter Try.func154, Try.ntmps154
  go_wp2_with fail
  refine (szI_any _ _ _ _ _ h1 h0 h3).mono ?_
  rintro e wz ⟨rfl, hwz⟩
  subst hwz
  by_cases hn : left < (n : Int)
  · rw [if_pos hn]
    go_wp2
    go_ret
    exact ⟨ret_numZ (by rw [← RES.out, if_pos (by omega)]), (Below.refl _ _).alloc (Nat.le_refl _) _⟩
  · rw [if_neg hn]
    have g1 : 0 ≤ left - (n : Int) := by omega
    have g2 : left - (n : Int) ≤ 1048576 := by omega
    go_wp2_with fail
    refine (szI_any _ _ _ _ _ h2 g1 g2).mono ?_
    rintro e wz ⟨rfl, hwz⟩
    subst hwz
    by_cases hk : left - (n : Int) < (k : Int)
    · rw [if_pos hk]
      go_wp2
      go_ret
      exact ⟨ret_numZ (by rw [← RES.out, if_pos (by omega)]), (Below.refl _ _).alloc (Nat.le_refl _) _⟩
    · rw [if_neg hk]
      have g3 : 0 ≤ left - (n : Int) - (k : Int) := by omega
      go_wp2
      go_ret
      exact ⟨ret_numZ (by rw [← RES.out, if_neg (by omega)]; omega), (Below.refl _ _).alloc (Nat.le_refl _) _⟩

set_option maxRecDepth 100000 in
set_option maxHeartbeats 1000000 in
theorem szMs_any (ms : List Md) (v : Value) (left : Int) (w : World) (hr : (trMs ms).rd w v) (h0 : 0 ≤ left) (h3 : left ≤ 1048576) :
    Calls Try.prog 137 #[v, .int .i64 left] w fun e w' => e = .returned (.int .i64 (if left < ms.length + szMs ms then -1 else left - (ms.length + szMs ms))) ∧ Below w.heap.size w w' := by
  obtain ⟨hl, A, c, rfl, ga⟩ := rdMs hr
  clear hr
  have GA := Lib.hid ga
  clear ga
  generalize hres : (if left < ms.length + szMs ms then -1 else left - (ms.length + szMs ms)) = res
  have RES := Lib.hid hres
  clear hres
  by_cases hn : left < (ms.length : Int)
  · have hn' : left - (ms.length : Int) < 0 := by omega
    go_enter Try.func137, Try.ntmps137
    go_wp2
    go_ret
    exact ⟨ret_numZ (by rw [← RES.out, if_pos (by omega)]), Below.refl _ _⟩
  · have hn' : ¬ left - (ms.length : Int) < 0 := by omega
    have hn2 : (ms.length : Int) ≤ 1048576 := by omega
    go_enter Try.func137, Try.ntmps137
    go_wp2
    go_loopw [1, 5] (fun q i wr => ∃ k : Nat, k ≤ ms.length ∧ i = .int .i64 k ∧ q = .int .i64 (left - ms.length - szMs (ms.take k)) ∧ 0 ≤ left - ms.length - szMs (ms.take k) ∧ Below w.heap.size w wr) (fun _ i _ => ms.length - (intOf i).toNat)
    case atStart => exact ⟨0, Nat.zero_le _, rfl, by simp [szMs], by simp [szMs]; omega, Below.refl _ _⟩
    case round =>
      obtain ⟨k, hk, rfl, rfl, hq, hbel⟩ := hrel
      by_cases hlt : k < ms.length
      · have hlt' : (k : Int) < (ms.length : Int) := by omega
        obtain ⟨b, o, rfl, hb, hc⟩ := GA.out k hlt
        obtain ⟨U, cu, C, cc, hc0, hc1, hc2, r1, r2⟩ := hc k hlt
        obtain ⟨_, _, e1, hu⟩ := rdI_slice r1
        obtain ⟨_, _, e2, hv⟩ := rdI_slice r2
        clear e1 e2 r1 r2
        have hx0 := (hbel.cell (p := ⟨b, o + k * 3, none⟩) hb).trans hc0
        have hx1 := (hbel.cell (p := ⟨b, o + k * 3 + 1, none⟩) hb).trans hc1
        have hx2 := (hbel.cell (p := ⟨b, o + k * 3 + 2, none⟩) hb).trans hc2
        clear hc hc0 hc1 hc2
        have HT := Lib.hid (szMs_take hlt)
        have HLE := szMs_le ms (k + 1)
        have hsz : szM ms[k] = ms[k].us.length + ms[k].co.length := rfl
        have HSZ := Lib.hid hsz
        clear hsz
        generalize ms[k].du = d at hx0
        generalize ms[k].us.length = nu at hx1 hu HSZ
        generalize ms[k].co.length = nc at hx2 hv HSZ
        have HB := Lib.hid hbel
        clear hbel
        generalize hQ : left - (ms.length : Int) - (szMs (ms.take k) : Int) = Q at hq ⊢
        have HQ := Lib.hid hQ
        have hq2 : Q ≤ 1048576 := by omega
        clear hQ
        go_wp2_with fail
        refine (szM_any _ _ _ _ _ _ _ _ _ hu hv hq hq2).mono ?_
        rintro e w1 ⟨rfl, hb1⟩
        all_goals
          have HB1 := Lib.hid (HB.out.trans (hb1.mono HB.out.size))
          clear hb1
          by_cases hs : Q < (nu : Int) + (nc : Int)
          · rw [if_pos hs]
            go_wp2
            go_ret
            exact ⟨ret_numZ (by rw [← RES.out, if_pos (by have := HT.out; have := HSZ.out; have := HQ.out; omega)]), HB1.out⟩
          · rw [if_neg hs]
            have hs' : 0 ≤ Q - ((nu : Int) + (nc : Int)) := by omega
            go_wp2
            go_roundw
            case rel => exact ⟨k + 1, by omega, by go_num, by have := HT.out; have := HSZ.out; have := HQ.out; congr 1; omega, by have := HT.out; have := HSZ.out; have := HQ.out; omega, HB1.out⟩
            case measure => simp [intOf]; omega
      · have hge : ¬ (k : Int) < (ms.length : Int) := by omega
        obtain rfl : k = ms.length := by omega
        rw [List.take_length] at hq ⊢
        have HB := Lib.hid hbel
        clear hbel
        go_wp2
        go_ret
        exact ⟨ret_numZ (by rw [← RES.out, if_neg (by omega)]; omega), HB.out⟩

set_option maxRecDepth 100000 in
theorem szA_any (a : Ac) (A : Option Addr) (c : Nat) (left : Int) (w : World) (hs : a.nm.size ≤ 9223372036854775807) (hr : (trMs a.ms).rd w (.slice A a.ms.length c)) (h0 : 0 ≤ left) (h3 : left ≤ 1048576) :
    Calls Try.prog 104 #[.agg #[.string a.nm, .int .i64 a.fa, .slice A a.ms.length c], .int .i64 left] w fun e w' => e = .returned (.int .i64 (if left < a.nm.size + (a.ms.length + szMs a.ms) then -1 else left - (a.nm.size + (a.ms.length + szMs a.ms)))) ∧ Below w.heap.size w w' := by
  have HR := Lib.hid hr
  clear hr
  generalize hres : (if left < a.nm.size + (a.ms.length + szMs a.ms) then -1 else left - (a.nm.size + (a.ms.length + szMs a.ms))) = res
  have RES := Lib.hid hres
  clear hres
  by_cases hn : left < (a.nm.size : Int)
  · have hn' : left - (a.nm.size : Int) < 0 := by omega
    go_enter Try.func104, Try.ntmps104
    go_wp2
    go_ret
    exact ⟨ret_numZ (by rw [← RES.out, if_pos (by omega)]), (Below.refl _ _).alloc (Nat.le_refl _) _⟩
  · have hn' : ¬ left - (a.nm.size : Int) < 0 := by omega
    have g1 : 0 ≤ left - (a.nm.size : Int) := by omega
    have g2 : left - (a.nm.size : Int) ≤ 1048576 := by omega
    go_enter Try.func104, Try.ntmps104
    go_wp2_with fail
    refine (szMs_any a.ms _ _ _ (Tr.rd_below ((Below.refl _ _).alloc (Nat.le_refl _) _) (Nat.le_refl _) _ _ HR.out) g1 g2).mono ?_
    rintro e w1 ⟨rfl, hb⟩
    have HB := Lib.hid (((Below.refl _ _).alloc (Nat.le_refl _) _).trans (hb.mono (by simp)))
    clear hb
    by_cases hs : left - (a.nm.size : Int) < (a.ms.length : Int) + (szMs a.ms : Int)
    · rw [if_pos hs]
      go_wp2
      go_ret
      exact ⟨ret_numZ (by rw [← RES.out, if_pos (by omega)]), HB.out⟩
    · rw [if_neg hs]
      have g3 : 0 ≤ left - (a.nm.size : Int) - ((a.ms.length : Int) + (szMs a.ms : Int)) := by omega
      go_wp2
      go_ret
      exact ⟨ret_numZ (by rw [← RES.out, if_neg (by omega)]; omega), HB.out⟩
end Go.Proofs.Ytfgmbgdbnjpclaa
