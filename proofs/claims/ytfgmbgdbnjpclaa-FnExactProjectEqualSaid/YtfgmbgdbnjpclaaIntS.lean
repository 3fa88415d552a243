/- DERIVED. CONTRACTS: eqIntS, markIntS, heldIntS, toIntS. -/
import Derived.Test.YtfgmbgdbnjpclaaChecked
import Derived.Test.YtfgmbgdbnjpclaaRd
import Derived.Test.YtfgmbgdbnjpclaaBase
import Derived.WalkKit
import Derived.Lib.Hide
import Derived.OwnWalk
import Derived.BigQuiet
import Derived.Deep.QuietTactic
import Derived.Outline
namespace Go.Proofs.Ytfgmbgdbnjpclaa
open Go.RowKit

theorem eqI_pre {xs ys : List Int} {k : Nat} (hl : xs.length = ys.length) (hk : ¬ k < xs.length) (h : ∀ j, (h1 : j < xs.length) → (h2 : j < ys.length) → j < k → xs[j] = ys[j]) : xs = ys :=
  List.ext_getElem hl fun j h1 h2 => h j h1 h2 (by omega)

set_option maxRecDepth 100000 in
set_option maxHeartbeats 1000000 in
theorem eqI_any (xs ys : List Int) (va vb : Value) (w : World) (ha : Rd w va (xs.map (.int .i64))) (hb : Rd w vb (ys.map (.int .i64))) :
    Calls Try.prog 30 #[va, vb] w fun e w' => e = .returned (.bool (decide (xs = ys))) ∧ ∃ n, w' = w.drewN n := by
  obtain ⟨hla, A, ca, rfl, ha⟩ := ha
  obtain ⟨hlb, B, cb, rfl, hb⟩ := hb
  simp only [List.length_map] at *
  unfold maxLen at hla hlb
  by_cases hne : xs.length = ys.length
  · rcases ha with ha | ⟨b1, o1, rfl, hb1, hc1⟩
    · have hx : xs = [] := by simpa using ha
      subst hx
      have hy : ys = [] := List.eq_nil_of_length_eq_zero hne.symm
      subst hy
      clear ha hb hne hla hlb
      go_enter Try.func30, Try.ntmps30
      go_wp2
      refine wp_loop_rounds 1 ?_
      rw [rounds_succ]
      go_wp2
      go_ret
      exact ⟨rfl, 0, rfl⟩
    · rcases hb with hb | ⟨b2, o2, rfl, hb2, hc2⟩
      · have hy : ys = [] := by simpa using hb
        subst hy
        have hx : xs = [] := List.eq_nil_of_length_eq_zero hne
        subst hx
        clear hb hne hla hlb hc1
        go_enter Try.func30, Try.ntmps30
        go_wp2
        refine wp_loop_rounds 1 ?_
        rw [rounds_succ]
        go_wp2
        go_ret
        exact ⟨rfl, 0, rfl⟩
      · have hne' : ((xs.length : Int) != (ys.length : Int)) = false := by simp; omega
        have HL := Lib.hid hne
        clear hne
        have HC1 := Lib.hid hc1
        have HC2 := Lib.hid hc2
        clear hc1 hc2
        go_enter Try.func30, Try.ntmps30
        go_wp2
        go_loopw [5] (fun i wr => ∃ k n : Nat, k ≤ xs.length ∧ i = .int .i64 k ∧ wr = w.drewN n ∧ ∀ j, (h1 : j < xs.length) → (h2 : j < ys.length) → j < k → xs[j] = ys[j]) (fun i _ => xs.length - (intOf i).toNat)
        case atStart => exact ⟨0, 0, Nat.zero_le _, rfl, rfl, fun j _ _ h => absurd h (by omega)⟩
        case round =>
          obtain ⟨k, n, hk, rfl, rfl, hall⟩ := hrel
          by_cases hlt : k < xs.length
          · have hlt' : (k : Int) < (xs.length : Int) := by omega
            have hlt2 : k < ys.length := by have := HL.out; omega
            have hlt2' : (k : Int) < (ys.length : Int) := by omega
            have cx : w.cell? ⟨b1, o1 + k, none⟩ = some (.int .i64 xs[k]) := by have := HC1.out k hlt; simpa using this
            have cy : w.cell? ⟨b2, o2 + k, none⟩ = some (.int .i64 ys[k]) := by have := HC2.out k hlt2; simpa using this
            by_cases he : xs[k] = ys[k]
            · have step : ∀ j, (h1 : j < xs.length) → (h2 : j < ys.length) → j < k + 1 → xs[j] = ys[j] := fun j h1 h2 h => by
                by_cases e : j = k
                · subst e; exact he
                · exact hall j h1 h2 (by omega)
              have STEP := Lib.hid step
              clear step hall
              rw [he] at cx
              clear he
              generalize ys[k] = y at cx cy
              go_wp2
              go_quiet (fail)
              go_wp2
              go_roundw
              case rel => exact ⟨k + 1, n + nq, by omega, by go_num, rfl, STEP.out⟩
              case measure => simp [intOf]; omega
            · have hfin : decide (xs = ys) = false := by
                rw [decide_eq_false_iff_not]; intro e; subst e; exact he rfl
              have HF := Lib.hid hfin
              have he' : (xs[k] == ys[k]) = false := by simpa using he
              clear hall hfin he
              generalize xs[k] = x at cx he'
              generalize ys[k] = y at cy he'
              go_wp2
              go_quiet (fail)
              go_wp2
              go_ret
              exact ⟨by rw [HF.out]; rfl, n + nq, by rw [World.drewN_drewN]⟩
          · have hge : ¬ (k : Int) < (xs.length : Int) := by omega
            have HF := Lib.hid (decide_eq_true (eqI_pre HL.out hlt hall))
            clear hall
            go_wp2
            go_ret
            exact ⟨by rw [HF.out]; rfl, _, rfl⟩
  · have HF : Hid (decide (xs = ys) = false) := Lib.hid (by rw [decide_eq_false_iff_not]; intro e; exact hne (by rw [e]))
    have hne' : ((xs.length : Int) != (ys.length : Int)) = true := by simp; omega
    clear hne ha hb
    go_enter Try.func30, Try.ntmps30
    go_wp2
    go_ret
    exact ⟨by rw [HF.out]; rfl, 0, rfl⟩

theorem infoInt : (Try.prog.info? 3).map (fun i => (i.zero, i.size, i.bytes)) = some (some (.int .i64 0), 1, 8) := by kernel_rfl

/-- From what the row tells of an argument to 'Rd'. -/
theorem isInts_rd {w : World} {a : Option Addr} {len cap : Nat} {zs : List Int} (h : IsInts w a len cap zs) : len ≤ zs.length ∧ Rd w (.slice a len cap) ((zs.take len).map (.int .i64)) := by
  rcases h with ⟨rfl, rfl, rfl, rfl⟩ | ⟨x, rfl, hl, hm, hz, hb, hc, _⟩
  · exact ⟨Nat.le_refl _, by simp, none, 0, by simp, .inl rfl⟩
  · have hlen : ((zs.take len).map (Value.int .i64)).length = len := by simp; omega
    refine ⟨by omega, by omega, some x, cap, by rw [hlen], ?_⟩
    by_cases h0 : len = 0
    · left; subst h0; simp
    · right
      have h1 := hc 0 (by omega)
      obtain ⟨b, o, spot⟩ := x
      have hspot : spot = none := by simpa [Addr.add] using World.cell?_spot h1
      subst hspot
      refine ⟨b, o, rfl, hb (by omega), fun j hj => ?_⟩
      have := hc j (by omega)
      rw [show ((⟨b, o, none⟩ : Addr).add j) = ⟨b, o + j, none⟩ from by unfold Addr.add; split <;> simp_all] at this
      rw [this]
      have hj' : j < zs.length := by omega
      simp [List.getD, List.getElem?_eq_getElem hj']

def mkI (k : Nat) (i : Nat) : Value := .int .i64 (k + i : Nat)
def marksI (k n : Nat) : List Value := (List.range n).map (mkI k)
theorem marksI_len (k n : Nat) : (marksI k n).length = n := by simp [marksI]

set_option maxRecDepth 100000 in
set_option maxHeartbeats 1000000 in
theorem markI_any (k n base : Nat) (v : Value) (xs : List Value) (w : World) (hown : w.ownsRow base 3 1 v n xs) (h0 : 0 < k) (hk : k + n ≤ 1000000000) :
    Calls Try.prog 32 #[v, .int .i64 k] w fun e w' => e = .returned (.int .i64 (k + n : Nat)) ∧ w'.ownsRow base 3 1 v n (marksI k n) ∧ w.grownBy w' v.ownBlock := by
  have hlen := own_len hown
  rcases hown.2 with ⟨rfl, rfl⟩ | ⟨g, cap, cur, rfl, hg, hh, hnc, hcm, hcs, htake⟩
  · have hx : xs = [] := List.eq_nil_of_length_eq_zero hlen
    subst hx
    go_enter Try.func32, Try.ntmps32
    go_wp2
    refine wp_loop_rounds 1 ?_
    rw [rounds_succ]
    go_wp2
    go_ret
    exact ⟨rfl, hown, World.grownBy.refl _ _⟩
  · have hlen' : (xs.length = n) := hlen
    have HL := Lib.hid hlen'
    clear hlen' hlen hh hcs htake
    go_enter Try.func32, Try.ntmps32
    go_wp2
    go_loopw [1, 5] (fun q i wr => ∃ j : Nat, j ≤ n ∧ i = .int .i64 j ∧ q = .int .i64 (k + j : Nat) ∧ wr.ownsRow base 3 1 (.slice (some ⟨g, 0, none⟩) n cap) n (mix (mkI k) xs j) ∧ w.grownBy wr (some g)) (fun _ i _ => n - (intOf i).toNat)
    case atStart => exact ⟨0, Nat.zero_le _, rfl, rfl, by rw [mix_zero]; exact hown, World.grownBy.refl _ _⟩
    case round =>
      obtain ⟨j, hj, rfl, rfl, how, hgr⟩ := hrel
      by_cases hlt : j < n
      · have hlt' : (j : Int) < (n : Int) := by omega
        have hgw : g < wr.heap.size := (how.lt g rfl).2
        have hc : wr.cell? ⟨g, j, none⟩ = some ((mix (mkI k) xs j)[j]'(by rw [mix_len _ _ (by have := HL.out; omega)]; have := HL.out; omega)) := by
          rw [how.cellAt j (by omega)]; exact List.getElem?_eq_getElem _
        have hf : wr.frozen? ⟨g, j, none⟩ = false := how.frozenAt j
        obtain ⟨hs1, hs2⟩ := how.stored j (mkI k j)
        rw [mix_set _ _ (by have := HL.out; omega)] at hs1
        have H1 := Lib.hid hs1
        have H2 := Lib.hid (grown_trans hgr hs2)
        clear hs1 hs2 how hgr
        generalize (mix (mkI k) xs j)[j]'_ = z at hc
        go_wp2
        go_roundw
        case rel => exact ⟨j + 1, by omega, by go_num, by go_num, H1.out, H2.out⟩
        case measure => simp [intOf]; omega
      · have hge : ¬ (j : Int) < (n : Int) := by omega
        obtain rfl : j = n := by omega
        rw [mix_full _ _ HL.out] at how
        have H1 := Lib.hid how
        have H2 := Lib.hid hgr
        clear how hgr
        go_wp2
        go_ret
        exact ⟨rfl, H1.out, H2.out⟩

set_option maxRecDepth 100000 in
set_option maxHeartbeats 1000000 in
theorem heldI_any (k n : Nat) (v : Value) (w : World) (hr : Rd w v (marksI k n)) (h0 : 0 < k) (hk : k + n ≤ 1000000000) :
    Calls Try.prog 33 #[v, .int .i64 k] w fun e w' => e = .returned (.int .i64 (k + n : Nat)) ∧ Below w.heap.size w w' := by
  obtain ⟨hla, A, ca, rfl, ha⟩ := hr
  rw [marksI_len] at *
  rcases ha with ha | ⟨b, o, rfl, hb, hc⟩
  · have hn : n = 0 := by have := marksI_len k n; rw [ha] at this; simpa using this.symm
    subst hn
    clear ha
    go_enter Try.func33, Try.ntmps33
    go_wp2
    refine wp_loop_rounds 1 ?_
    rw [rounds_succ]
    go_wp2
    go_ret
    exact ⟨rfl, Below.refl _ _⟩
  · have HC := Lib.hid hc
    clear hc
    go_enter Try.func33, Try.ntmps33
    go_wp2
    go_loopw [1, 5] (fun q i wr => ∃ j : Nat, j ≤ n ∧ i = .int .i64 j ∧ q = .int .i64 (k + j : Nat) ∧ Below w.heap.size w wr) (fun _ i _ => n - (intOf i).toNat)
    case atStart => exact ⟨0, Nat.zero_le _, rfl, rfl, Below.refl _ _⟩
    case round =>
      obtain ⟨j, hj, rfl, rfl, hbw⟩ := hrel
      by_cases hlt : j < n
      · have hlt' : (j : Int) < (n : Int) := by omega
        have hcell : wr.cell? ⟨b, o + j, none⟩ = some (.int .i64 (k + j : Nat)) := by
          rw [hbw.cell (p := ⟨b, o + j, none⟩) hb]
          have := HC.out j (by rw [marksI_len]; exact hlt)
          simpa [marksI, mkI] using this
        go_wp2
        go_roundw
        case rel => exact ⟨j + 1, by omega, by go_num, by go_num, hbw⟩
        case measure => simp [intOf]; omega
      · have hge : ¬ (j : Int) < (n : Int) := by omega
        obtain rfl : j = n := by omega
        go_wp2
        go_ret
        exact ⟨rfl, hbw⟩

def elI (xs : List Int) (i : Nat) : Value := .int .i64 (xs.getD i 0)
theorem elI_all (xs : List Int) : (List.range xs.length).map (elI xs) = xs.map (.int .i64) := by
  apply List.ext_getElem
  · simp
  · intro i h1 h2
    simp [elI] at h1 ⊢
    rw [List.getElem?_eq_getElem h1]; rfl

set_option maxRecDepth 100000 in
set_option maxHeartbeats 1000000 in
theorem toI_any (xs : List Int) (v : Value) (w : World) (hr : Rd w v (xs.map (.int .i64))) (hl : xs.length ≤ 1073741824) :
    Calls Try.prog 59 #[v] w fun e w' => ∃ v', e = .returned v' ∧ w'.ownsRow w.heap.size 3 1 v' xs.length (xs.map (.int .i64)) ∧ Below w.heap.size w w' := by
  obtain ⟨hla, A, ca, rfl, ha⟩ := hr
  simp only [List.length_map] at *
  unfold maxLen at hla
  obtain ⟨i0, hi, hz0, hz1, hz2⟩ := info_parts infoInt
  rcases ha with ha | ⟨b1, o1, rfl, hb1, hc1⟩
  · have hx : xs = [] := by simpa using ha
    subst hx
    clear ha
    go_enter Try.func59, Try.ntmps59
    go_wp2_with (at_make; refine wpList_make_full _ rfl _ _ 37 rfl w.heap.size 3 i0 (.int .i64 0) 1 Try.underlying37 hi hz0 hz1 .i64 .i64 _ _ 0 rfl rfl (by simp) (by simp) (by rw [hz2]; omega) (by unfold maxLen; omega) (Nat.le_refl _) ?_; intro w1 hown1 hgrow1)
    refine wp_loop_rounds 1 ?_
    rw [rounds_succ]
    go_wp2
    go_ret
    exact ⟨_, rfl, by have := own_len hown1; rw [List.eq_nil_of_length_eq_zero this] at hown1; exact hown1, (Below.refl _ _).grown hgrow1 (Nat.le_refl _) (by simp)⟩
  · have HC := Lib.hid hc1
    clear hc1
    go_enter Try.func59, Try.ntmps59
    go_wp2_with (at_make; refine wpList_make_full _ rfl _ _ 37 rfl w.heap.size 3 i0 (.int .i64 0) 1 Try.underlying37 hi hz0 hz1 .i64 .i64 _ _ xs.length rfl rfl rfl rfl (by rw [hz2]; omega) (by unfold maxLen; omega) (Nat.le_refl _) ?_; intro w1 hown1 hgrow1)
    have hbel1 : Below w.heap.size w w1 := (Below.refl _ _).grown hgrow1 (Nat.le_refl _) (by simp)
    have hm := own_len hown1
    generalize hms : (madeCells (Value.int .i64 0).cells (xs.length * 1)).toList = ms at hown1 hm
    have HM := Lib.hid hm
    clear hm hms hgrow1
    go_loopw [4] (fun i wr => ∃ k : Nat, k ≤ xs.length ∧ i = .int .i64 k ∧ wr.ownsRow w.heap.size 3 1 (.slice (some ⟨w.heap.size, 0, none⟩) xs.length xs.length) xs.length (mix (elI xs) ms k) ∧ Below w.heap.size w wr) (fun i _ => xs.length - (intOf i).toNat)
    case atStart => exact ⟨0, Nat.zero_le _, rfl, by rw [mix_zero]; exact hown1, hbel1⟩
    case round =>
      obtain ⟨k, hk, rfl, how, hbel⟩ := hrel
      by_cases hlt : k < xs.length
      · have hlt' : (k : Int) < (xs.length : Int) := by omega
        have cx : wr.cell? ⟨b1, o1 + k, none⟩ = some (elI xs k) := by
          rw [hbel.cell (p := ⟨b1, o1 + k, none⟩) hb1]
          have := HC.out k (by simpa using hlt)
          simp [elI, List.getD, List.getElem?_eq_getElem hlt]
          simpa using this
        have hgw : w.heap.size < wr.heap.size := (how.lt w.heap.size rfl).2
        have hc : wr.cell? ⟨w.heap.size, k, none⟩ = some ((mix (elI xs) ms k)[k]'(by rw [mix_len _ _ (by have := HM.out; omega)]; have := HM.out; omega)) := by
          rw [how.cellAt k (by omega)]; exact List.getElem?_eq_getElem _
        have hf : wr.frozen? ⟨w.heap.size, k, none⟩ = false := how.frozenAt k
        obtain ⟨hs1, _⟩ := how.stored k (elI xs k)
        rw [mix_set _ _ (by have := HM.out; omega)] at hs1
        have H1 := Lib.hid hs1
        have H2 := Lib.hid (hbel.setCell (p := ⟨w.heap.size, k, none⟩) (Nat.le_refl _) (elI xs k))
        clear hs1 how hbel
        generalize (mix (elI xs) ms k)[k]'_ = z at hc
        obtain ⟨u, hu⟩ : ∃ u, elI xs k = .int .i64 u := ⟨_, rfl⟩
        rw [hu] at cx H1 H2
        clear hu
        go_wp2
        go_roundw
        case rel => exact ⟨k + 1, by omega, by go_num, H1.out, H2.out⟩
        case measure => simp [intOf]; omega
      · have hge : ¬ (k : Int) < (xs.length : Int) := by omega
        obtain rfl : k = xs.length := by omega
        rw [mix_full _ _ HM.out, elI_all] at how
        have H1 := Lib.hid how
        clear how
        go_wp2
        go_ret
        exact ⟨_, rfl, H1.out, hbel⟩
end Go.Proofs.Ytfgmbgdbnjpclaa
