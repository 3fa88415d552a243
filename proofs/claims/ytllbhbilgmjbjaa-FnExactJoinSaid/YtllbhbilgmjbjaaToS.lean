/- DERIVED. CONTRACTS: toStringS, szStringS. -/
import Derived.Test.YtllbhbilgmjbjaaChecked
import Derived.Test.YtllbhbilgmjbjaaRd
import Derived.Test.YtllbhbilgmjbjaaBase
import Derived.Test.YtllbhbilgmjbjaaTot
import Derived.WalkKit
import Derived.Lib.Hide
import Derived.OwnWalk
import Derived.BigQuiet
import Derived.Deep.QuietTactic
import Derived.Outline
namespace Go.Proofs.Ytllbhbilgmjbjaa
open Go.RowKit

theorem infoStr : (Try.prog.info? 9).map (fun i => (i.zero, i.size, i.bytes)) = some (some (.string ⟨#[]⟩), 1, 16) := by kernel_rfl

/-- From what the row tells of an argument to 'Rd'. -/
theorem isStrs_rd {w : World} {a : Option Addr} {len cap : Nat} {zs : List ByteArray} (h : IsStrs w a len cap zs) : len ≤ zs.length ∧ Rd w (.slice a len cap) ((zs.take len).map .string) := by
  rcases h with ⟨rfl, rfl, rfl, rfl⟩ | ⟨x, rfl, hl, hm, hz, hb, hc, _⟩
  · exact ⟨Nat.le_refl _, by simp, none, 0, by simp, .inl rfl⟩
  · have hlen : ((zs.take len).map Value.string).length = len := by simp; omega
    refine ⟨by omega, by omega, some x, cap, by rw [hlen], ?_⟩
    by_cases h0 : len = 0
    · left; subst h0; simp
    · right
      have h1 := hc 0 (by omega)
      obtain ⟨b, o, spot⟩ := x
      have hspot : spot = none := by simpa [Addr.add] using World.cell?_spot h1
      subst hspot
      refine ⟨b, o, rfl, hb (by omega), fun j hj => ?_⟩
      have := hc j (by omega)
      rw [show ((⟨b, o, none⟩ : Addr).add j) = ⟨b, o + j, none⟩ from by unfold Addr.add; split <;> simp_all] at this
      rw [this]
      have hj' : j < zs.length := by omega
      simp [List.getD, List.getElem?_eq_getElem hj']

/-- What szStringS answers. -/
def szV (xs : List ByteArray) (left : Nat) : Int := if xs.length + tot xs ≤ left then (left : Int) - xs.length - tot xs else -1
theorem szV_no {xs : List ByteArray} {left : Nat} (h : left < xs.length + tot xs) : szV xs left = -1 := by unfold szV; rw [if_neg (by omega)]
theorem szV_yes {xs : List ByteArray} {left : Nat} (h : xs.length + tot xs ≤ left) : szV xs left = (left : Int) - xs.length - tot xs := by unfold szV; rw [if_pos h]

set_option maxRecDepth 100000 in
set_option maxHeartbeats 1000000 in
theorem szS_any (xs : List ByteArray) (v : Value) (left : Nat) (w : World) (hr : Rd w v (xs.map .string)) (hl : left ≤ 1073741824) (hsz : ∀ x ∈ xs, x.size ≤ maxLen) :
    Calls Try.prog 14 #[v, .int .i64 left] w fun e w' => e = .returned (.int .i64 (szV xs left)) ∧ w = w' := by
  obtain ⟨hla, A, ca, rfl, ha⟩ := hr
  simp only [List.length_map] at *
  unfold maxLen at hla hsz
  by_cases hbig : left < xs.length
  · have HV := Lib.hid (szV_no (xs := xs) (left := left) (by omega))
    have hneg : (left : Int) - (xs.length : Int) < 0 := by omega
    clear ha
    go_enter Try.func14, Try.ntmps14
    go_wp2
    go_ret
    exact ⟨by rw [HV.out]; rfl, rfl⟩
  have hpos : ¬ (left : Int) - (xs.length : Int) < 0 := by omega
  rcases ha with ha | ⟨b1, o1, rfl, hb1, hc1⟩
  · have hx : xs = [] := by simpa using ha
    subst hx
    clear ha
    go_enter Try.func14, Try.ntmps14
    go_wp2
    refine wp_loop_rounds 1 ?_
    rw [rounds_succ]
    go_wp2
    go_ret
    exact ⟨by rw [szV_yes (by simp [tot])]; simp [tot], rfl⟩
  · have HC := Lib.hid hc1
    clear hc1
    go_enter Try.func14, Try.ntmps14
    go_wp2
    go_loop [1, 5] (fun r i => ∃ k : Nat, k ≤ xs.length ∧ i = .int .i64 k ∧ r = .int .i64 ((left : Int) - xs.length - tot (xs.take k)) ∧ xs.length + tot (xs.take k) ≤ left) (fun _ i => xs.length - (intOf i).toNat)
    case atStart => exact ⟨0, Nat.zero_le _, rfl, by simp [tot], by simp [tot]; omega⟩
    case round =>
      obtain ⟨k, hk, rfl, rfl, hfit⟩ := hrel
      by_cases hlt : k < xs.length
      · have hlt' : (k : Int) < (xs.length : Int) := by omega
        have cx : w.cell? ⟨b1, o1 + k, none⟩ = some (.string xs[k]) := by have := HC.out k (by simpa using hlt); simpa using this
        have ht := tot_take hlt
        have hle := tot_le xs (k + 1)
        have hxs := hsz xs[k] (List.getElem_mem hlt)
        by_cases hgo : xs.length + tot (xs.take (k + 1)) ≤ left
        · have HT := Lib.hid ht
          have hgo2 : ¬ (left : Int) - xs.length - tot (xs.take k) - xs[k].size < 0 := by omega
          have hgo3 : (xs[k].size : Int) ≤ left := by omega
          have HG := Lib.hid hgo
          clear ht hgo hle hsz
          generalize xs[k] = x at cx HT hgo2 hgo3 hxs
          go_wp2
          go_round
          case rel => exact ⟨k + 1, by omega, by go_num, by rw [HT.out]; go_num, HG.out⟩
          case measure => simp [intOf]; omega
        · have HV := Lib.hid (szV_no (xs := xs) (left := left) (by omega))
          have hgo2 : (left : Int) - xs.length - tot (xs.take k) - xs[k].size < 0 := by omega
          clear ht hgo hle hsz
          generalize xs[k] = x at cx hgo2 hxs
          go_wp2
          go_ret
          exact ⟨by rw [HV.out]; rfl, rfl⟩
      · have hge : ¬ (k : Int) < (xs.length : Int) := by omega
        have he : xs.take k = xs := List.take_of_length_le (by omega)
        rw [he] at hfit
        rw [he]
        have HV := Lib.hid (szV_yes hfit)
        clear he
        go_wp2
        go_ret
        exact ⟨by rw [HV.out]; rfl, rfl⟩

def elS (xs : List ByteArray) (i : Nat) : Value := .string (xs.getD i ⟨#[]⟩)
theorem elS_all (xs : List ByteArray) : (List.range xs.length).map (elS xs) = xs.map .string := by
  apply List.ext_getElem
  · simp
  · intro i h1 h2
    simp [elS] at h1 ⊢
    rw [List.getElem?_eq_getElem h1]; rfl

set_option maxRecDepth 100000 in
set_option maxHeartbeats 1000000 in
theorem toS_any (xs : List ByteArray) (v : Value) (w : World) (hr : Rd w v (xs.map .string)) (hl : xs.length ≤ 1073741824) :
    Calls Try.prog 16 #[v] w fun e w' => ∃ v', e = .returned v' ∧ w'.ownsRow w.heap.size 9 1 v' xs.length (xs.map .string) ∧ Below w.heap.size w w' := by
  obtain ⟨hla, A, ca, rfl, ha⟩ := hr
  simp only [List.length_map] at *
  unfold maxLen at hla
  obtain ⟨i0, hi, hz0, hz1, hz2⟩ := info_parts infoStr
  rcases ha with ha | ⟨b1, o1, rfl, hb1, hc1⟩
  · have hx : xs = [] := by simpa using ha
    subst hx
    clear ha
    go_enter Try.func16, Try.ntmps16
    go_wp2_with (at_make; refine wpList_make_full _ rfl _ _ 23 rfl w.heap.size 9 i0 (.string ⟨#[]⟩) 1 Try.underlying23 hi hz0 hz1 .i64 .i64 _ _ 0 rfl rfl (by simp) (by simp) (by rw [hz2]; omega) (by unfold maxLen; omega) (Nat.le_refl _) ?_; intro w1 hown1 hgrow1)
    refine wp_loop_rounds 1 ?_
    rw [rounds_succ]
    go_wp2
    go_ret
    exact ⟨_, rfl, by have := own_len hown1; rw [List.eq_nil_of_length_eq_zero this] at hown1; exact hown1, (Below.refl _ _).grown hgrow1 (Nat.le_refl _) (by simp)⟩
  · have HC := Lib.hid hc1
    clear hc1
    go_enter Try.func16, Try.ntmps16
    go_wp2_with (at_make; refine wpList_make_full _ rfl _ _ 23 rfl w.heap.size 9 i0 (.string ⟨#[]⟩) 1 Try.underlying23 hi hz0 hz1 .i64 .i64 _ _ xs.length rfl rfl rfl rfl (by rw [hz2]; omega) (by unfold maxLen; omega) (Nat.le_refl _) ?_; intro w1 hown1 hgrow1)
    have hbel1 : Below w.heap.size w w1 := (Below.refl _ _).grown hgrow1 (Nat.le_refl _) (by simp)
    have hm := own_len hown1
    generalize hms : (madeCells (Value.string ⟨#[]⟩).cells (xs.length * 1)).toList = ms at hown1 hm
    have HM := Lib.hid hm
    clear hm hms hgrow1
    go_loopw [4] (fun i wr => ∃ k : Nat, k ≤ xs.length ∧ i = .int .i64 k ∧ wr.ownsRow w.heap.size 9 1 (.slice (some ⟨w.heap.size, 0, none⟩) xs.length xs.length) xs.length (mix (elS xs) ms k) ∧ Below w.heap.size w wr) (fun i _ => xs.length - (intOf i).toNat)
    case atStart => exact ⟨0, Nat.zero_le _, rfl, by rw [mix_zero]; exact hown1, hbel1⟩
    case round =>
      obtain ⟨k, hk, rfl, how, hbel⟩ := hrel
      by_cases hlt : k < xs.length
      · have hlt' : (k : Int) < (xs.length : Int) := by omega
        have cx : wr.cell? ⟨b1, o1 + k, none⟩ = some (elS xs k) := by
          rw [hbel.cell (p := ⟨b1, o1 + k, none⟩) hb1]
          have := HC.out k (by simpa using hlt)
          simp [elS, List.getD, List.getElem?_eq_getElem hlt]
          simpa using this
        have hgw : w.heap.size < wr.heap.size := (how.lt w.heap.size rfl).2
        have hc : wr.cell? ⟨w.heap.size, k, none⟩ = some ((mix (elS xs) ms k)[k]'(by rw [mix_len _ _ (by have := HM.out; omega)]; have := HM.out; omega)) := by
          rw [how.cellAt k (by omega)]; exact List.getElem?_eq_getElem _
        have hf : wr.frozen? ⟨w.heap.size, k, none⟩ = false := how.frozenAt k
        obtain ⟨hs1, _⟩ := how.stored k (elS xs k)
        rw [mix_set _ _ (by have := HM.out; omega)] at hs1
        have H1 := Lib.hid hs1
        have H2 := Lib.hid (hbel.setCell (p := ⟨w.heap.size, k, none⟩) (Nat.le_refl _) (elS xs k))
        clear hs1 how hbel
        generalize (mix (elS xs) ms k)[k]'_ = z at hc
        obtain ⟨u, hu⟩ : ∃ u, elS xs k = .string u := ⟨_, rfl⟩
        rw [hu] at cx H1 H2
        clear hu
        go_wp2
        go_roundw
        case rel => exact ⟨k + 1, by omega, by go_num, H1.out, H2.out⟩
        case measure => simp [intOf]; omega
      · have hge : ¬ (k : Int) < (xs.length : Int) := by omega
        obtain rfl : k = xs.length := by omega
        rw [mix_full _ _ HM.out, elS_all] at how
        have H1 := Lib.hid how
        clear how
        go_wp2
        go_ret
        exact ⟨_, rfl, H1.out, hbel⟩
end Go.Proofs.Ytllbhbilgmjbjaa
