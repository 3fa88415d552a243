/- DERIVED. CONTRACTS: spec.Join, impl.joinAll, impl.Join. -/
import Derived.Test.YtgbpomakomddjabGreatDoorChecked
import Derived.Test.YtgbpomakomddjabGreatDoorCore
import Derived.Test.YtgbpomakomddjabGreatDoorTot
import Derived.Test.YtgbpomakomddjabGreatDoorBuild
import Derived.WalkKit
import Derived.Lib.Hide
import Derived.Lib.AppendStr
import Derived.Lib.UnsafeStr
import Derived.OwnWalk
import Derived.BigQuiet
import Derived.Deep.QuietTactic
import Derived.Outline
namespace Go.Proofs.YtgbpomakomddjabGreatDoor
open Go.RowKit

/-- The first k elements of xs joined by b. -/
def jn (xs : List ByteArray) (b : ByteArray) : Nat → ByteArray
  | 0 => ⟨#[]⟩
  | k + 1 => (if k = 0 then jn xs b k else jn xs b k ++ b) ++ xs.getD k ⟨#[]⟩
def joinB (xs : List ByteArray) (b : ByteArray) : ByteArray := jn xs b xs.length

theorem empty_append (x : ByteArray) : (⟨#[]⟩ : ByteArray) ++ x = x := by
  apply ByteArray.ext; simp [ByteArray.data_append]
theorem jn_one {xs : List ByteArray} {b : ByteArray} (h : 0 < xs.length) : jn xs b 1 = xs[0] := by
  simp [jn, List.getD, List.getElem?_eq_getElem h, empty_append]
theorem jn_succ {xs : List ByteArray} {b : ByteArray} {k : Nat} (h0 : 0 < k) (h : k < xs.length) : jn xs b (k + 1) = jn xs b k ++ b ++ xs[k] := by
  rw [jn, if_neg (by omega)]; simp [List.getD, List.getElem?_eq_getElem h]
theorem jn_size (xs : List ByteArray) (b : ByteArray) : ∀ k, k ≤ xs.length → (jn xs b k).size ≤ tot (xs.take k) + k * b.size
  | 0, _ => Nat.zero_le _
  | k + 1, hk => by
    have ih := jn_size xs b k (by omega)
    have ht := tot_take (xs := xs) (k := k) (by omega)
    rw [ht, Nat.add_mul, Nat.one_mul]
    by_cases h0 : k = 0
    · subst h0
      rw [jn_one (by omega)]; omega
    · rw [jn_succ (by omega) (by omega)]
      simp only [ByteArray.size_append]; omega
theorem jn_bound {xs : List ByteArray} {b : ByteArray} (ht : tot xs ≤ 1073741824) (hl : xs.length ≤ 1048576) (hb : b.size ≤ 1048576) {k : Nat} (hk : k ≤ xs.length) : (jn xs b k).size ≤ 1100585369600 := by
  have h1 := jn_size xs b k hk
  have h2 := tot_le xs k
  have h3 : k * b.size ≤ 1048576 * 1048576 := Nat.mul_le_mul (by omega) hb
  omega
theorem el_le {xs : List ByteArray} (ht : tot xs ≤ 1073741824) {k : Nat} (hk : k < xs.length) : xs[k].size ≤ 1073741824 := by
  have := tot_take hk
  have := tot_le xs (k + 1)
  omega

set_option maxRecDepth 100000 in
set_option maxHeartbeats 1000000 in
theorem specJoin_any (xs : List ByteArray) (b : ByteArray) (v : Value) (w : World) (hr : Rd w v (xs.map .string)) (ht : tot xs ≤ 1073741824) (hl : xs.length ≤ 1048576) (hb : b.size ≤ 1048576) :
    Calls Tryz.prog 24 #[v, .string b] w fun e w' => e = .returned (.string (joinB xs b)) ∧ w = w' := by
  obtain ⟨hla, A, ca, rfl, ha⟩ := hr
  simp only [List.length_map] at *
  unfold maxLen at hla
  rcases ha with ha | ⟨b1, o1, rfl, hb1, hc1⟩
  · have hx : xs = [] := by simpa using ha
    subst hx
    clear ha
    go_enter Tryz.func24, Tryz.ntmps24
    go_wp2
    refine wp_loop_rounds 1 ?_
    rw [rounds_succ]
    go_wp2
    go_ret
    exact ⟨rfl, rfl⟩
  · have HC := Lib.hid hc1
    have HB := Lib.hid (fun k => jn_bound (k := k) ht hl hb)
    have HE := Lib.hid (fun k => el_le (k := k) ht)
    clear hc1 ht
    go_enter Tryz.func24, Tryz.ntmps24
    go_wp2
    go_loop [5, 10] (fun s i => ∃ k : Nat, k ≤ xs.length ∧ i = .int .i64 k ∧ s = .string (jn xs b k)) (fun _ i => xs.length - (intOf i).toNat)
    case atStart => exact ⟨0, Nat.zero_le _, rfl, rfl⟩
    case round =>
      obtain ⟨k, hk, rfl, rfl⟩ := hrel
      by_cases hlt : k < xs.length
      · have hlt' : (k : Int) < (xs.length : Int) := by omega
        have cx : w.cell? ⟨b1, o1 + k, none⟩ = some (.string xs[k]) := by have := HC.out k (by simpa using hlt); simpa using this
        have hjb := HB.out k hk
        have hxb := HE.out k hlt
        by_cases h0 : k = 0
        · subst h0
          have HJ := Lib.hid (jn_one (b := b) hlt)
          have hj0 : jn xs b 0 = ⟨#[]⟩ := rfl
          rw [hj0]
          clear hjb hj0
          rw [Nat.add_zero] at cx
          generalize xs[0] = x at cx hxb HJ
          go_wp2
          go_round
          case rel => exact ⟨1, by omega, by go_num, by rw [HJ.out, empty_append]⟩
          case measure => simp [intOf]; omega
        · have hk0 : (0 : Int) < k := by omega
          have HJ := Lib.hid (jn_succ (b := b) (by omega : 0 < k) hlt)
          generalize xs[k] = x at cx hxb HJ
          generalize jn xs b k = j at hjb HJ
          have hs1 : j.size + b.size ≤ 9223372036854775807 := by omega
          have hs2 : j.size + b.size + x.size ≤ 9223372036854775807 := by omega
          go_wp2
          go_round
          case rel => exact ⟨k + 1, by omega, by go_num, by rw [HJ.out]⟩
          case measure => simp [intOf]; omega
      · have hge : ¬ (k : Int) < (xs.length : Int) := by omega
        obtain rfl : k = xs.length := by omega
        go_wp2
        go_ret
        exact ⟨rfl, rfl⟩

theorem strCells_bytes (s : ByteArray) : Lib.strCells s = Lib.byteCells s.data.toList := rfl
theorem byteCells_app (a b : ByteArray) : Lib.byteCells a.data.toList ++ Lib.strCells b = Lib.byteCells (a ++ b).data.toList := by
  simp [Lib.byteCells, Lib.strCells, ByteArray.data_append]

def AtB (B b : Nat) (s : ByteArray) (w : World) : Prop := Lib.IsBuilder 106 5 B b (Lib.byteCells s.data.toList) w

theorem writeStr_any (B b : Nat) (j s : ByteArray) (w : World) (h : AtB B b j w) (hlen : j.size + s.size ≤ 140737488355328) (hBw : B ≤ w.heap.size) :
    Calls Tryz.prog 62 #[.pointer (some ⟨b, 0, none⟩), .string s] w fun e w' => e = .returned (.tuple #[.int .i64 s.size, .nilIface]) ∧ AtB B b (j ++ s) w' ∧ Below B w w' :=
  (writeString_any B b _ s w h (by rw [Lib.byteCells_length]; exact hlen) hBw).mono fun e w' ⟨he, hb, hbel⟩ => ⟨he, by rw [byteCells_app] at hb; exact .inr hb, hbel⟩
theorem builderStr_any (B b : Nat) (j : ByteArray) (w : World) (h : AtB B b j w) (hBw : B ≤ w.heap.size) :
    Calls Tryz.prog 63 #[.pointer (some ⟨b, 0, none⟩)] w fun e w' => e = .returned (.string j) ∧ Below B w w' :=
  (Tryz.Builder_String_any B b j.data.toList w h hBw).mono fun e w' ⟨he, hbel⟩ => ⟨by rw [he], hbel⟩

set_option maxRecDepth 100000 in
set_option maxHeartbeats 1000000 in
theorem joinAll_any (xs : List ByteArray) (b : ByteArray) (v : Value) (w : World) (hr : Rd w v (xs.map .string)) (ht : tot xs ≤ 1073741824) (hl : xs.length ≤ 1048576) (hb : b.size ≤ 1048576) :
    Calls Tryz.prog 32 #[.string b, v] w fun e w' => e = .returned (.string (joinB xs b)) ∧ Below w.heap.size w w' := by
  obtain ⟨hla, A, ca, rfl, ha⟩ := hr
  simp only [List.length_map] at *
  unfold maxLen at hla
  have hfresh : AtB w.heap.size w.heap.size ⟨#[]⟩ (w.alloc (.cells #[.pointer none, .slice none 0 0] 106)) := Lib.fresh_isBuilder _ _ w
  have hbel0 : Below w.heap.size w (w.alloc (.cells #[.pointer none, .slice none 0 0] 106)) := (Below.refl _ _).alloc (Nat.le_refl _) _
  rcases ha with ha | ⟨b1, o1, rfl, hb1, hc1⟩
  · have hx : xs = [] := by simpa using ha
    subst hx
    clear ha
    go_enter Tryz.func32, Tryz.ntmps32
    go_wp2
    refine wp_loop_rounds 1 ?_
    rw [rounds_succ]
    go_wp2_with fail
    refine (builderStr_any w.heap.size w.heap.size ⟨#[]⟩ _ hfresh (by simp)).mono ?_
    rintro e w1 ⟨rfl, hb1⟩
    go_wp2
    go_ret
    exact ⟨rfl, hbel0.trans hb1⟩
  · have HC := Lib.hid hc1
    have HB := Lib.hid (fun k => jn_bound (k := k) ht hl hb)
    have HE := Lib.hid (fun k => el_le (k := k) ht)
    have HF := Lib.hid hfresh
    clear hc1 ht hfresh
    go_enter Tryz.func32, Tryz.ntmps32
    go_wp2
    go_loopw [10] (fun i wr => ∃ k : Nat, k ≤ xs.length ∧ i = .int .i64 k ∧ AtB w.heap.size w.heap.size (jn xs b k) wr ∧ Below w.heap.size w wr) (fun i _ => xs.length - (intOf i).toNat)
    case atStart => exact ⟨0, Nat.zero_le _, rfl, HF.out, hbel0⟩
    case round =>
      obtain ⟨k, hk, rfl, hat, hbel⟩ := hrel
      have HAT := Lib.hid hat
      clear hat
      by_cases hlt : k < xs.length
      · have hlt' : (k : Int) < (xs.length : Int) := by omega
        have cx : wr.cell? ⟨b1, o1 + k, none⟩ = some (.string xs[k]) := by rw [hbel.cell (p := ⟨b1, o1 + k, none⟩) hb1]; have := HC.out k (by simpa using hlt); simpa using this
        have hjb := HB.out k hk
        have hxb := HE.out k hlt
        by_cases h0 : k = 0
        · subst h0
          have HJ := Lib.hid (jn_one (b := b) hlt)
          rw [Nat.add_zero] at cx
          generalize xs[0] = x at cx hxb HJ
          go_wp2_with fail
          refine (writeStr_any w.heap.size w.heap.size ⟨#[]⟩ x _ (by exact HAT.out) (by show 0 + x.size ≤ _; omega) hbel.size).mono ?_
          rintro e w1 ⟨rfl, hat1, hbel1⟩
          have HAT1 := Lib.hid hat1
          clear hat1
          go_wp2
          go_roundw
          case rel => exact ⟨1, by omega, by go_num, by rw [HJ.out]; have := HAT1.out; rw [empty_append] at this; exact this, hbel.trans hbel1⟩
          case measure => simp [intOf]; omega
        · have hk0 : (0 : Int) < k := by omega
          have HJ := Lib.hid (jn_succ (b := b) (by omega : 0 < k) hlt)
          generalize xs[k] = x at cx hxb HJ
          generalize jn xs b k = j at hjb HJ HAT
          go_wp2_with fail
          refine (writeStr_any w.heap.size w.heap.size j b _ HAT.out (by omega) hbel.size).mono ?_
          rintro e w1 ⟨rfl, hat1, hbel1⟩
          have HAT1 := Lib.hid hat1
          clear hat1
          have hbel2 := hbel.trans hbel1
          go_wp2_with fail
          refine (writeStr_any w.heap.size w.heap.size (j ++ b) x _ HAT1.out (by rw [ByteArray.size_append]; omega) hbel2.size).mono ?_
          rintro e w2 ⟨rfl, hat2, hbel3⟩
          have HAT2 := Lib.hid hat2
          clear hat2
          go_wp2
          go_roundw
          case rel => exact ⟨k + 1, by omega, by go_num, by rw [HJ.out]; exact HAT2.out, hbel2.trans hbel3⟩
          case measure => simp [intOf]; omega
      · have hge : ¬ (k : Int) < (xs.length : Int) := by omega
        obtain rfl : k = xs.length := by omega
        go_wp2_with fail
        refine (builderStr_any w.heap.size w.heap.size (jn xs b xs.length) _ HAT.out hbel.size).mono ?_
        rintro e w1 ⟨rfl, hb1⟩
        go_wp2
        go_ret
        exact ⟨rfl, hbel.trans hb1⟩

end Go.Proofs.YtgbpomakomddjabGreatDoor
