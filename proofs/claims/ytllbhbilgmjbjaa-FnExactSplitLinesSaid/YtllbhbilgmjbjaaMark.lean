/- DERIVED. CONTRACTS: markText. -/
import Derived.Test.YtllbhbilgmjbjaaChecked
import Derived.Test.YtllbhbilgmjbjaaRd
import Derived.WalkKit
import Derived.Lib.Hide
import Derived.Laws.BytesArg
import Derived.OwnWalk
import Derived.BigQuiet
import Derived.Deep.QuietTactic
import Derived.Outline
import Derived.Deep.RegionWith
namespace Go.Proofs.Ytllbhbilgmjbjaa
open Go.RowKit

def mtDig (k : Nat) : ByteArray := strOfNums [48 + (k : Int) % 10]
theorem mtDig_size (k : Nat) : (mtDig k).size = 1 := by simp [mtDig, strOfNums, ByteArray.size]
def mtGo : Nat → Nat → ByteArray → ByteArray
  | 0, _, acc => acc
  | f + 1, k, acc => if k = 0 then acc else mtGo f (k / 10) (mtDig k ++ acc)
/-- What markText answers at k > 0. -/
def mtxt (k : Nat) : ByteArray := ⟨#[109]⟩ ++ mtGo k k ByteArray.empty

set_option maxRecDepth 100000 in
set_option maxHeartbeats 1000000 in
theorem markText_any (k0 : Nat) (w : World) (h0 : 0 < k0) (hk : k0 ≤ 1000000000) :
    Calls Try.prog 25 #[.int .i64 k0] w fun e w' => e = .returned (.string (mtxt k0)) ∧ Below w.heap.size w w' := by
  have h0' : ¬ (k0 : Int) ≤ 0 := by omega
  go_enter Try.func25, Try.ntmps25
  go_wp2
  go_loopw [0, 3] (fun i s wr => ∃ (k f : Nat) (acc : ByteArray), k ≤ f ∧ f ≤ k0 ∧ i = .int .i64 k ∧ s = .string acc ∧ Below w.heap.size w wr ∧ mtGo f k acc = mtGo k0 k0 ByteArray.empty ∧ acc.size ≤ k0 - f) (fun i _ _ => (intOf i).toNat)
  case atStart => exact ⟨k0, k0, ByteArray.empty, Nat.le_refl _, Nat.le_refl _, rfl, rfl, Below.refl _ _, rfl, Nat.zero_le _⟩
  case round =>
    obtain ⟨k, f, acc, hkf, hf, rfl, rfl, hb, hgo, hsz⟩ := hrel
    by_cases hz : 0 < k
    · have hz' : (0 : Int) < k := by omega
      have hcv : (convert 38 9 (.slice (some ⟨wr.heap.size, 0, none⟩) 1 1)).run Try.prog (wr.alloc (.cells #[.int .u8 (48 + (k : Int) % 10)] 5)) = .ok (.string (mtDig k)) (wr.alloc (.cells #[.int .u8 (48 + (k : Int) % 10)] 5)) :=
        run_convert_bytes_arg _ 38 5 Try.underlying38 Try.underlying5 wr.heap.size 0 1 1 [48 + (k : Int) % 10] rfl (fun i hi => by
          obtain rfl : i = 0 := by omega
          rw [World.cell?_alloc_at _ _ _ _ rfl]; rfl) 9 Try.underlying9
      have hds := mtDig_size k
      obtain ⟨f', rfl⟩ : ∃ f', f = f' + 1 := ⟨f - 1, by omega⟩
      have hnext : mtGo f' (k / 10) (mtDig k ++ acc) = mtGo k0 k0 ByteArray.empty := by rw [← hgo, mtGo, if_neg (by omega)]
      have HN := Lib.hid hnext
      clear hgo hnext
      generalize mtDig k = d at hcv hds HN
      have hsum : d.size + acc.size ≤ k0 - f' := by omega
      have hsum' : d.size + acc.size ≤ 9223372036854775807 := by omega
      have HS := Lib.hid hsum
      clear hds
      go_wp2
      go_roundw
      case rel => exact ⟨k / 10, f', d ++ acc, by omega, by omega, by go_num, rfl, hb.alloc hb.size _, HN.out, by rw [ByteArray.size_append]; exact HS.out⟩
      case measure => simp [intOf]; omega
    · obtain rfl : k = 0 := by omega
      have hend : mtGo f 0 acc = acc := by cases f <;> simp [mtGo]
      have HN : Hid (mtxt k0 = ⟨#[109]⟩ ++ acc) := Lib.hid (by rw [mtxt, ← hgo, hend])
      have hsum' : 1 + acc.size ≤ 9223372036854775807 := by omega
      clear hgo hend
      go_wp2
      go_ret
      exact ⟨by rw [HN.out]; rfl, hb⟩

def mkS (k : Nat) (i : Nat) : Value := .string (mtxt (k + i))
def marksS (k n : Nat) : List Value := (List.range n).map (mkS k)
theorem marksS_len (k n : Nat) : (marksS k n).length = n := by simp [marksS]

set_option maxRecDepth 100000 in
set_option maxHeartbeats 1000000 in
theorem markS_any (k n base : Nat) (v : Value) (xs : List Value) (w : World) (hown : w.ownsRow base 9 1 v n xs) (h0 : 0 < k) (hk : k + n ≤ 1000000000) :
    Calls Try.prog 12 #[v, .int .i64 k] w fun e w' => e = .returned (.int .i64 (k + n : Nat)) ∧ w'.ownsRow base 9 1 v n (marksS k n) ∧ w.grownBy w' v.ownBlock := by
  have hlen := own_len hown
  rcases hown.2 with ⟨rfl, rfl⟩ | ⟨g, cap, cur, rfl, hg, hh, hnc, hcm, hcs, htake⟩
  · have hx : xs = [] := List.eq_nil_of_length_eq_zero hlen
    subst hx
    go_enter Try.func12, Try.ntmps12
    go_wp2
    refine wp_loop_rounds 1 ?_
    rw [rounds_succ]
    go_wp2
    go_ret
    exact ⟨rfl, hown, World.grownBy.refl _ _⟩
  · have hlen' : (xs.length = n) := hlen
    have HL := Lib.hid hlen'
    clear hlen' hlen hh hcs htake
    go_enter Try.func12, Try.ntmps12
    go_wp2
    go_loopw [1, 5] (fun q i wr => ∃ j : Nat, j ≤ n ∧ i = .int .i64 j ∧ q = .int .i64 (k + j : Nat) ∧ wr.ownsRow base 9 1 (.slice (some ⟨g, 0, none⟩) n cap) n (mix (mkS k) xs j) ∧ w.grownBy wr (some g)) (fun _ i _ => n - (intOf i).toNat)
    case atStart => exact ⟨0, Nat.zero_le _, rfl, rfl, by rw [mix_zero]; exact hown, World.grownBy.refl _ _⟩
    case round =>
      obtain ⟨j, hj, rfl, rfl, how, hgr⟩ := hrel
      by_cases hlt : j < n
      · have hlt' : (j : Int) < (n : Int) := by omega
        have hgw : g < wr.heap.size := (how.lt g rfl).2
        go_wp2_with fail
        refine (markText_any (k + j) _ (by omega) (by omega)).mono ?_
        rintro e w1 ⟨rfl, hb⟩
        have how1 := own_below how hb (Nat.le_refl _)
        have hgr1 : wr.grownBy w1 (some g) := ⟨hb.os, hb.tape, hb.output, hb.size, fun i hi _ => hb.block i hi⟩
        have hc : w1.cell? ⟨g, j, none⟩ = some ((mix (mkS k) xs j)[j]'(by rw [mix_len _ _ (by have := HL.out; omega)]; have := HL.out; omega)) := by
          rw [how1.cellAt j (by omega)]; exact List.getElem?_eq_getElem _
        have hf : w1.frozen? ⟨g, j, none⟩ = false := how1.frozenAt j
        obtain ⟨hs1, hs2⟩ := how1.stored j (mkS k j)
        rw [mix_set _ _ (by have := HL.out; omega)] at hs1
        have H1 := Lib.hid hs1
        have H2 := Lib.hid (grown_trans (grown_trans hgr hgr1) hs2)
        clear hs1 hs2 how1 hgr1 how hgr hb
        generalize (mix (mkS k) xs j)[j]'_ = z at hc
        go_wp2
        go_roundw
        case rel => exact ⟨j + 1, by omega, by go_num, by go_num, H1.out, H2.out⟩
        case measure => simp [intOf]; omega
      · have hge : ¬ (j : Int) < (n : Int) := by omega
        obtain rfl : j = n := by omega
        rw [mix_full _ _ HL.out] at how
        have H1 := Lib.hid how
        have H2 := Lib.hid hgr
        clear how hgr
        go_wp2
        go_ret
        exact ⟨rfl, H1.out, H2.out⟩

set_option maxRecDepth 100000 in
set_option maxHeartbeats 1000000 in
theorem heldS_any (k n : Nat) (v : Value) (w : World) (hr : Rd w v (marksS k n)) (h0 : 0 < k) (hk : k + n ≤ 1000000000) :
    Calls Try.prog 13 #[v, .int .i64 k] w fun e w' => e = .returned (.int .i64 (k + n : Nat)) ∧ Below w.heap.size w w' := by
  obtain ⟨hla, A, ca, rfl, ha⟩ := hr
  rw [marksS_len] at *
  rcases ha with ha | ⟨b, o, rfl, hb, hc⟩
  · have hn : n = 0 := by have := marksS_len k n; rw [ha] at this; simpa using this.symm
    subst hn
    clear ha
    go_enter Try.func13, Try.ntmps13
    go_wp2
    refine wp_loop_rounds 1 ?_
    rw [rounds_succ]
    go_wp2
    go_ret
    exact ⟨rfl, Below.refl _ _⟩
  · have HC := Lib.hid hc
    clear hc
    go_enter Try.func13, Try.ntmps13
    go_wp2
    go_loopw [1, 5] (fun q i wr => ∃ j : Nat, j ≤ n ∧ i = .int .i64 j ∧ q = .int .i64 (k + j : Nat) ∧ Below w.heap.size w wr) (fun _ i _ => n - (intOf i).toNat)
    case atStart => exact ⟨0, Nat.zero_le _, rfl, rfl, Below.refl _ _⟩
    case round =>
      obtain ⟨j, hj, rfl, rfl, hbw⟩ := hrel
      by_cases hlt : j < n
      · have hlt' : (j : Int) < (n : Int) := by omega
        have hcell : wr.cell? ⟨b, o + j, none⟩ = some (.string (mtxt (k + j))) := by
          rw [hbw.cell (p := ⟨b, o + j, none⟩) hb]
          have := HC.out j (by rw [marksS_len]; exact hlt)
          simpa [marksS, mkS] using this
        go_wp2
        go_region_with (go_at_call 25; refine (markText_any (k + j) _ (by omega) (by omega)).mono ?_; rintro e w1 ⟨rfl, hb1⟩; have hcell1 := (hb1.cell (p := ⟨b, o + j, none⟩) (by have := hbw.size; show b < wr.heap.size; omega)).trans hcell)
        all_goals
          go_wp2
          go_roundw
          case rel => exact ⟨j + 1, by omega, by go_num, by go_num, hbw.drew.trans (hb1.mono hbw.size)⟩
          case measure => simp [intOf]; omega
      · have hge : ¬ (j : Int) < (n : Int) := by omega
        obtain rfl : j = n := by omega
        go_wp2
        go_ret
        exact ⟨rfl, hbw⟩
end Go.Proofs.Ytllbhbilgmjbjaa
