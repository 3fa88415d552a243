/- DERIVED. CONTRACTS: spec.FormatInt, impl.FormatInt. -/
import Derived.Test.YtlcmnmobfhajdabGreatDoorChecked
import Derived.Test.YtlcmnmobfhajdabGreatDoorCore
import Derived.Test.YtlcmnmobfhajdabGreatDoorDats
import Derived.Test.YtlcmnmobfhajdabGreatDoorTxtMaths
import Derived.Test.YtlcmnmobfhajdabGreatDoorShelf
import Derived.WalkKit
import Derived.Lib.Hide
import Derived.Lib.SmallJoins
import Derived.Lib.AppendIntMem
import Derived.Outline
namespace Go.Proofs.YtlcmnmobfhajdabGreatDoor
open Go.RowKit

/-- The library's table of the powers of ten holds what it holds behind start-up. -/
def TB (w : World) : Prop := Lib.TabIs Tryz.prog w "internal/strconv.uint64pow10" .u64 Lib.pow10Tab
theorem gPow : Tryz.prog.globalNamed "internal/strconv.uint64pow10" = some 0 := by kernel_rfl
theorem TB.below {w w' : World} {B : Nat} (h : TB w) (hb : Below B w w') (hB : w.heap.size ≤ B) : TB w' := Joins.tab_stays gPow h hb hB

theorem itoa_any (n : Int) (w : World) (h0 : -9223372036854775808 ≤ n) (h1 : n ≤ 9223372036854775807) (ht : TB w) :
    Calls Tryz.prog 77 #[.int .i64 n] w fun e w' => e = .returned (.string ⟨(Lib.itoa n).toArray⟩) ∧ Below w.heap.size w w' :=
  (Tryz.strconv_Itoa n h0 h1 w ht).mono fun e w' ⟨he, k, os, hw⟩ => ⟨he, by rw [hw]; exact Lib.below_grow _ w (Nat.le_refl _) k os⟩

set_option maxHeartbeats 400000 in
theorem implFmt_any (n : Int) (w : World) (h0 : -9223372036854775808 ≤ n) (h1 : n ≤ 9223372036854775807) (ht : TB w) :
    Calls Tryz.prog 31 #[.int .i64 n] w fun e w' => e = .returned (.string (fmtB n)) ∧ Below w.heap.size w w' := by
  have HT := Lib.hid ht
  clear ht
  by_cases ha : n < -100000
  · have HF := Lib.hid (fmtB_out (n := n) (.inl ha))
    go_enter Tryz.func31, Tryz.ntmps31
    go_wp2
    go_ret
    exact ⟨by rw [HF.out]; rfl, Below.refl _ _⟩
  by_cases hb : (100000 : Int) < n
  · have HF := Lib.hid (fmtB_out (n := n) (.inr hb))
    go_enter Tryz.func31, Tryz.ntmps31
    go_wp2
    go_ret
    exact ⟨by rw [HF.out]; rfl, Below.refl _ _⟩
  have HF := Lib.hid (fmtB_in (n := n) (by omega) (by omega))
  go_enter Tryz.func31, Tryz.ntmps31
  go_wp2_with (go_at_call 77; refine (itoa_any _ _ h0 h1 HT.out).mono ?_; rintro e w' ⟨rfl, hbel⟩)
  go_ret
  exact ⟨by rw [HF.out]; rfl, hbel⟩

theorem l01In_yes (n lo hi : Int) (w : World) (h1 : lo ≤ n) (h2 : n ≤ hi) :
    Calls Tryz.prog 57 #[.int .i64 n, .int .i64 lo, .int .i64 hi] w fun e w' => e = .returned (.bool true) ∧ w = w' :=
  (l01In_any n lo hi w).mono fun e w' ⟨he, hw⟩ => ⟨by rw [he]; simp [h1, h2], hw⟩
theorem l01In_no (n lo hi : Int) (w : World) (h : n < lo ∨ hi < n) :
    Calls Tryz.prog 57 #[.int .i64 n, .int .i64 lo, .int .i64 hi] w fun e w' => e = .returned (.bool false) ∧ w = w' :=
  (l01In_any n lo hi w).mono fun e w' ⟨he, hw⟩ => ⟨by rw [he]; simp; omega, hw⟩

set_option maxRecDepth 100000 in
set_option maxHeartbeats 1000000 in
theorem specFmt_pos (n : Int) (w : World) (h0 : 0 ≤ n) (h1 : n ≤ 100000) :
    Calls Tryz.prog 19 #[.int .i64 n] w fun e w' => e = .returned (.string (fmtB n)) ∧ Below w.heap.size w w' := by
  obtain ⟨m, rfl⟩ := Int.eq_ofNat_of_zero_le h0
  have HF := Lib.hid (fmtB_pos (k := m) (by omega))
  have hneg : ¬ (m : Int) < 0 := by omega
  go_enter Tryz.func19, Tryz.ntmps19
  go_wp2_with (go_at_call 57; refine (l01In_yes _ _ _ _ (by omega) (by omega)).mono ?_; rintro e w' ⟨rfl, rfl⟩)
  go_loopw [0, 3] (fun i s wr => ∃ (k : Nat) (acc : ByteArray), k ≤ m ∧ i = .int .i64 k ∧ s = .string acc ∧ Below w.heap.size w wr ∧ dc k ++ acc = dc m ∧ acc.size + k ≤ m) (fun i _ _ => (intOf i).toNat)
  case atStart => exact ⟨m, ⟨#[]⟩, Nat.le_refl _, rfl, rfl, Below.refl _ _, app_empty _, by show 0 + m ≤ m; omega⟩
  case round =>
    obtain ⟨k, acc, hkm, rfl, rfl, hb, hgo, hsz⟩ := hrel
    by_cases hz : 9 < k
    · have hz' : (9 : Int) < k := by omega
      have hcv : (convert 102 9 (.slice (some ⟨wr.heap.size, 0, none⟩) 1 1)).run Tryz.prog (wr.alloc (.cells #[.int .u8 (48 + (k : Int) % 10)] 5)) = .ok (.string (dg1 ((k : Int) % 10))) (wr.alloc (.cells #[.int .u8 (48 + (k : Int) % 10)] 5)) :=
        run_convert_bytes_arg _ 102 5 Tryz.underlying102 Tryz.underlying5 wr.heap.size 0 1 1 [48 + (k : Int) % 10] rfl (fun i hi => by
          obtain rfl : i = 0 := by omega
          rw [World.cell?_alloc_at _ _ _ _ rfl]; rfl) 9 Tryz.underlying9
      have hnext : dc (k / 10) ++ (dg1 ((k : Int) % 10) ++ acc) = dc m := by rw [← hgo, dc_big hz acc]; rfl
      have hds : (dg1 ((k : Int) % 10)).size ≤ 1 := by rw [dg1_size]; exact Nat.le_refl _
      have HN := Lib.hid hnext
      clear hgo hnext
      generalize dg1 ((k : Int) % 10) = d at hcv hds HN
      have hsum' : d.size + acc.size ≤ 9223372036854775807 := by omega
      have HS : Hid ((d ++ acc).size + k / 10 ≤ m) := Lib.hid (by rw [ByteArray.size_append]; omega)
      clear hds
      go_wp2
      go_roundw
      case rel => exact ⟨k / 10, d ++ acc, by omega, by go_num, rfl, hb.alloc hb.size _, HN.out, HS.out⟩
      case measure => simp [intOf]; omega
    · have hz' : ¬ (9 : Int) < k := by omega
      have hcv : (convert 102 9 (.slice (some ⟨wr.heap.size, 0, none⟩) 1 1)).run Tryz.prog (wr.alloc (.cells #[.int .u8 (48 + (k : Int))] 5)) = .ok (.string (dg1 (k : Int))) (wr.alloc (.cells #[.int .u8 (48 + (k : Int))] 5)) :=
        run_convert_bytes_arg _ 102 5 Tryz.underlying102 Tryz.underlying5 wr.heap.size 0 1 1 [48 + (k : Int)] rfl (fun i hi => by
          obtain rfl : i = 0 := by omega
          rw [World.cell?_alloc_at _ _ _ _ rfl]; rfl) 9 Tryz.underlying9
      have hend : dg1 (k : Int) ++ acc = dc m := by rw [← hgo, dc_small (by omega)]
      have hds : (dg1 (k : Int)).size ≤ 1 := by rw [dg1_size]; exact Nat.le_refl _
      have HN := Lib.hid hend
      clear hgo hend
      generalize dg1 (k : Int) = d at hcv hds HN
      have hsum' : d.size + acc.size ≤ 9223372036854775807 := by omega
      clear hds
      go_wp2
      go_ret
      exact ⟨by rw [HF.out, ← HN.out]; rfl, hb.alloc hb.size _⟩

set_option maxRecDepth 100000 in
set_option maxHeartbeats 1000000 in
theorem specFmt_any (n : Int) (w : World) (h0 : -9223372036854775808 ≤ n) (h1 : n ≤ 9223372036854775807) :
    Calls Tryz.prog 19 #[.int .i64 n] w fun e w' => e = .returned (.string (fmtB n)) ∧ Below w.heap.size w w' := by
  by_cases hin : -100000 ≤ n ∧ n ≤ 100000
  · obtain ⟨ha, hb⟩ := hin
    by_cases hp : 0 ≤ n
    · exact specFmt_pos n w hp hb
    · obtain ⟨m, rfl⟩ : ∃ m : Nat, n = -(m : Int) := ⟨(-n).toNat, by omega⟩
      have HF : Hid (fmtB (-(m : Int)) = ⟨#[45]⟩ ++ fmtB m) := Lib.hid (by rw [fmtB_neg (by omega) (by omega), fmtB_pos (by omega)])
      have hneg : -(m : Int) < 0 := by omega
      have hsz := fmtB_size (m : Int)
      have hsz2 : 1 + (fmtB (m : Int)).size ≤ 9223372036854775807 := by omega
      generalize hf : fmtB (m : Int) = f at HF hsz hsz2
      have HE := Lib.hid hf
      clear hf
      go_enter Tryz.func19, Tryz.ntmps19
      go_wp2_with (first
        | (go_at_call 57; refine (l01In_yes _ _ _ _ (by omega) (by omega)).mono ?_; rintro e w' ⟨rfl, rfl⟩)
        | (go_at_call 19; refine (specFmt_pos _ _ (by omega) (by omega)).mono ?_; rintro e w1 ⟨rfl, hbel⟩; rw [HE.out]))
      go_ret
      exact ⟨by rw [HF.out]; rfl, hbel⟩
  · have hout : n < -100000 ∨ 100000 < n := by omega
    have HF := Lib.hid (fmtB_out hout)
    go_enter Tryz.func19, Tryz.ntmps19
    go_wp2_with (go_at_call 57; refine (l01In_no _ _ _ _ hout).mono ?_; rintro e w' ⟨rfl, rfl⟩)
    go_ret
    exact ⟨by rw [HF.out]; rfl, Below.refl _ _⟩
end Go.Proofs.YtlcmnmobfhajdabGreatDoor
