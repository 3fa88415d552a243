/- DERIVED. CONTRACTS: spec.l03At, CapacityAt, l03Span, MinCapacity, TotalCapacity. -/
import Derived.Test.YtaglfdkeomjpdaaGreatStpA
import Derived.Test.YtaglfdkeomjpdaaGreatSum
namespace Go.Proofs.YtaglfdkeomjpdaaGreat
open Go.RowKit

theorem ret_num {k : IntKind} {a b : Int} (h : a = b) : Ending.returned (.int k a) = .returned (.int k b) := by rw [h]

set_option maxRecDepth 100000 in
set_option maxHeartbeats 1000000 in
theorem specAt_any (xs : List Pr) (t : Int) (v : Value) (w : World) (hr : RdP w v xs) :
    Calls Tryz.prog 70 #[v, .int .i64 t] w fun e w' => e = .returned (.int .i64 (atP xs t)) ∧ Below w.heap.size w w' := by
  have hl := hr.le
  obtain ⟨A, c, rfl, HR⟩ := rdPk hr
  clear hr
  have HA := Lib.hid HR
  clear HR
  go_enter Tryz.func70, Tryz.ntmps70
  go_wp2
  go_loopw [5, 10] (fun n i wr => ∃ k : Nat, k ≤ xs.length ∧ i = .int .i64 k ∧ n = .int .i64 (atP (xs.take k) t) ∧ Below w.heap.size w wr) (fun _ i _ => xs.length - (intOf i).toNat)
  case atStart => exact ⟨0, Nat.zero_le _, rfl, rfl, Below.refl _ _⟩
  case round =>
    obtain ⟨k, hk, rfl, rfl, hbel⟩ := hrel
    by_cases hlt : k < xs.length
    · have hlt' : (k : Int) < (xs.length : Int) := by omega
      obtain ⟨b, o, rfl, hb, hc⟩ := HA.out k hlt
      obtain ⟨cx0, cx1⟩ := hc k hlt
      replace cx0 := (hbel.cell (p := ⟨b, o + k * 2, none⟩) hb).trans cx0
      replace cx1 := (hbel.cell (p := ⟨b, o + k * 2 + 1, none⟩) hb).trans cx1
      have hs : atP (xs.take (k + 1)) t = if xs[k].1 ≤ t then xs[k].2 else atP (xs.take k) t := by
        rw [List.take_succ_eq_append_getElem hlt, atP_snoc]
      have HS := Lib.hid hs
      have HB := Lib.hid hbel
      clear hs hbel hc
      generalize xs[k].1 = x0 at cx0 HS
      generalize xs[k].2 = x1 at cx1 HS
      by_cases hle : x0 ≤ t
      · go_wp2
        go_roundw
        case rel => exact ⟨k + 1, by omega, by go_num, by rw [HS.out, if_pos hle], (HB.out.alloc HB.out.size _)⟩
        case measure => simp [intOf]; omega
      · go_wp2
        go_roundw
        case rel => exact ⟨k + 1, by omega, by go_num, by rw [HS.out, if_neg hle], (HB.out.alloc HB.out.size _)⟩
        case measure => simp [intOf]; omega
    · have hge : ¬ (k : Int) < (xs.length : Int) := by omega
      obtain rfl : k = xs.length := by omega
      go_wp2
      go_ret
      exact ⟨ret_num (by simp), hbel⟩

set_option maxRecDepth 100000 in
theorem span_any (xs : List Pr) (x y : Int) (v : Value) (w : World) (hr : RdP w v xs) :
    Calls Tryz.prog 105 #[v, .int .i64 x, .int .i64 y] w fun e w' => e = .returned (.bool (spanB xs x y)) ∧ Below w.heap.size w w' := by
  have HR := Lib.hid hr
  have HQ := Lib.hid (show spanB xs x y = (okP xs && inB x 0 60 && inB y 0 60) from rfl)
  clear hr
  go_enter Tryz.func105, Tryz.ntmps105
  go_wp2_with fail
  refine (specStepsOk_any xs _ _ HR.out).mono ?_
  rintro e w1 ⟨rfl, hb1⟩
  have HB := Lib.hid hb1
  clear hb1
  rcases hok : okP xs with _ | _
  · have HO := Lib.hid hok
    clear hok
    go_wp2
    go_ret
    exact ⟨ret_boolS (by rw [HQ.out, HO.out]; rfl), HB.out⟩
  · have HO := Lib.hid hok
    clear hok
    go_wp2_with fail
    refine (in_any _ _ _ _).mono ?_
    rintro e w2 ⟨rfl, rfl⟩
    rcases hin : inB x 0 60 with _ | _
    · have HI := Lib.hid hin
      clear hin
      go_wp2
      go_ret
      exact ⟨ret_boolS (by rw [HQ.out, HO.out, HI.out]; rfl), HB.out⟩
    · have HI := Lib.hid hin
      clear hin
      go_wp2_with fail
      refine (in_any _ _ _ _).mono ?_
      rintro e w2 ⟨rfl, rfl⟩
      go_wp2
      go_ret
      exact ⟨ret_boolS (by rw [HQ.out, HO.out, HI.out]; rfl), HB.out⟩

set_option maxRecDepth 100000 in
set_option maxHeartbeats 1000000 in
theorem specTotal_any (xs : List Pr) (x y : Int) (v : Value) (w : World) (hr : RdP w v xs) :
    Calls Tryz.prog 71 #[v, .int .i64 x, .int .i64 y] w fun e w' => e = .returned (.int .i64 (totalB xs x y)) ∧ Below w.heap.size w w' := by
  have HR := Lib.hid hr
  have HQ := Lib.hid (show totalB xs x y = if spanB xs x y then sumT xs x y else 0 from rfl)
  clear hr
  go_enter Tryz.func71, Tryz.ntmps71
  go_wp2_with fail
  refine (span_any xs x y _ _ HR.out).mono ?_
  rintro e w1 ⟨rfl, hb1⟩
  have HB := Lib.hid hb1
  clear hb1
  rcases hsp : spanB xs x y with _ | _
  · have HO := Lib.hid hsp
    clear hsp
    go_wp2
    go_ret
    exact ⟨ret_num (by rw [HQ.out, HO.out]; rfl), HB.out⟩
  · have HO := Lib.hid hsp
    obtain ⟨hok, ⟨hx0, hx1⟩, hy0, hy1⟩ := spanB_iff.1 hsp
    have HK := Lib.hid hok
    clear hsp hok
    go_wp2
    go_loopw [7, 8] (fun n i wr => ∃ k : Nat, k ≤ (y - x).toNat ∧ i = .int .i64 (x + k) ∧ n = .int .i64 (foldT (fun n c => n + c) (atP xs) 0 x k) ∧ Below w.heap.size w wr) (fun _ i _ => (y - intOf i).toNat)
    case atStart => exact ⟨0, Nat.zero_le _, by simp, rfl, HB.out⟩
    case round =>
      obtain ⟨k, hk, rfl, rfl, hbel⟩ := hrel
      by_cases hlt : x + k < y
      · obtain ⟨g0, g1⟩ := sumT_range HK.out x k
        obtain ⟨a0, a1⟩ := atP_range HK.out (x + k)
        have HS := Lib.hid (foldT_succ (fun n c => n + c) (atP xs) 0 x k)
        have HB2 := Lib.hid hbel
        clear hbel
        generalize foldT (fun n c => n + c) (atP xs) 0 x k = m at *
        go_wp2_with fail
        refine (specAt_any xs (x + k) _ _ (HR.out.below HB2.out (Nat.le_refl _))).mono ?_
        rintro e w3 ⟨rfl, hb3⟩
        have HB3 := Lib.hid hb3
        clear hb3
        generalize atP xs (x + k) = a at *
        go_wp2
        go_roundw
        case rel => exact ⟨k + 1, by omega, by go_num, by rw [HS.out], HB2.out.trans (HB3.out.mono HB2.out.size)⟩
        case measure => simp [intOf]; omega
      · obtain rfl : k = (y - x).toNat := by omega
        go_wp2
        go_ret
        exact ⟨ret_num (by rw [HQ.out, HO.out]; rfl), hbel⟩
end Go.Proofs.YtaglfdkeomjpdaaGreat
