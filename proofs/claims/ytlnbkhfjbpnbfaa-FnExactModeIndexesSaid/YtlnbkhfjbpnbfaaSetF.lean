/- DERIVED. CONTRACTS: spec.SetAdd, spec.SetUnion, spec.IntRange, impl.IntRange. -/
import Derived.Test.YtlnbkhfjbpnbfaaSetC
import Derived.Test.YtlnbkhfjbpnbfaaIn
namespace Go.Proofs.Ytlnbkhfjbpnbfaa
open Go.RowKit

def upB (n : Nat) : List Int := (List.range n).map fun (i : Nat) => (i : Int)
theorem upB_succ (k : Nat) : upB (k + 1) = upB k ++ [(k : Int)] := by simp [upB, List.range_succ]
theorem upB_len (k : Nat) : (upB k).length = k := by simp [upB]
def rangeB (n : Int) : List Int := if 0 ≤ n ∧ n ≤ 200 then upB n.toNat else []

set_option maxRecDepth 100000 in
set_option maxHeartbeats 2000000 in
theorem specRange_any (n : Int) (w : World) :
    Calls Try.prog 53 #[.int .i64 n] w fun e w' => ∃ v', e = .returned v' ∧ w'.ownsRow w.heap.size 3 1 v' (rangeB n).length ((rangeB n).map (.int .i64)) ∧ Below w.heap.size w w' := by
  by_cases hin : 0 ≤ n ∧ n ≤ 200
  · obtain ⟨m, rfl⟩ : ∃ m : Nat, n = m := ⟨n.toNat, by omega⟩
    have HB := Lib.hid (show rangeB (m : Int) = upB m by unfold rangeB; rw [if_pos hin]; rfl)
    have hm : m ≤ 200 := by omega
    have hown0 : (w.alloc (.cells #[] 3)).ownsRow w.heap.size 3 1 (.slice (some ⟨w.heap.size, 0, none⟩) 0 0) 0 [] := World.ownsRow_made w #[] 0 (Nat.le_refl _) (by decide) rfl
    have O0 := Lib.hid (And.intro hown0 ((Below.refl _ w).alloc (Nat.le_refl _) (.cells #[] 3)))
    have ht : (decide ((0 : Int) ≤ m) && decide ((m : Int) ≤ 200)) = true := by simp; omega
    clear hown0 hin
    go_enter Try.func53, Try.ntmps53
    go_wp2_with fail
    refine (l01In_any (m : Int) 0 200 _).mono ?_
    rintro e w1 ⟨rfl, rfl⟩
    rw [ht]
    clear ht
    go_wp2
    go_loopw [3, 4] (fun out i wr => ∃ k : Nat, k ≤ m ∧ i = .int .i64 k ∧ wr.ownsRow w.heap.size 3 1 out (upB k).length ((upB k).map (.int .i64)) ∧ Below w.heap.size w wr) (fun _ i _ => m - (intOf i).toNat)
    case atStart => exact ⟨0, Nat.zero_le _, rfl, O0.out.1, O0.out.2⟩
    case round =>
      obtain ⟨k, hk, rfl, hown, hbel⟩ := hrel
      by_cases hlt : k < m
      · have hlt' : (k : Int) < (m : Int) := by omega
        have HF := Lib.hid (upB_succ k)
        have hl := upB_len k
        generalize upB k = zs at hown HF hl
        go_wp2_with (first
          | (at_builtin; refine app_rd rfl (.tmp 14) (.tmp 16) 22 rfl rfl w.heap.size _ _ zs [(k : Int)] rfl rfl (by exact hown.alloc _) (by exact rd_new _ (k : Int) _) (nilOk_some _ _ _) (by simp; omega) (by have := hbel.size; simp; omega) ?_; intro v2 w2 hown2 hg2 _
             have S2 := Lib.hid (And.intro hown2 (step_below hbel hg2 hbel.size (own_mem hown)))
             rw [← HF.out] at S2
             clear hown2 hg2 hown hbel))
        go_roundw
        case rel => exact ⟨k + 1, by omega, by go_num, S2.out.1, S2.out.2⟩
        case measure => simp [intOf]; omega
      · have hge : ¬ (k : Int) < (m : Int) := by omega
        obtain rfl : k = m := by omega
        have R := Lib.hid (And.intro hown hbel)
        clear hown
        go_wp2
        go_ret
        exact ⟨_, rfl, by rw [HB.out]; exact R.out.1, R.out.2⟩
  · have HB := Lib.hid (show rangeB n = [] by unfold rangeB; rw [if_neg hin])
    have ht : (decide ((0 : Int) ≤ n) && decide (n ≤ 200)) = false := by
      rw [← Bool.not_eq_true, Bool.and_eq_true, decide_eq_true_iff, decide_eq_true_iff]; exact hin
    have B0 := Lib.hid ((Below.refl _ w).alloc (Nat.le_refl w.heap.size) (.cells #[] 3))
    go_enter Try.func53, Try.ntmps53
    go_wp2_with fail
    refine (l01In_any n 0 200 _).mono ?_
    rintro e w1 ⟨rfl, rfl⟩
    rw [ht]
    clear ht hin
    go_wp2
    go_ret
    exact ⟨_, rfl, by rw [HB.out]; exact World.ownsRow_nil _ _ _ _, B0.out⟩

def upI (i : Nat) : Value := .int .i64 i
theorem upI_all (m : Nat) : (List.range m).map upI = (upB m).map (.int .i64) := by simp [upB, upI]

set_option maxRecDepth 100000 in
set_option maxHeartbeats 2000000 in
theorem implRange_any (n : Int) (w : World) :
    Calls Try.prog 54 #[.int .i64 n] w fun e w' => ∃ v', e = .returned v' ∧ w'.ownsRow w.heap.size 3 1 v' (rangeB n).length ((rangeB n).map (.int .i64)) ∧ Below w.heap.size w w' := by
  obtain ⟨i0, hi, hz0, hz1, hz2⟩ := info_parts infoInt
  by_cases hin : 0 ≤ n ∧ n ≤ 200
  · obtain ⟨m, rfl⟩ : ∃ m : Nat, n = m := ⟨n.toNat, by omega⟩
    have HB := Lib.hid (show rangeB (m : Int) = upB m by unfold rangeB; rw [if_pos hin]; rfl)
    have hm : m ≤ 200 := by omega
    have h1 : ¬ ((m : Int) < 0) := by omega
    have h2 : ¬ ((m : Int) > 200) := by omega
    clear hin
    go_enter Try.func54, Try.ntmps54
    go_wp2_with (at_make; refine wpList_make_full _ rfl _ _ 22 rfl w.heap.size 3 i0 (.int .i64 0) 1 Try.underlying22 hi hz0 hz1 .i64 .i64 _ _ m rfl rfl rfl rfl (by rw [hz2]; omega) (by unfold maxLen; omega) (Nat.le_refl _) ?_; intro w1 hown1 hgrow1)
    have hbel1 : Below w.heap.size w w1 := (Below.refl _ _).grown hgrow1 (Nat.le_refl _) (by simp)
    have hml := own_len hown1
    generalize hms : (madeCells (Value.int .i64 0).cells (m * 1)).toList = ms at hown1 hml
    have HM := Lib.hid hml
    clear hml hms hgrow1
    go_loopw [15] (fun i wr => ∃ k : Nat, k ≤ m ∧ i = .int .i64 k ∧ wr.ownsRow w.heap.size 3 1 (.slice (some ⟨w.heap.size, 0, none⟩) m m) m (mix upI ms k) ∧ Below w.heap.size w wr) (fun i _ => m - (intOf i).toNat)
    case atStart => exact ⟨0, Nat.zero_le _, rfl, by rw [mix_zero]; exact hown1, hbel1⟩
    case round =>
      obtain ⟨k, hk, rfl, how, hbel⟩ := hrel
      by_cases hlt : k < m
      · have hlt' : (k : Int) < (m : Int) := by omega
        have hgw : w.heap.size < wr.heap.size := (how.lt w.heap.size rfl).2
        have hc : wr.cell? ⟨w.heap.size, k, none⟩ = some ((mix upI ms k)[k]'(by rw [mix_len _ _ (by have := HM.out; omega)]; have := HM.out; omega)) := by
          rw [how.cellAt k (by omega)]; exact List.getElem?_eq_getElem _
        have hf : wr.frozen? ⟨w.heap.size, k, none⟩ = false := how.frozenAt k
        obtain ⟨hs1, _⟩ := how.stored k (upI k)
        rw [mix_set _ _ (by have := HM.out; omega)] at hs1
        have H1 := Lib.hid hs1
        have H2 := Lib.hid (hbel.setCell (p := ⟨w.heap.size, k, none⟩) (Nat.le_refl _) (upI k))
        clear hs1 how hbel
        generalize (mix upI ms k)[k]'_ = z at hc
        change Hid (World.ownsRow (World.setCell wr _ (.int .i64 (k : Int))) _ _ _ _ _ _) at H1
        change Hid (Below _ _ (World.setCell wr _ (.int .i64 (k : Int)))) at H2
        go_wp2
        go_roundw
        case rel => exact ⟨k + 1, by omega, by go_num, H1.out, H2.out⟩
        case measure => simp [intOf]; omega
      · have hge : ¬ (k : Int) < (m : Int) := by omega
        obtain rfl : k = m := by omega
        rw [mix_full _ _ HM.out, upI_all] at how
        have H1 := Lib.hid how
        clear how
        go_wp2
        go_ret
        exact ⟨_, rfl, by rw [HB.out, upB_len]; exact H1.out, hbel⟩
  · have HB := Lib.hid (show rangeB n = [] by unfold rangeB; rw [if_neg hin])
    by_cases h1 : n < 0
    · clear hin
      go_enter Try.func54, Try.ntmps54
      go_wp2
      go_ret
      exact ⟨_, rfl, by rw [HB.out]; exact World.ownsRow_nil _ _ _ _, Below.refl _ _⟩
    · have h2 : n > 200 := by omega
      clear hin
      go_enter Try.func54, Try.ntmps54
      go_wp2
      go_ret
      exact ⟨_, rfl, by rw [HB.out]; exact World.ownsRow_nil _ _ _ _, Below.refl _ _⟩
end Go.Proofs.Ytlnbkhfjbpnbfaa
