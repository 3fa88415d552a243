/- DERIVED. The walk of the law FnSteps, by contracts. -/
import Derived.Test.YthcbndbfgpeokaaDoorStpQ
import Derived.Test.YthcbndbfgpeokaaDoorStpZ
import Derived.Test.YthcbndbfgpeokaaDoorStpE
import Derived.Test.YthcbndbfgpeokaaDoorStpX
import Derived.Test.YthcbndbfgpeokaaDoorStpM
import Derived.Test.YthcbndbfgpeokaaDoorStpLaw
import Derived.Test.YthcbndbfgpeokaaDoorBts
import Derived.Test.YthcbndbfgpeokaaDoorSt
namespace Go.Proofs.YthcbndbfgpeokaaDoor
open Go.RowKit

theorem fmtSteps_size {xs : List Pr} (h : xs.length ≤ 8) : (fmtSteps xs).size ≤ 1000 := by
  unfold fmtSteps
  split
  · have h1 := jn_size (xs.map fmtStep) comma (xs.map fmtStep).length (Nat.le_refl _)
    have h2 := tot_le (xs.map fmtStep) (xs.map fmtStep).length
    have h3 := fmtSteps_tot xs
    have h4 : comma.size = 1 := rfl
    rw [h4] at h1
    simp only [List.length_map] at h1 h2
    unfold joinB
    simp only [List.length_map]
    omega
  · show 0 ≤ 1000; omega
theorem St.drop {w0 w : World} {r : ORow} {L : List ORow} (h : St w0 w (r :: L)) : St w0 w L := ⟨h.1, h.2.2.2⟩
theorem capB_range (xs : List Pr) (t : Int) : 0 ≤ capB xs t ∧ capB xs t ≤ 20 := by
  unfold capB
  split
  · rename_i h
    rw [Bool.and_eq_true] at h
    exact atP_range (okP_iff.1 h.1) t
  · omega
theorem totalB_range {xs : List Pr} {x y : Int} : 0 ≤ totalB xs x y ∧ totalB xs x y ≤ 1200 := by
  unfold totalB
  split
  · rename_i h
    obtain ⟨h1, h2, h3⟩ := spanB_iff.1 h
    have := sumT_range h1 x (y - x).toNat
    unfold sumT
    omega
  · omega

set_option maxRecDepth 100000 in
set_option maxHeartbeats 4000000 in
theorem walkFnSteps (c0 : Option Addr) (len0 cap0 : Nat) (zs0 : List Int) (w : World) (hz0 : IsBytes w c0 len0 cap0 zs0) (ht : TB w) :
    Calls Tryd.prog 3 #[.slice c0 len0 cap0] w fun e w' => e = .returned (.bool true) ∧ Below w.heap.size w w' := by
  have hlz0 := (isBytes_rd hz0).1
  have hr0 := (isBytes_rd hz0).2
  generalize hxs0 : zs0.take len0 = bs at hr0
  have hlen0 : bs.length = len0 := by rw [← hxs0]; simp; omega
  have hlm0 : bs.length ≤ maxLen := by simpa using hr0.1.1
  unfold maxLen at hlm0
  clear hz0 hxs0
  have HR := Lib.hid hr0
  have T0 := Lib.hid ht
  clear hr0 ht
  subst hlen0
  by_cases hbig0 : (1048576 : Int) < bs.length
  · go_enter Tryd.func3, Tryd.ntmps3
    go_wp2
    go_ret
    exact ⟨rfl, Below.refl _ _⟩
  have hl0 : bs.length ≤ 1048576 := by omega
  clear hbig0
  have S0 := Lib.hid (St.start w)
  go_enter Tryd.func3, Tryd.ntmps3
  go_wp2_with fail
  refine (makeSteps_any c0 _ bs _ (by exact S0.out.old HR.out.1) HR.out.2 hl0).mono ?_
  rintro e w1 ⟨vl, xs, rfl, hf, o, b⟩
  have S1 := Lib.hid (S0.out.new o b)
  have HOK := Lib.hid (hf.1.ok hf.2)
  have hl3 : xs.length ≤ 3 := hf.2
  clear S0 o b hf
  go_wp2_with fail
  refine (makeNum_small 9 (by omega) (by omega) c0 _ bs _ (by exact S1.out.old HR.out.1) HR.out.2 hl0).mono ?_
  rintro e w2 ⟨x, rfl, hx0, hx9, b⟩
  have S2 := Lib.hid (S1.out.go b)
  clear S1 b
  go_wp2_with fail
  refine (makeNum_small 5 (by omega) (by omega) c0 _ bs _ (by exact S2.out.old HR.out.1) HR.out.2 hl0).mono ?_
  rintro e w3 ⟨r, rfl, hr0, hr5, b⟩
  have S3 := Lib.hid (S2.out.go b)
  clear S2 b
  go_wp2_with fail
  obtain ⟨y, hy⟩ : ∃ y, x + 1 + r = y := ⟨_, rfl⟩
  rw [hy]
  have hxy : x < y := by omega
  have hy5 : y ≤ x + 5 := by omega
  clear hy hr0 hr5
  obtain ⟨_, e0, e20, e2, e3, e4, e5, e6, e7, e8⟩ := steps_law HOK.out hl3 hx0 hx9 hxy hy5
  have E2 := Lib.hid e2
  have E3 := Lib.hid e3
  have E4 := Lib.hid e4
  have E5 := Lib.hid e5
  have E6 := Lib.hid e6
  have E7 := Lib.hid e7
  have E8 := Lib.hid e8
  have E1 := Lib.hid (okP_iff.2 HOK.out)
  have E9 := Lib.hid (par_fmtSteps HOK.out)
  have lk := len_reducedB xs x y (leastB xs x y)
  have lk2 := len_reducedB xs x y (leastB xs x y + 1)
  have lm := len_mergeB xs
  have hfs := fmtSteps_size (xs := xs) (by omega)
  obtain ⟨t0, t1⟩ := totalB_range (xs := xs) (x := x) (y := y)
  obtain ⟨m0, m1⟩ := mul_range (a := leastB xs x y) (c := y - x) e0 (by omega) (by omega) (by omega)
  clear e2 e3 e4 e5 e6 e7 e8
  refine (implMin_any xs x y vl _ (own_rdP (by exact S3.out.own 0 rfl) (by unfold maxLen; omega))).mono ?_
  rintro e w4 ⟨rfl, b⟩
  have S4 := Lib.hid (S3.out.go b)
  clear S3 b
  generalize leastB xs x y = n at *
  go_wp2_with fail
  refine (implReduce_any xs x y n vl _ (own_rdP (by exact S4.out.own 0 rfl) (by unfold maxLen; omega))).mono ?_
  rintro e w5 ⟨vk, rfl, o, b⟩
  have S5 := Lib.hid (S4.out.new o b)
  clear S4 o b
  rw [E2.out]
  generalize reducedB xs x y n = ks at *
  go_wp2_with fail
  refine (implReduce_any xs x y (n + 1) vl _ (own_rdP (by exact S5.out.own 1 rfl) (by unfold maxLen; omega))).mono ?_
  rintro e w6 ⟨vq, rfl, o, b⟩
  have S6 := Lib.hid ((S5.out.new o b))
  clear S5 o b
  rw [E3.out]
  go_wp2_with fail
  refine (implFmtP_any xs vl _ (own_rdP (by exact S6.out.own 2 rfl) (by unfold maxLen; omega)) (by exact T0.out.below S6.out.1 (Nat.le_refl _))).mono ?_
  rintro e w7 ⟨rfl, b⟩
  have S7 := Lib.hid (S6.out.go b)
  clear S6 b
  go_wp2_with fail
  refine (implParP_any (fmtSteps xs) _ (by omega) (by exact T0.out.below S7.out.1 (Nat.le_refl _))).mono ?_
  rintro e w8 ⟨vs, rfl, o, b⟩
  rw [E9.out] at o ⊢
  have S8 := Lib.hid ((S7.out.new o b))
  clear S7 o b
  go_wp2_with fail
  refine (implStepsOk_any xs vl _ (own_rdP (by exact S8.out.own 3 rfl) (by unfold maxLen; omega))).mono ?_
  rintro e w9 ⟨rfl, b⟩
  have S9 := Lib.hid (S8.out.go b)
  clear S8 b
  rw [E1.out]
  go_wp2_with fail
  refine (implEqualP_any xs xs vs vl _ (own_rdP (by exact S9.out.own 0 rfl) (by unfold maxLen; omega)) (own_rdP (by exact S9.out.own 3 rfl) (by unfold maxLen; omega))).mono ?_
  rintro e w10 ⟨rfl, b⟩
  have S10 := Lib.hid (S9.out.go b)
  clear S9 b
  rw [decide_eq_true rfl]
  go_wp2_with fail
  refine (implStepsOk_any ks vk _ (own_rdP (by exact S10.out.own 2 rfl) (by unfold maxLen; omega))).mono ?_
  rintro e w11 ⟨rfl, b⟩
  have S11 := Lib.hid (S10.out.go b)
  clear S10 b
  rw [E4.out]
  go_wp2_with fail
  refine (implTotal_any ks x y vk _ (own_rdP (by exact S11.out.own 2 rfl) (by unfold maxLen; omega))).mono ?_
  rintro e w12 ⟨rfl, b⟩
  have S12 := Lib.hid (S11.out.go b)
  clear S11 b
  rw [E5.out]
  go_wp2_with fail
  refine (implTotal_any xs x y vl _ (own_rdP (by exact S12.out.own 3 rfl) (by unfold maxLen; omega))).mono ?_
  rintro e w13 ⟨rfl, b⟩
  have S13 := Lib.hid (S12.out.go b)
  clear S12 b
  go_wp2_with fail
  refine (implMin_any ks x y vk _ (own_rdP (by exact S13.out.own 2 rfl) (by unfold maxLen; omega))).mono ?_
  rintro e w14 ⟨rfl, b⟩
  have S14 := Lib.hid (S13.out.go b)
  clear S13 b
  rw [E6.out]
  go_wp2
  go_loopw [13] (fun i wr => ∃ k : Nat, k ≤ 30 ∧ i = .int .i64 k ∧ St w wr [⟨52, 2, vs, xs.length, cellsP xs⟩, ⟨52, 2, vq, (reducedB xs x y (n + 1)).length, cellsP (reducedB xs x y (n + 1))⟩, ⟨52, 2, vk, ks.length, cellsP ks⟩, ⟨52, 2, vl, xs.length, cellsP xs⟩]) (fun i _ => (30 - intOf i).toNat)
  case atStart => exact ⟨0, by omega, rfl, S14.out⟩
  case round =>
    obtain ⟨k, hk, rfl, hst⟩ := hrel
    have Q0 := Lib.hid hst
    clear hst
    by_cases hlt : k < 30
    · have hlt' : (k : Int) < 30 := by omega
      have e7 := E7.out k (by omega) (by omega)
      have E8k := Lib.hid (E8.out k (by omega) (by omega))
      obtain ⟨c0', c1'⟩ := capB_range xs k
      go_wp2_with fail
      refine (implCap_any xs k vl _ (own_rdP (by exact Q0.out.own 3 rfl) (by unfold maxLen; omega))).mono ?_
      rintro e q1 ⟨rfl, b⟩
      have Q1 := Lib.hid (Q0.out.go b)
      clear b
      by_cases h1 : x ≤ (k : Int)
      · have h1' : (k : Int) ≥ x := h1
        by_cases h2 : (k : Int) < y
        · rw [if_pos ⟨h1, h2⟩] at e7
          have E7k := Lib.hid e7
          clear e7
          go_wp2_with fail
          refine (implCap_any ks k vk _ (own_rdP (by exact Q1.out.own 2 rfl) (by unfold maxLen; omega))).mono ?_
          rintro e q2 ⟨rfl, b⟩
          have Q2 := Lib.hid (Q1.out.go b)
          clear b
          rw [E7k.out]
          go_wp2_with fail
          refine (implMerge_any xs vl _ (own_rdP (by exact Q2.out.own 3 rfl) (by unfold maxLen; omega)) (by omega)).mono ?_
          rintro e q3 ⟨vm, rfl, o, b⟩
          have Q3 := Lib.hid (Q2.out.new o b)
          clear o b
          go_wp2_with fail
          refine (implCap_any (mergeB xs) k vm _ (own_rdP (by exact Q3.out.own 0 rfl) (by unfold maxLen; omega))).mono ?_
          rintro e q4 ⟨rfl, b⟩
          have Q4 := Lib.hid (Q3.out.go b)
          clear b
          rw [E8k.out]
          go_wp2_with fail
          refine (implCap_any xs k vl _ (own_rdP (by exact Q4.out.own 4 rfl) (by unfold maxLen; omega))).mono ?_
          rintro e q5 ⟨rfl, b⟩
          have Q5 := Lib.hid (Q4.out.go b).drop
          clear b
          go_wp2
          go_roundw
          case rel => exact ⟨k + 1, by omega, by go_num, Q5.out⟩
          case measure => simp [intOf]; omega
        · rw [if_neg (fun h => h2 h.2)] at e7
          have E7k := Lib.hid e7
          clear e7
          go_wp2_with fail
          refine (implCap_any ks k vk _ (own_rdP (by exact Q1.out.own 2 rfl) (by unfold maxLen; omega))).mono ?_
          rintro e q2 ⟨rfl, b⟩
          have Q2 := Lib.hid (Q1.out.go b)
          clear b
          rw [E7k.out]
          go_wp2_with fail
          refine (implMerge_any xs vl _ (own_rdP (by exact Q2.out.own 3 rfl) (by unfold maxLen; omega)) (by omega)).mono ?_
          rintro e q3 ⟨vm, rfl, o, b⟩
          have Q3 := Lib.hid (Q2.out.new o b)
          clear o b
          go_wp2_with fail
          refine (implCap_any (mergeB xs) k vm _ (own_rdP (by exact Q3.out.own 0 rfl) (by unfold maxLen; omega))).mono ?_
          rintro e q4 ⟨rfl, b⟩
          have Q4 := Lib.hid (Q3.out.go b)
          clear b
          rw [E8k.out]
          go_wp2_with fail
          refine (implCap_any xs k vl _ (own_rdP (by exact Q4.out.own 4 rfl) (by unfold maxLen; omega))).mono ?_
          rintro e q5 ⟨rfl, b⟩
          have Q5 := Lib.hid (Q4.out.go b).drop
          clear b
          go_wp2
          go_roundw
          case rel => exact ⟨k + 1, by omega, by go_num, Q5.out⟩
          case measure => simp [intOf]; omega
      · have h1' : ¬ (k : Int) ≥ x := h1
        have h2 := True.intro
        · rw [if_neg (fun h => h1 h.1)] at e7
          have E7k := Lib.hid e7
          clear e7
          go_wp2_with fail
          refine (implCap_any ks k vk _ (own_rdP (by exact Q1.out.own 2 rfl) (by unfold maxLen; omega))).mono ?_
          rintro e q2 ⟨rfl, b⟩
          have Q2 := Lib.hid (Q1.out.go b)
          clear b
          rw [E7k.out]
          go_wp2_with fail
          refine (implMerge_any xs vl _ (own_rdP (by exact Q2.out.own 3 rfl) (by unfold maxLen; omega)) (by omega)).mono ?_
          rintro e q3 ⟨vm, rfl, o, b⟩
          have Q3 := Lib.hid (Q2.out.new o b)
          clear o b
          go_wp2_with fail
          refine (implCap_any (mergeB xs) k vm _ (own_rdP (by exact Q3.out.own 0 rfl) (by unfold maxLen; omega))).mono ?_
          rintro e q4 ⟨rfl, b⟩
          have Q4 := Lib.hid (Q3.out.go b)
          clear b
          rw [E8k.out]
          go_wp2_with fail
          refine (implCap_any xs k vl _ (own_rdP (by exact Q4.out.own 4 rfl) (by unfold maxLen; omega))).mono ?_
          rintro e q5 ⟨rfl, b⟩
          have Q5 := Lib.hid (Q4.out.go b).drop
          clear b
          go_wp2
          go_roundw
          case rel => exact ⟨k + 1, by omega, by go_num, Q5.out⟩
          case measure => simp [intOf]; omega
    · obtain rfl : k = 30 := by omega
      go_wp2
      go_ret
      exact ⟨rfl, Q0.out.1⟩
end Go.Proofs.YthcbndbfgpeokaaDoor
