/- DERIVED. CONTRACTS: spec.l03Low, spec.MergeSteps. -/
import Derived.Test.YthcbndbfgpeokaaStpC
namespace Go.Proofs.Ythcbndbfgpeokaa
open Go.RowKit

set_option maxRecDepth 100000 in
set_option maxHeartbeats 2000000 in
theorem specLow_any (xs : List Pr) (v : Value) (w : World) (hr : RdP w v xs) (hlen : xs.length ≤ 1073741823) :
    Calls Try.prog 37 #[v] w fun e w' => ∃ v', e = .returned v' ∧ w'.ownsRow w.heap.size 39 2 v' (lowP xs).length (cellsP (lowP xs)) ∧ Below w.heap.size w w' := by
  obtain ⟨A, c, rfl, HR⟩ := rdPk hr
  clear hr
  have HA := Lib.hid HR
  clear HR
  have O0 := Lib.hid (And.intro (madeP0 w) ((Below.refl _ w).alloc (Nat.le_refl _) (.cells #[] 39)))
  go_enter Try.func37, Try.ntmps37
  go_wp2
  go_loopw [3, 9] (fun out i wr => ∃ k : Nat, k ≤ xs.length ∧ i = .int .i64 k ∧ wr.ownsRow w.heap.size 39 2 out (lowP (xs.take k)).length (cellsP (lowP (xs.take k))) ∧ Below w.heap.size w wr) (fun _ i _ => xs.length - (intOf i).toNat)
  case atStart => exact ⟨0, Nat.zero_le _, rfl, O0.out.1, O0.out.2⟩
  case round =>
    obtain ⟨k, hk, rfl, hown, hbel⟩ := hrel
    by_cases hlt : k < xs.length
    · have hlt' : (k : Int) < (xs.length : Int) := by omega
      obtain ⟨b, o, rfl, hb, hc⟩ := HA.out k hlt
      have hbw : b < wr.heap.size := by have := hbel.size; omega
      obtain ⟨cx0, cx1⟩ := hc k hlt
      replace cx0 := (hbel.cell (p := ⟨b, o + k * 2, none⟩) hb).trans cx0
      replace cx1 := (hbel.cell (p := ⟨b, o + k * 2 + 1, none⟩) hb).trans cx1
      have hl2 := low_take_len xs k
      have HB := Lib.hid hbel
      clear hbel
      obtain ⟨Ao, co, rfl, hco⟩ := rdPk (own_rdP hown (by unfold maxLen; omega))
      by_cases hk0 : k = 0
      · have HF := Lib.hid (show lowP (xs.take (k + 1)) = lowP (xs.take k) ++ [(xs[k].1, xs[k].2)] from by subst hk0; exact low_first hlt)
        have hz : lowP (xs.take k) = [] := by subst hk0; rfl
        rw [hz] at hown HF hl2
        have HK := Lib.hid hk0
        rw [hz]
        clear hk0 hc hz hco
        generalize xs[k].1 = x0 at cx0 HF
        generalize xs[k].2 = x1 at cx1 HF
        go_wp2
        go_quiet (fail)
        go_wp2_with (at_builtin; refine appP1 rfl (.tmp 28) (.tmp 30) 25 rfl rfl w.heap.size _ _ [] (x0, x1) rfl rfl (by exact own_below hown ((below_drewN ((Below.refl _ _).alloc (Nat.le_refl _) _) _).alloc (by simp) _) (Nat.le_refl _)) (by exact newP0 _ _ _ _ (by simp)) (by exact newP1 _ _ _ _ (by simp)) (by simp) (by have := HB.out.size; simp; omega) ?_; intro v2 w2 hown2 hg2; have S2 := Lib.hid (And.intro hown2 (step_grown HB.out hown ((below_drewN ((Below.refl _ _).alloc (Nat.le_refl _) _) _).alloc (by simp) _) hg2)); rw [← HF.out] at S2; clear hown2 hg2 hown)
        go_roundw
        case rel => exact ⟨k + 1, by omega, by go_num, S2.out.1, S2.out.2⟩
        case measure => simp [intOf]; omega
      · have hk0n : 0 < k := by omega
        obtain ⟨zs, hzs⟩ : ∃ zs, lowP (xs.take k) = zs := ⟨_, rfl⟩
        have hn : 0 < zs.length := by rw [← hzs]; exact (low_last hk0n hk).1
        obtain ⟨m1, hm1⟩ : ∃ m1, m1 = zs.length - 1 := ⟨_, rfl⟩
        have hmlt : m1 < zs.length := by omega
        have hlast : zs[m1].2 = (xs[k - 1]'(by omega)).2 := by subst hm1; subst hzs; exact (low_last hk0n hk).2
        have HF1' := Lib.hid (show xs[k].2 = zs[m1].2 → lowP (xs.take (k + 1)) = zs from fun e => by rw [← hzs]; exact low_keep hlt hk0n (by rw [e, hlast]))
        have HF2' := Lib.hid (show xs[k].2 ≠ zs[m1].2 → lowP (xs.take (k + 1)) = zs ++ [(xs[k].1, xs[k].2)] from fun e => by rw [← hzs]; exact low_add hlt hk0n (by rw [← hlast]; exact e))
        rw [hzs] at hown hl2 hco ⊢
        have HZ := Lib.hid hzs
        clear hzs
        obtain ⟨bo, oo, rfl, hbo, hcc⟩ := hco 0 hn
        have hmlt' : (m1 : Int) < (zs.length : Int) := by omega
        have hm0 : 0 ≤ (m1 : Int) := by omega
        have hw : IntKind.i64.wrap ((zs.length : Int) - 1) = (m1 : Int) := by rw [IntKind.wrap_i64]; omega
        have hzf : ((zs.length : Int) == 0) = false := by simp; intro e; rw [e] at hn; simp at hn
        have cz1 := (hcc m1 hmlt).2
        have HM := Lib.hid hm1
        have HO := Lib.hid hown
        have HN := Lib.hid hn
        clear hlast hm1 hcc hco hc hk0 hown hn
        generalize zs[m1].2 = z1 at cz1 HF1' HF2'
        generalize xs[k].1 = x0 at cx0 HF2'
        generalize xs[k].2 = x1 at cx1 HF1' HF2'
        by_cases he : x1 = z1
        · subst he
          have HF := Lib.hid (HF1'.out rfl)
          clear HF1' HF2'
          go_wp2
          go_quiet (fail)
          go_wp2
          go_roundw
          case rel => exact ⟨k + 1, by omega, by go_num, by rw [HF.out]; exact own_below HO.out (below_drewN ((Below.refl _ _).alloc (Nat.le_refl _) _) _) (Nat.le_refl _), below_drewN (HB.out.alloc HB.out.size _) _⟩
          case measure => simp [intOf]; omega
        · have HF := Lib.hid (HF2'.out he)
          have he' : (z1 != x1) = true := by simpa using fun e => he e.symm
          clear HF1' HF2' he
          have hown := HO.out
          go_wp2
          go_quiet (fail)
          go_wp2_with (at_builtin; refine appP1 rfl (.tmp 28) (.tmp 30) 25 rfl rfl w.heap.size _ _ zs (x0, x1) rfl rfl (by exact own_below hown ((below_drewN ((Below.refl _ _).alloc (Nat.le_refl _) _) _).alloc (by simp) _) (Nat.le_refl _)) (by exact newP0 _ _ _ _ (by simp)) (by exact newP1 _ _ _ _ (by simp)) (by omega) (by have := HB.out.size; simp; omega) ?_; intro v2 w2 hown2 hg2; have S2 := Lib.hid (And.intro hown2 (step_grown HB.out hown ((below_drewN ((Below.refl _ _).alloc (Nat.le_refl _) _) _).alloc (by simp) _) hg2)); rw [← HF.out] at S2; clear hown2 hg2 hown)
          go_roundw
          case rel => exact ⟨k + 1, by omega, by go_num, S2.out.1, S2.out.2⟩
          case measure => simp [intOf]; omega
    · have hge : ¬ (k : Int) < (xs.length : Int) := by omega
      obtain rfl : k = xs.length := by omega
      rw [List.take_length] at hown
      have HO := Lib.hid (And.intro hown hbel)
      clear hown hbel
      go_wp2
      go_ret
      exact ⟨_, rfl, HO.out.1, HO.out.2⟩

theorem specMerge_any (xs : List Pr) (v : Value) (w : World) (hr : RdP w v xs) (hlen : xs.length ≤ 1073741823) :
    Calls Try.prog 21 #[v] w fun e w' => ∃ v', e = .returned v' ∧ w'.ownsRow w.heap.size 39 2 v' (mergeB xs).length (cellsP (mergeB xs)) ∧ Below w.heap.size w w' := by
  have HR := Lib.hid hr
  have HQ := Lib.hid (show mergeB xs = if okP xs then lowP xs else [] from rfl)
  clear hr
  generalize mergeB xs = ms at *
  go_enter Try.func21, Try.ntmps21
  go_wp2_with fail
  refine (specStepsOk_any xs _ _ HR.out).mono ?_
  rintro e w1 ⟨rfl, hb1⟩
  have HB := Lib.hid hb1
  clear hb1
  rcases hok : okP xs with _ | _
  · have HO := Lib.hid hok
    clear hok
    go_wp2
    go_ret
    refine ⟨_, rfl, ?_, HB.out⟩
    rw [HQ.out, HO.out]
    exact World.ownsRow_nil _ _ _ _
  · have HO := Lib.hid hok
    clear hok
    go_wp2_with fail
    refine (specLow_any xs _ _ (HR.out.below HB.out (Nat.le_refl _)) hlen).mono ?_
    rintro e w2 ⟨v2, rfl, ho2, hb2⟩
    have H2 := Lib.hid (And.intro (own_base1 ho2 HB.out.size) (HB.out.trans (hb2.mono HB.out.size)))
    clear ho2 hb2
    go_wp2
    go_ret
    refine ⟨_, rfl, ?_, H2.out.2⟩
    rw [HQ.out, HO.out]
    exact H2.out.1

theorem leastB_range (xs : List Pr) (x y : Int) : 0 ≤ leastB xs x y ∧ leastB xs x y ≤ 20 := by
  unfold leastB
  split
  · rename_i h
    exact minT_range (spanB_iff.1 h).1 x y
  · exact ⟨by omega, by omega⟩

set_option maxRecDepth 100000 in
set_option maxHeartbeats 2000000 in
theorem specReduce_any (xs : List Pr) (x y n : Int) (v : Value) (w : World) (hr : RdP w v xs) :
    Calls Try.prog 25 #[v, .int .i64 x, .int .i64 y, .int .i64 n] w fun e w' => ∃ v', e = .returned (.tuple #[v', .bool (reduceB xs x y n)]) ∧ w'.ownsRow w.heap.size 39 2 v' (reducedB xs x y n).length (cellsP (reducedB xs x y n)) ∧ Below w.heap.size w w' := by
  have HR := Lib.hid hr
  have HQ := Lib.hid (show reduceB xs x y n = (spanB xs x y && !decide (y ≤ x) && inB n 0 (leastB xs x y) && okP (redP xs x y n)) from rfl)
  have HQ2 := Lib.hid (show reducedB xs x y n = if reduceB xs x y n then redP xs x y n else [] from rfl)
  have hno : ∀ W : World, reduceB xs x y n = false → W.ownsRow w.heap.size 39 2 (.slice none 0 0) (reducedB xs x y n).length (cellsP (reducedB xs x y n)) := fun W h => by
    rw [HQ2.out, h]; exact World.ownsRow_nil _ _ _ _
  have HNO := Lib.hid hno
  clear hr hno
  go_enter Try.func25, Try.ntmps25
  go_wp2_with fail
  refine (span_any xs x y _ _ HR.out).mono ?_
  rintro e w1 ⟨rfl, hb1⟩
  have HB := Lib.hid hb1
  clear hb1
  rcases hsp : spanB xs x y with _ | _
  · have HF := Lib.hid (show reduceB xs x y n = false from by rw [HQ.out, hsp]; rfl)
    clear hsp
    go_wp2
    go_ret2
    exact ⟨_, by rw [HF.out]; rfl, HNO.out _ HF.out, HB.out⟩
  have HO := Lib.hid hsp
  obtain ⟨hok, ⟨hx0, hx1⟩, hy0, hy1⟩ := spanB_iff.1 hsp
  have HK := Lib.hid hok
  clear hsp hok
  by_cases hyx : y ≤ x
  · have HF := Lib.hid (show reduceB xs x y n = false from by rw [HQ.out, HO.out, decide_eq_true hyx]; rfl)
    go_wp2
    go_ret2
    exact ⟨_, by rw [HF.out]; rfl, HNO.out _ HF.out, HB.out⟩
  have HYX := Lib.hid (decide_eq_false hyx)
  go_wp2_with fail
  refine (specMin_any xs x y _ _ (HR.out.below HB.out (Nat.le_refl _))).mono ?_
  rintro e w2 ⟨rfl, hb2⟩
  have HB2 := Lib.hid (HB.out.trans (hb2.mono HB.out.size))
  clear hb2
  obtain ⟨hm0, hm1⟩ := leastB_range xs x y
  have HMT := Lib.hid (show leastB xs x y = minT xs x y from by rw [leastB, HO.out]; rfl)
  go_wp2_with fail
  refine (in_any _ _ _ _).mono ?_
  rintro e w3 ⟨rfl, rfl⟩
  rcases hin : inB n 0 (leastB xs x y) with _ | _
  · have HF := Lib.hid (show reduceB xs x y n = false from by rw [HQ.out, HO.out, HYX.out, hin]; rfl)
    clear hin
    go_wp2
    go_ret2
    exact ⟨_, by rw [HF.out]; rfl, HNO.out _ HF.out, HB2.out⟩
  have HI := Lib.hid hin
  obtain ⟨hn0, hn1⟩ := inB_iff.1 hin
  clear hin
  have hn2 : n ≤ 20 := by omega
  have O0 := Lib.hid (And.intro (madeP0 w2) ((Below.refl _ w2).alloc (Nat.le_refl _) (.cells #[] 39)))
  go_wp2
  go_loopw [10, 11] (fun out i wr => ∃ k : Nat, k ≤ 61 ∧ i = .int .i64 k ∧ wr.ownsRow w.heap.size 39 2 out (tabP (lessT xs x y n) 0 k).length (cellsP (tabP (lessT xs x y n) 0 k)) ∧ Below w.heap.size w wr) (fun _ i _ => (61 - intOf i).toNat)
  case atStart => exact ⟨0, by omega, rfl, own_base1 O0.out.1 HB2.out.size, HB2.out.trans (O0.out.2.mono HB2.out.size)⟩
  case round =>
    obtain ⟨k, hk, rfl, hown, hbel⟩ := hrel
    by_cases hlt : k ≤ 60
    · have hlt' : (k : Int) ≤ 60 := by omega
      obtain ⟨a0, a1⟩ := atP_range HK.out k
      have HOW := Lib.hid hown
      have HBW := Lib.hid hbel
      clear hown hbel
      go_wp2_with fail
      refine (specAt_any xs k _ _ (HR.out.below HBW.out (Nat.le_refl _))).mono ?_
      rintro e w4 ⟨rfl, hb4⟩
      have hown := own_below HOW.out hb4 (Nat.le_refl _)
      have HB := Lib.hid (HBW.out.trans (hb4.mono HBW.out.size))
      clear hb4 HOW
      have hlk := tabP_len (lessT xs x y n) k 0
      have HF := Lib.hid (tabP_snoc (lessT xs x y n) 0 k)
      have HL := Lib.hid (show lessT xs x y n (0 + (k : Int)) = if x ≤ (k : Int) ∧ (k : Int) < y then atP xs k - n else atP xs k from by rw [Int.zero_add]; rfl)
      generalize tabP (lessT xs x y n) 0 k = zs at hown HF hlk
      have hl2 : zs.length ≤ 61 := by omega
      have HLK := Lib.hid hlk
      clear hlk
      generalize lessT xs x y n (0 + (k : Int)) = r at HF HL
      generalize atP xs (k : Int) = a at *
      by_cases h1 : x ≤ (k : Int)
      · have h1' : (k : Int) ≥ x := h1
        by_cases h2 : (k : Int) < y
        · have HF' := Lib.hid (show tabP (lessT xs x y n) 0 (k + 1) = zs ++ [((k : Int), a - n)] from by rw [HF.out, HL.out, if_pos ⟨h1, h2⟩, Int.zero_add])
          clear HF HL
          go_wp2_with (at_builtin; refine appP1 rfl (.tmp 51) (.tmp 55) 25 rfl rfl w.heap.size _ _ zs ((k : Int), a - n) rfl rfl (by exact own_below hown ((Below.refl _ _).alloc (Nat.le_refl _) _) (Nat.le_refl _)) (by exact newP0 _ _ _ _ (by simp)) (by exact newP1 _ _ _ _ (by simp)) (by omega) (by have := HB.out.size; simp; omega) ?_; intro v2 w5 hown2 hg2; have S2 := Lib.hid (And.intro hown2 (step_grown HB.out hown ((Below.refl _ _).alloc (Nat.le_refl _) _) hg2)); rw [← HF'.out] at S2; clear hown2 hg2 hown)
          go_roundw
          case rel => exact ⟨k + 1, by omega, by go_num, S2.out.1, S2.out.2⟩
          case measure => simp [intOf]; omega
        · have HF' := Lib.hid (show tabP (lessT xs x y n) 0 (k + 1) = zs ++ [((k : Int), a)] from by rw [HF.out, HL.out, if_neg (fun h => h2 h.2), Int.zero_add])
          clear HF HL
          go_wp2_with (at_builtin; refine appP1 rfl (.tmp 51) (.tmp 55) 25 rfl rfl w.heap.size _ _ zs ((k : Int), a) rfl rfl (by exact own_below hown ((Below.refl _ _).alloc (Nat.le_refl _) _) (Nat.le_refl _)) (by exact newP0 _ _ _ _ (by simp)) (by exact newP1 _ _ _ _ (by simp)) (by omega) (by have := HB.out.size; simp; omega) ?_; intro v2 w5 hown2 hg2; have S2 := Lib.hid (And.intro hown2 (step_grown HB.out hown ((Below.refl _ _).alloc (Nat.le_refl _) _) hg2)); rw [← HF'.out] at S2; clear hown2 hg2 hown)
          go_roundw
          case rel => exact ⟨k + 1, by omega, by go_num, S2.out.1, S2.out.2⟩
          case measure => simp [intOf]; omega
      · have h1' : ¬ (k : Int) ≥ x := h1
        have HF' := Lib.hid (show tabP (lessT xs x y n) 0 (k + 1) = zs ++ [((k : Int), a)] from by rw [HF.out, HL.out, if_neg (fun h => h1 h.1), Int.zero_add])
        clear HF HL
        go_wp2_with (at_builtin; refine appP1 rfl (.tmp 51) (.tmp 55) 25 rfl rfl w.heap.size _ _ zs ((k : Int), a) rfl rfl (by exact own_below hown ((Below.refl _ _).alloc (Nat.le_refl _) _) (Nat.le_refl _)) (by exact newP0 _ _ _ _ (by simp)) (by exact newP1 _ _ _ _ (by simp)) (by omega) (by have := HB.out.size; simp; omega) ?_; intro v2 w5 hown2 hg2; have S2 := Lib.hid (And.intro hown2 (step_grown HB.out hown ((Below.refl _ _).alloc (Nat.le_refl _) _) hg2)); rw [← HF'.out] at S2; clear hown2 hg2 hown)
        go_roundw
        case rel => exact ⟨k + 1, by omega, by go_num, S2.out.1, S2.out.2⟩
        case measure => simp [intOf]; omega
    · obtain rfl : k = 61 := by omega
      have HOW := Lib.hid hown
      have hlk := Lib.hid (tabP_len (lessT xs x y n) 61 0)
      have HBW := Lib.hid hbel
      have hred := Lib.hid (show lowP (tabP (lessT xs x y n) 0 61) = redP xs x y n from rfl)
      clear hown hbel
      generalize tabP (lessT xs x y n) 0 61 = zs at HOW hlk hred
      have hlz : zs.length ≤ 61 := by have := hlk.out; omega
      go_wp2_with fail
      refine (specLow_any zs _ _ (own_rdP HOW.out (by unfold maxLen; omega)) (by omega)).mono ?_
      rintro e w4 ⟨v4, rfl, ho4, hb4⟩
      have hlr : (lowP zs).length ≤ 61 := Nat.le_trans (lowP_len _) hlz
      rw [hred.out] at ho4 hlr
      have H4 := Lib.hid (And.intro (own_base1 ho4 HBW.out.size) (HBW.out.trans (hb4.mono HBW.out.size)))
      clear ho4 hb4
      go_wp2_with fail
      refine (specStepsOk_any (redP xs x y n) _ _ (own_rdP H4.out.1 (by unfold maxLen; omega))).mono ?_
      rintro e w5 ⟨rfl, hb5⟩
      have H5 := Lib.hid (And.intro (own_below H4.out.1 hb5 (Nat.le_refl _)) (H4.out.2.trans (hb5.mono H4.out.2.size)))
      clear hb5
      rcases hrk : okP (redP xs x y n) with _ | _
      · have HF := Lib.hid (show reduceB xs x y n = false from by rw [HQ.out, hrk]; simp)
        clear hrk
        go_wp2
        go_ret2
        exact ⟨_, by rw [HF.out]; rfl, HNO.out _ HF.out, H5.out.2⟩
      · have HF := Lib.hid (show reduceB xs x y n = true from by rw [HQ.out, HO.out, HYX.out, HI.out, hrk]; rfl)
        clear hrk
        go_wp2
        go_ret2
        exact ⟨_, by rw [HF.out]; rfl, by rw [HQ2.out, HF.out]; exact H5.out.1, H5.out.2⟩
end Go.Proofs.Ythcbndbfgpeokaa
