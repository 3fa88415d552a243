/- DERIVED. CONTRACTS of the laws' helpers over Resource and slices of it, by trees. -/
import Derived.Test.YtaglfdkeomjpdaaGreatDats
import Derived.Test.YtaglfdkeomjpdaaGreatTStep
import Derived.Test.YtaglfdkeomjpdaaGreatTIntS
import Derived.Test.YtaglfdkeomjpdaaGreatModT
import Derived.Deep.RegionWith
import Derived.Deep.RegionHeld3
namespace Go.Proofs.YtaglfdkeomjpdaaGreat
open Go.RowKit
set_option linter.unusedVariables false

theorem thin_ResourceL (d : Rs) : thinL (cellsR d) := ⟨thin_StepS _, thin_IntSS _, trivial⟩
theorem thin_ResourceS (xs : List Rs) : (trRs xs).thins := thin_rows cellsR_len (by omega) thin_ResourceL xs

set_option maxRecDepth 100000 in
set_option maxHeartbeats 1000000 in
theorem szResource_t (d : Rs) (v : Value) (left : Int) (w : World) (hr : (trR d).rd w v) (hk : (trR d).ok) (h0 : 0 ≤ left) (h3 : left ≤ 1048576) :
    Calls Tryz.prog 57 #[v, .int .i64 left] w fun e w' => e = .returned (.int .i64 (if left < (trR d).sz then -1 else left - (trR d).sz)) ∧ Below w.heap.size w w' := by
  obtain ⟨A0, c0, A1, c1, rfl, r0, r1⟩ := rdResource_t hr
  clear hr
  obtain ⟨k0, k1, _⟩ := hk
  have R0 := Lib.hid r0
  have K0 := Lib.hid k0
  clear r0 k0
  have R1 := Lib.hid r1
  have K1 := Lib.hid k1
  clear r1 k1
  have HZ := Lib.hid (show (trR d).sz = (trSt d.st).sz + ((trSu d.su).sz + 0) from rfl)
  generalize (trR d).sz = Z at HZ ⊢
  generalize hz0 : (trSt d.st).sz = z0 at HZ
  have Z0 := Lib.hid hz0
  clear hz0
  generalize hz1 : (trSu d.su).sz = z1 at HZ
  have Z1 := Lib.hid hz1
  clear hz1
  generalize hres : (if left < (Z : Int) then -1 else left - (Z : Int)) = res
  have RES := Lib.hid hres
  clear hres
  have S0 := Lib.hid ((Sn.start w).box 95 [.slice A0 d.st.length c0, .slice A1 d.su.length c1])
  go_enter Tryz.func57, Tryz.ntmps57
  go_wp2_with fail
  refine (szStepS_t d.st _ _ _ (by exact S0.out.old R0.out) K0.out (by omega) (by omega)).mono ?_
  rintro e w1 ⟨rfl, b⟩
  rw [Z0.out]
  have S1 := Lib.hid (S0.out.go b)
  clear S0 b
  by_cases hb0 : left < (z0 : Int)
  · rw [if_pos hb0]
    go_wp2
    go_ret
    exact ⟨ret_numZ (by rw [← RES.out, if_pos (by have := HZ.out; omega)]), S1.out.1⟩
  rw [if_neg hb0]
  have hq0 : 0 ≤ left - (z0 : Int) := by omega
  obtain ⟨e0, e1, ef⟩ := (S1.out.bk 0 rfl).c2
  go_wp2_with fail
  clear e0 e1 ef
  refine (szIntSS_t d.su _ _ _ (by exact S1.out.old R1.out) K1.out (by omega) (by omega)).mono ?_
  rintro e w2 ⟨rfl, b⟩
  rw [Z1.out]
  have S2 := Lib.hid (S1.out.go b)
  clear S1 b
  by_cases hb1 : left - (z0 : Int) < (z1 : Int)
  · rw [if_pos hb1]
    go_wp2
    go_ret
    exact ⟨ret_numZ (by rw [← RES.out, if_pos (by have := HZ.out; omega)]), S2.out.1⟩
  rw [if_neg hb1]
  have hq1 : 0 ≤ left - (z0 : Int) - (z1 : Int) := by omega
  go_wp2
  go_ret
  exact ⟨ret_numZ (by rw [← RES.out, if_neg (by have := HZ.out; omega)]; have := HZ.out; omega), S2.out.1⟩

set_option maxRecDepth 100000 in
set_option maxHeartbeats 1000000 in
theorem szResourceS_t (xs : List Rs) (v : Value) (left : Int) (w : World) (hr : (trRs xs).rd w v) (hk : (trRs xs).ok) (h0 : 0 ≤ left) (h3 : left ≤ 1048576) :
    Calls Tryz.prog 29 #[v, .int .i64 left] w fun e w' => e = .returned (.int .i64 (if left < (trRs xs).sz then -1 else left - (trRs xs).sz)) ∧ Below w.heap.size w w' := by
  obtain ⟨hl, A, c, rfl, ga⟩ := rdResourceS_t hr
  have GA := Lib.hid ga
  clear ga hr
  have HZ := Lib.hid (show (trRs xs).sz = xs.length + szL (xs.flatMap cellsR) from rfl)
  generalize (trRs xs).sz = Z at HZ ⊢
  generalize hres : (if left < (Z : Int) then -1 else left - (Z : Int)) = res
  have RES := Lib.hid hres
  clear hres
  by_cases hn : left < (xs.length : Int)
  · have hn' : left - (xs.length : Int) < 0 := by omega
    go_enter Tryz.func29, Tryz.ntmps29
    go_wp2
    go_ret
    exact ⟨ret_numZ (by rw [← RES.out, if_pos (by have := HZ.out; omega)]), Below.refl _ _⟩
  have hn' : ¬ left - (xs.length : Int) < 0 := by omega
  have hn2 : (xs.length : Int) ≤ 1048576 := by omega
  have KL := Lib.hid (okL_flat (f := cellsR) (xs := xs) hk)
  clear hk
  go_enter Tryz.func29, Tryz.ntmps29
  go_wp2
  go_loopw [1, 5] (fun q i wr => ∃ k : Nat, k ≤ xs.length ∧ i = .int .i64 k ∧ q = .int .i64 (left - xs.length - (szL ((xs.take k).flatMap cellsR) : Nat)) ∧ 0 ≤ left - xs.length - (szL ((xs.take k).flatMap cellsR) : Nat) ∧ Below w.heap.size w wr) (fun _ i _ => xs.length - (intOf i).toNat)
  case atStart => exact ⟨0, Nat.zero_le _, rfl, by simp [szL], by simp [szL]; omega, Below.refl _ _⟩
  case round =>
    obtain ⟨k, hk, rfl, rfl, hq, hbel⟩ := hrel
    by_cases hlt : k < xs.length
    · have hlt' : (k : Int) < (xs.length : Int) := by omega
      obtain ⟨b, o, rfl, hb, hc⟩ := GA.out k hlt
      obtain ⟨A0, c0, A1, c1, hc0, hc1, r0, r1⟩ := hc k hlt
      have hx0 := (hbel.cell (p := ⟨b, o + k * 2, none⟩) hb).trans hc0
      have hx1 := (hbel.cell (p := ⟨b, o + k * 2 + 1, none⟩) hb).trans hc1
      have HM := Lib.hid (mk_rdResource_t (d := xs[k]) (Tr.rd_below hbel (Nat.le_refl _) _ _ r0) (Tr.rd_below hbel (Nat.le_refl _) _ _ r1))
      clear hc hc0 hc1 r0 r1
      have HT := Lib.hid (szL_flat (f := cellsR) hlt)
      have HLE := szL_flat_le (f := cellsR) xs (k + 1)
      have HSZ := Lib.hid (show (trR xs[k]).sz = szL (cellsR xs[k]) from rfl)
      have HKK := Lib.hid (KL.out _ (List.getElem_mem hlt))
      have HK := Lib.hid (show (trR xs[k]).ok from HKK.out)
      clear HKK
      generalize szL (cellsR xs[k]) = ze at HT HSZ
      generalize xs[k] = m at hx0 hx1 HM HK HSZ
      have HB := Lib.hid hbel
      clear hbel
      generalize hQ : left - (xs.length : Int) - (szL ((xs.take k).flatMap cellsR) : Nat) = Q at hq ⊢
      have HQ := Lib.hid hQ
      have hq2 : Q ≤ 1048576 := by omega
      clear hQ
      go_wp2_with fail
      refine (szResource_t m _ _ _ (by exact HM.out) HK.out hq hq2).mono ?_
      rintro e w1 ⟨rfl, hb1⟩
      rw [HSZ.out]
      all_goals
        have HB1 := Lib.hid (HB.out.trans (hb1.mono HB.out.size))
        clear hb1
        by_cases hs : Q < (ze : Int)
        · rw [if_pos hs]
          go_wp2
          go_ret
          exact ⟨ret_numZ (by rw [← RES.out, if_pos (by have := HZ.out; have := HT.out; have := HQ.out; omega)]), HB1.out⟩
        · rw [if_neg hs]
          have hs' : 0 ≤ Q - (ze : Int) := by omega
          go_wp2
          go_roundw
          case rel => exact ⟨k + 1, by omega, by go_num, by have := HT.out; have := HQ.out; congr 1; omega, by have := HT.out; have := HQ.out; omega, HB1.out⟩
          case measure => simp [intOf]; omega
    · have hge : ¬ (k : Int) < (xs.length : Int) := by omega
      obtain rfl : k = xs.length := by omega
      rw [List.take_length] at hq ⊢
      have HB := Lib.hid hbel
      clear hbel
      go_wp2
      go_ret
      exact ⟨ret_numZ (by rw [← RES.out, if_neg (by have := HZ.out; omega)]; have := HZ.out; omega), HB.out⟩

set_option maxRecDepth 100000 in
set_option maxHeartbeats 1000000 in
theorem eqResource_t (d : Rs) (v u : Value) (w : World) (hv : (trR d).rd w v) (hu : (trR d).rd w u) :
    Calls Tryz.prog 67 #[v, u] w fun e w' => e = .returned (.bool true) ∧ Below w.heap.size w w' := by
  obtain ⟨A0, c0, A1, c1, rfl, r0, r1⟩ := rdResource_t hv
  obtain ⟨B0, b0, B1, b1, rfl, s0, s1⟩ := rdResource_t hu
  clear hv hu
  have R0 := Lib.hid r0
  have Q0 := Lib.hid s0
  clear r0 s0
  have R1 := Lib.hid r1
  have Q1 := Lib.hid s1
  clear r1 s1
  have S0 := Lib.hid (((Sn.start w).box 103 [.slice A0 d.st.length c0, .slice A1 d.su.length c1]).box 103 [.slice B0 d.st.length b0, .slice B1 d.su.length b1])
  simp only [World.size_alloc] at S0
  go_enter Tryz.func67, Tryz.ntmps67
  go_wp2_with fail
  refine (eqStepS_t d.st _ _ _ (by exact S0.out.old R0.out) (by exact S0.out.old Q0.out)).mono ?_
  rintro e w1 ⟨rfl, b⟩
  have S1 := Lib.hid (S0.out.go b)
  clear S0 b
  obtain ⟨e0, e1, ef⟩ := (S1.out.bk 1 rfl).c2
  obtain ⟨g0, g1, gf⟩ := (S1.out.bk 0 rfl).c2
  go_wp2_with fail
  clear e0 e1 ef g0 g1 gf
  refine (eqIntSS_t d.su _ _ _ (by exact S1.out.old R1.out) (by exact S1.out.old Q1.out)).mono ?_
  rintro e w2 ⟨rfl, b⟩
  have S2 := Lib.hid (S1.out.go b)
  clear S1 b
  go_wp2
  go_ret
  exact ⟨rfl, S2.out.1⟩

set_option maxRecDepth 100000 in
set_option maxHeartbeats 1000000 in
theorem eqResourceS_t (xs : List Rs) (v u : Value) (w : World) (hv : (trRs xs).rd w v) (hu : (trRs xs).rd w u) :
    Calls Tryz.prog 41 #[v, u] w fun e w' => e = .returned (.bool true) ∧ Below w.heap.size w w' := by
  obtain ⟨hl, A, c, rfl, ga⟩ := rdResourceS_t hv
  obtain ⟨_, B, c2, rfl, gb⟩ := rdResourceS_t hu
  have GA := Lib.hid ga
  have GB := Lib.hid gb
  clear ga gb hv hu
  go_enter Tryz.func41, Tryz.ntmps41
  go_wp2
  go_loopw [5] (fun i wr => ∃ k : Nat, k ≤ xs.length ∧ i = .int .i64 k ∧ Below w.heap.size w wr) (fun i _ => xs.length - (intOf i).toNat)
  case atStart => exact ⟨0, Nat.zero_le _, rfl, Below.refl _ _⟩
  case round =>
    obtain ⟨k, hk, rfl, hbel⟩ := hrel
    by_cases hlt : k < xs.length
    · have hlt' : (k : Int) < (xs.length : Int) := by omega
      obtain ⟨b1, o1, rfl, hb1, hc⟩ := GA.out k hlt
      obtain ⟨b2, o2, rfl, hb2, hd⟩ := GB.out k hlt
      obtain ⟨A0, c0, A1, c1, hc0, hc1, r0, r1⟩ := hc k hlt
      obtain ⟨B0, d0, B1, d1, hd0, hd1, s0, s1⟩ := hd k hlt
      have hx0 := (hbel.cell (p := ⟨b1, o1 + k * 2, none⟩) hb1).trans hc0
      have hx1 := (hbel.cell (p := ⟨b1, o1 + k * 2 + 1, none⟩) hb1).trans hc1
      have hy0 := (hbel.cell (p := ⟨b2, o2 + k * 2, none⟩) hb2).trans hd0
      have hy1 := (hbel.cell (p := ⟨b2, o2 + k * 2 + 1, none⟩) hb2).trans hd1
      have HM := Lib.hid (mk_rdResource_t (w := wr.drew) (d := xs[k]) (Tr.rd_below hbel.drew (Nat.le_refl _) _ _ r0) (Tr.rd_below hbel.drew (Nat.le_refl _) _ _ r1))
      have HN := Lib.hid (mk_rdResource_t (w := wr.drew) (d := xs[k]) (Tr.rd_below hbel.drew (Nat.le_refl _) _ _ s0) (Tr.rd_below hbel.drew (Nat.le_refl _) _ _ s1))
      clear hc hd hc0 hd0 hc1 hd1 r0 s0 r1 s1
      have HB := Lib.hid hbel
      clear hbel
      generalize xs[k] = m at hx0 hy0 hx1 hy1 HM HN
      go_wp2
      go_region_with (go_at_call 67; refine (eqResource_t m _ _ _ (by exact HM.out) (by exact HN.out)).mono ?_; rintro e w1 ⟨rfl, hb3⟩)
      all_goals
        go_wp2
        go_roundw
        case rel => exact ⟨k + 1, by omega, by go_num, HB.out.drew.trans (hb3.mono HB.out.size)⟩
        case measure => simp [intOf]; omega
    · have hge : ¬ (k : Int) < (xs.length : Int) := by omega
      have HB := Lib.hid hbel
      clear hbel
      go_wp2
      go_ret
      exact ⟨rfl, HB.out⟩

set_option maxRecDepth 100000 in
set_option maxHeartbeats 1000000 in
theorem toResource_t (d : Rs) (v : Value) (w : World) (hv : (trR d).rd w v) (hl : (trR d).sz ≤ 1073741824) :
    Calls Tryz.prog 63 #[v] w fun e w' => ∃ u F, e = .returned u ∧ (trR d).own w' w.heap.size u F ∧ F.Nodup ∧ Below w.heap.size w w' := by
  obtain ⟨A0, c0, A1, c1, rfl, r0, r1⟩ := rdResource_t hv
  clear hv
  have R0 := Lib.hid r0
  clear r0
  have R1 := Lib.hid r1
  clear r1
  have hz : (trR d).sz = (trSt d.st).sz + ((trSu d.su).sz + 0) := rfl
  have hl0 : (trSt d.st).sz ≤ 1073741824 := by omega
  have hl1 : (trSu d.su).sz ≤ 1073741824 := by omega
  clear hz hl
  have S0 := Lib.hid ((((Sn.start w).box 95 [.slice A0 d.st.length c0, .slice A1 d.su.length c1]).box 103 [.slice none 0 0, .slice none 0 0]).box 103 [.slice none 0 0, .slice none 0 0])
  simp only [World.size_alloc] at S0
  go_enter Tryz.func63, Tryz.ntmps63
  go_wp2_with fail
  refine (toStepS_t d.st _ _ (by exact S0.out.old R0.out) hl0).mono ?_
  rintro e w1 ⟨u0, F0, rfl, o, h, b⟩
  obtain ⟨U0, n0, rfl⟩ := rows_slice (Tr.own_rd _ _ _ o)
  have S1 := Lib.hid (S0.out.new o h b)
  clear S0 o h b
  obtain ⟨e0, e1, ef⟩ := (S1.out.bk 3 rfl).c2
  obtain ⟨g0, g1, gf⟩ := (S1.out.bk 1 rfl).c2
  go_wp2_with fail
  clear e0 e1 ef g0 g1 gf
  have S1' := Lib.hid (S1.out.boxSet 1 rfl 0 (.slice U0 d.st.length n0))
  clear S1
  have S1 := S1'
  clear S1'
  refine (toIntSS_t d.su _ _ (by exact S1.out.old R1.out) hl1).mono ?_
  rintro e w2 ⟨u1, F1, rfl, o, h, b⟩
  obtain ⟨U1, n1, rfl⟩ := rows_slice (Tr.own_rd _ _ _ o)
  have S2 := Lib.hid (S1.out.new o h b)
  clear S1 o h b
  obtain ⟨e0, e1, ef⟩ := (S2.out.bk 4 rfl).c2
  obtain ⟨g0, g1, gf⟩ := (S2.out.bk 2 rfl).c2
  obtain ⟨z0, z1, zf⟩ := (S2.out.bk 3 rfl).c2
  go_wp2
  clear e0 e1 ef g0 g1 gf
  have SZ := ((S2.out.boxSet 2 rfl 1 (.slice U1 d.su.length n1)).boxSet 3 rfl 0 (.slice U0 d.st.length n0)).boxSet 3 rfl 1 (.slice U1 d.su.length n1)
  have P := SZ.nil0
  have P := (P.pick 1 rfl).pack
  have P := (P.pick 1 rfl).pack
  refine bodyPost_ret (v := .agg #[.slice U0 d.st.length n0, .slice U1 d.su.length n1]) (by simp [results, Tryz.results63, go_sem, z0, z1]) rfl ⟨_, _, rfl, (P.own 0 rfl).1, (P.own 0 rfl).2, P.1⟩

theorem infoResource_t : (Tryz.prog.info? 103).map (fun i => (i.zero, i.size, i.bytes)) = some (some (.agg #[.slice none 0 0, .slice none 0 0]), 2, 48) := by kernel_rfl

set_option maxRecDepth 100000 in
set_option maxHeartbeats 1000000 in
theorem toResourceS_t (xs : List Rs) (v : Value) (w : World) (hv : (trRs xs).rd w v) (hl : (trRs xs).sz ≤ 1073741824) :
    Calls Tryz.prog 36 #[v] w fun e w' => ∃ u F, e = .returned u ∧ (trRs xs).own w' w.heap.size u F ∧ F.Nodup ∧ Below w.heap.size w w' := by
  obtain ⟨hla, A, c, rfl, ga⟩ := rdResourceS_t hv
  have GA := Lib.hid ga
  clear ga hv
  have hsz : (trRs xs).sz = xs.length + szL (xs.flatMap cellsR) := rfl
  rw [hsz] at hl
  clear hsz
  obtain ⟨i0, hi, hz0, hz1, hz2⟩ := info_parts infoResource_t
  go_enter Tryz.func36, Tryz.ntmps36
  go_wp2_with (at_make; refine wpList_make_full _ rfl _ _ 34 rfl w.heap.size 103 i0 (.agg #[.slice none 0 0, .slice none 0 0]) 2 Tryz.underlying34 hi hz0 hz1 .i64 .i64 _ _ xs.length rfl rfl rfl rfl (by rw [hz2]; omega) (by unfold maxLen; omega) (Nat.le_refl _) ?_; intro w1 hown1 hgrow1)
  have hbel1 : Below w.heap.size w w1 := (Below.refl _ _).grown hgrow1 (Nat.le_refl _) (by simp)
  have hm := hown1.1
  generalize hms : (madeCells _ (xs.length * 2)).toList = raw at hown1 hm
  have HM := Lib.hid hm
  have HO := Lib.hid hown1
  clear hm hms hgrow1 hown1
  go_loopw [4] (fun i wr => ∃ k : Nat, k ≤ xs.length ∧ i = .int .i64 k ∧ (∃ F, RowAt wr w.heap.size 103 2 xs.length w.heap.size xs.length (mixR cellsR 2 raw xs k) F) ∧ Below w.heap.size w wr) (fun i _ => xs.length - (intOf i).toNat)
  case atStart => exact ⟨0, Nat.zero_le _, rfl, ⟨_, by rw [mixR_zero]; exact row_made HO.out⟩, hbel1⟩
  case round =>
    obtain ⟨k, hk, rfl, ⟨F, how⟩, hbel⟩ := hrel
    by_cases hlt : k < xs.length
    · have hlt' : (k : Int) < (xs.length : Int) := by omega
      obtain ⟨b, o, rfl, hb, hc⟩ := GA.out k hlt
      obtain ⟨A0, c0, A1, c1, hc0, hc1, r0, r1⟩ := hc k hlt
      have hx0 := (hbel.cell (p := ⟨b, o + k * 2, none⟩) hb).trans hc0
      have hx1 := (hbel.cell (p := ⟨b, o + k * 2 + 1, none⟩) hb).trans hc1
      have hse := szL_flat_at (f := cellsR) hlt
      have HRD := Lib.hid (mk_rdResource_t (w := wr) (d := xs[k]) (Tr.rd_below hbel (Nat.le_refl _) _ _ r0) (Tr.rd_below hbel (Nat.le_refl _) _ _ r1))
      have hle : (trR xs[k]).sz ≤ 1073741824 := by
        have : (trR xs[k]).sz = szL (cellsR xs[k]) := rfl
        omega
      have HST := Lib.hid (mixR_set cellsR_len HM.out hlt)
      have HLEN := Lib.hid (mixR_len cellsR_len HM.out hk)
      clear hc hse hc0 hc1 r0 r1
      generalize xs[k] = m at hx0 hx1 HRD HST hle
      have HB := Lib.hid hbel
      have HW := Lib.hid how
      clear hbel how
      go_wp2_with fail
      refine (toResource_t m _ _ HRD.out hle).mono ?_
      rintro e w2 ⟨u, H, rfl, ho, hn, hb2⟩
      obtain ⟨U0, n0, U1, n1, rfl, _, _⟩ := rdResource_t (Tr.own_rd _ _ _ ho)
      have how2 := HW.out.below hb2 (Nat.le_refl _)
      have hcl : (mixR cellsR 2 raw xs k).length = xs.length * 2 := HLEN.out
      obtain ⟨y0, hy0⟩ := how2.some (i := k * 2) (by omega)
      obtain ⟨y1, hy1⟩ := how2.some (i := k * 2 + 1) (by omega)
      have hf := how2.frozen
      have hgw := how2.lt.2
      have hw0 := HW.out.lt.2
      obtain ⟨vs, hvs, hoL⟩ := ho
      obtain rfl : vs = [.slice U0 m.st.length n0, .slice U1 m.su.length n1] := by
        injection hvs with hvs
        exact (congrArg Array.toList hvs).symm
      obtain ⟨F', hp, _⟩ := RowAt.putL (K := wr.heap.size) HB.out.size hw0 (cellsR m) _ w2 _ F H (k * 2) how2 (by rw [cellsR_len]; omega) hoL hn (fun j hj hj2 => by
        have h1 := (ownL_lt _ _ _ hoL j hj).1
        have h2 := (HW.out.allLt j hj2).2
        omega)
      rw [HST.out] at hp
      have HP := Lib.hid hp
      have HBZ := Lib.hid (setL_below (Nat.le_refl _) [.slice U0 m.st.length n0, .slice U1 m.su.length n1] w2 (k * 2) (HB.out.trans (hb2.mono HB.out.size)))
      clear hp hoL how2 hb2 hn hcl hvs
      go_wp2
      go_roundw
      case rel => exact ⟨k + 1, by omega, by go_num, ⟨F', HP.out⟩, HBZ.out⟩
      case measure => simp [intOf]; omega
    · have hge : ¬ (k : Int) < (xs.length : Int) := by omega
      obtain rfl : k = xs.length := by omega
      rw [mixR_full HM.out] at how
      have HW := Lib.hid how
      have HB := Lib.hid hbel
      clear how hbel
      go_wp2
      go_ret
      exact ⟨_, rfl, F, HW.out.1, HW.out.2, HB.out⟩

set_option maxRecDepth 100000 in
set_option maxHeartbeats 2000000 in
theorem markResourceS_t (k B : Nat) (xs : List Rs) (v : Value) (F : List Nat) (w : World) (hown : (trRs xs).own w B v F) (hn : F.Nodup) (h0 : 0 < k) (hk : k + (trRs xs).cnt ≤ 1000000000) :
    Calls Tryz.prog 53 #[v, .int .i64 k] w fun e w' => ∃ F', e = .returned (.int .i64 (k + (trRs xs).cnt : Nat)) ∧ ((trRs xs).mkd k).own w' B v F' ∧ F'.Nodup ∧ (∀ x ∈ F', x ∈ F) ∧ Wr F w w' := by
  rcases own_form hown with ⟨rfl, hl⟩ | ⟨g, cap, rfl, hcap, hmx⟩
  · obtain rfl : xs = [] := List.eq_nil_of_length_eq_zero hl
    have HO := Lib.hid hown
    have HN := Lib.hid hn
    clear hown hn hl
    go_enter Tryz.func53, Tryz.ntmps53
    go_wp2
    refine wp_loop_rounds 1 ?_
    rw [rounds_succ]
    go_wp2
    go_ret
    first | exact ⟨rfl, F, HO.out, HN.out, fun _ h => h, Wr.refl _ _⟩ | exact ⟨F, rfl, HO.out, HN.out, fun _ h => h, Wr.refl _ _⟩
  have HO := Lib.hid (show RowAt w B 103 2 xs.length g cap (xs.flatMap cellsR) F from ⟨hown, hn⟩)
  clear hown hn
  have hC : (trRs xs).cnt = cntL (xs.flatMap cellsR) := rfl
  rw [hC] at hk ⊢
  clear hC
  go_enter Tryz.func53, Tryz.ntmps53
  go_wp2
  go_loopw [1, 5] (fun q i wr => ∃ j : Nat, j ≤ xs.length ∧ i = .int .i64 j ∧ q = .int .i64 (k + cntL ((xs.flatMap cellsR).take (j * 2)) : Nat) ∧ (∃ F', RowAt wr B 103 2 xs.length g cap (mixC k (xs.flatMap cellsR) (j * 2)) F' ∧ ∀ x ∈ F', x ∈ F) ∧ Wr F w wr) (fun _ i _ => xs.length - (intOf i).toNat)
  case atStart => exact ⟨0, Nat.zero_le _, rfl, by simp [cntL], ⟨F, by rw [Nat.zero_mul]; rw [mixC_zero]; exact HO.out, fun _ h => h⟩, Wr.refl _ _⟩
  case round =>
    obtain ⟨j, hj, rfl, rfl, ⟨F1, how, hsub⟩, hwr⟩ := hrel
    by_cases hlt : j < xs.length
    · have hlt' : (j : Int) < (xs.length : Int) := by omega
      have t0 : (xs.flatMap cellsR)[j * 2]? = some (trSt xs[j].st) := by simpa [cellsR] using flatMap_get cellsR_len xs j hlt 0 (by omega)
      have a0 : cntL ((xs.flatMap cellsR).take (j * 2 + 1)) = cntL ((xs.flatMap cellsR).take (j * 2)) + (trSt xs[j].st).cnt := cntL_take t0
      have t1 : (xs.flatMap cellsR)[j * 2 + 1]? = some (trSu xs[j].su) := by simpa [cellsR] using flatMap_get cellsR_len xs j hlt 1 (by omega)
      have a1 : cntL ((xs.flatMap cellsR).take (j * 2 + 2)) = cntL ((xs.flatMap cellsR).take (j * 2 + 1)) + (trSu xs[j].su).cnt := cntL_take t1
      have hle := cntL_le (xs.flatMap cellsR) (j * 2 + 2)
      generalize hQ : k + cntL ((xs.flatMap cellsR).take (j * 2)) = Q
      have e0 : k + cntL ((xs.flatMap cellsR).take (j * 2)) = Q := by omega
      have e1 : k + cntL ((xs.flatMap cellsR).take (j * 2 + 1)) = Q + (trSt xs[j].st).cnt := by omega
      have e2 : k + cntL ((xs.flatMap cellsR).take (j * 2 + 2)) = Q + (trSt xs[j].st).cnt + (trSu xs[j].su).cnt := by omega
      have hbd : Q + (trSt xs[j].st).cnt + (trSu xs[j].su).cnt ≤ 1000000000 := by omega
      have hQ0 : 0 < Q := by omega
      clear hle a0 a1
      have T0 := Lib.hid t0
      clear t0
      have T1 := Lib.hid t1
      clear t1
      have E0 := Lib.hid e0
      clear e0
      have E1 := Lib.hid e1
      clear e1
      have E2 := Lib.hid e2
      clear e2
      have HQ := Lib.hid hQ
      clear hQ
      have hlen := how.len
      rw [mixC_len] at hlen
      have hjs : j * 2 + 2 ≤ xs.length * 2 := by omega
      have HN_ := Lib.hid (show ((j + 1) * 2 = j * 2 + 2) from by omega)
      have HOW0 := Lib.hid how
      have HSUB0 := Lib.hid hsub
      have HWR0 := Lib.hid hwr
      clear how hsub hwr
      obtain ⟨x0, hz0, hr0⟩ := rowAt_peek HOW0.out (i := j * 2) (by omega) T0.out
      obtain ⟨A0, c0, rfl⟩ := rows_slice hr0
      clear hr0
      obtain ⟨z1, hz1⟩ := HOW0.out.some (i := j * 2 + 1) (by rw [mixC_len]; omega)
      have hf := HOW0.out.frozen
      have hgw := HOW0.out.lt.2
      obtain ⟨x0, H0, hx0, ho0, hn0, hs0, back0⟩ := rowAt_markR HOW0.out T0.out
      rw [E0.out] at back0
      obtain rfl : .slice A0 xs[j].st.length c0 = x0 := Option.some.inj ((hz0).symm.trans hx0)
      have HO0 := Lib.hid ho0
      have BK0 := Lib.hid back0
      have HS0 := Lib.hid hs0
      clear hx0 ho0 hs0 back0
      go_wp2_with fail
      clear hf hgw hz0 hz1
      refine (markStepS_t (Q) B xs[j].st _ H0 _ (by exact HO0.out) hn0 (by omega) (by omega)).mono ?_
      rintro e w0_ ⟨K0, rfl, o, h, hs, hw⟩
      obtain ⟨G0, m0, ms0, mw0⟩ := BK0.out _ K0 o h hs hw
      have HOW1 := Lib.hid m0
      have HSUB1 := Lib.hid (fun x hx => HSUB0.out x (ms0 x hx))
      have HWR1 := Lib.hid (HWR0.out.trans (mw0.sub (fun x hx => HSUB0.out x hx)))
      clear m0 ms0 mw0 HOW0 HSUB0 HWR0 o h hs hw hn0 HO0 BK0 HS0
      obtain ⟨x1, hz1, hr1⟩ := rowAt_peek HOW1.out (i := j * 2 + 1) (by omega) T1.out
      obtain ⟨A1, c1, rfl⟩ := rows_slice hr1
      clear hr1
      have hf := HOW1.out.frozen
      have hgw := HOW1.out.lt.2
      obtain ⟨x1, H1, hx1, ho1, hn1, hs1, back1⟩ := rowAt_markR HOW1.out T1.out
      rw [E1.out] at back1
      obtain rfl : .slice A1 xs[j].su.length c1 = x1 := Option.some.inj ((hz1).symm.trans hx1)
      have HO1 := Lib.hid ho1
      have BK1 := Lib.hid back1
      have HS1 := Lib.hid hs1
      clear hx1 ho1 hs1 back1
      go_wp2_with fail
      clear hf hgw hz1
      refine (markIntSS_t (Q + (trSt xs[j].st).cnt) B xs[j].su _ H1 _ (by exact HO1.out) hn1 (by omega) (by omega)).mono ?_
      rintro e w1_ ⟨K1, rfl, o, h, hs, hw⟩
      obtain ⟨G1, m1, ms1, mw1⟩ := BK1.out _ K1 o h hs hw
      have HOW2 := Lib.hid m1
      have HSUB2 := Lib.hid (fun x hx => HSUB1.out x (ms1 x hx))
      have HWR2 := Lib.hid (HWR1.out.trans (mw1.sub (fun x hx => HSUB1.out x hx)))
      clear m1 ms1 mw1 HOW1 HSUB1 HWR1 o h hs hw hn1 HO1 BK1 HS1
      have HF := Lib.hid (show RowAt _ B 103 2 xs.length g cap (mixC k (xs.flatMap cellsR) ((j + 1) * 2)) _ from by rw [HN_.out]; exact HOW2.out)
      have HC := Lib.hid (show k + cntL ((xs.flatMap cellsR).take ((j + 1) * 2)) = Q + (trSt xs[j].st).cnt + (trSu xs[j].su).cnt from by rw [HN_.out]; exact E2.out)
      go_wp2
      go_roundw
      case rel => exact ⟨j + 1, by omega, by go_num, by rw [HC.out]; rfl, ⟨_, HF.out, HSUB2.out⟩, HWR2.out⟩
      case measure => simp [intOf]; omega
    · have hge : ¬ (j : Int) < (xs.length : Int) := by omega
      obtain rfl : j = xs.length := by omega
      have hfl := flatMap_len cellsR_len xs
      rw [mixC_full k _ (by omega)] at how
      rw [List.take_of_length_le (by omega)]
      have HW := Lib.hid how
      have HB := Lib.hid hwr
      have HS := Lib.hid hsub
      clear how hwr hsub hfl
      go_wp2
      go_ret
      first | exact ⟨rfl, F1, HW.out.1, HW.out.2, HS.out, HB.out⟩ | exact ⟨F1, rfl, HW.out.1, HW.out.2, HS.out, HB.out⟩

end Go.Proofs.YtaglfdkeomjpdaaGreat
