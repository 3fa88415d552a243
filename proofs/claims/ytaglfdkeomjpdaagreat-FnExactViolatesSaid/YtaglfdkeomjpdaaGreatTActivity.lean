/- DERIVED. CONTRACTS of the laws' helpers over Activity and slices of it, by trees. -/
import Derived.Test.YtaglfdkeomjpdaaGreatDats
import Derived.Test.YtaglfdkeomjpdaaGreatTMode
import Derived.Test.YtaglfdkeomjpdaaGreatModT
import Derived.Deep.RegionWith
import Derived.Deep.RegionHeld3
namespace Go.Proofs.YtaglfdkeomjpdaaGreat
open Go.RowKit
set_option linter.unusedVariables false

theorem thin_ActivityL (d : Ac) : thinL (cellsA d) := ⟨trivial, trivial, thin_ModeS _, trivial⟩
theorem thin_ActivityS (xs : List Ac) : (trAs xs).thins := thin_rows cellsA_len (by omega) thin_ActivityL xs

set_option maxRecDepth 100000 in
set_option maxHeartbeats 1000000 in
theorem szActivity_t (d : Ac) (v : Value) (left : Int) (w : World) (hr : (trA d).rd w v) (hk : (trA d).ok) (h0 : 0 ≤ left) (h3 : left ≤ 1048576) :
    Calls Tryz.prog 56 #[v, .int .i64 left] w fun e w' => e = .returned (.int .i64 (if left < (trA d).sz then -1 else left - (trA d).sz)) ∧ Below w.heap.size w w' := by
  obtain ⟨A2, c2, rfl, r2⟩ := rdActivity_t hr
  clear hr
  obtain ⟨k0, k1, k2, _⟩ := hk
  have R2 := Lib.hid r2
  have K2 := Lib.hid k2
  clear r2 k2
  have k0 : d.nm.size ≤ maxLen := k0
  unfold maxLen at k0
  clear k1
  have HZ := Lib.hid (show (trA d).sz = d.nm.size + (0 + ((trMs d.ms).sz + 0)) from rfl)
  generalize (trA d).sz = Z at HZ ⊢
  generalize hz2 : (trMs d.ms).sz = z2 at HZ
  have Z2 := Lib.hid hz2
  clear hz2
  generalize hres : (if left < (Z : Int) then -1 else left - (Z : Int)) = res
  have RES := Lib.hid hres
  clear hres
  have S0 := Lib.hid ((Sn.start w).box 90 [.string d.nm, .int .i64 d.fa, .slice A2 d.ms.length c2])
  by_cases hb0 : left < (d.nm.size : Int)
  · have hb0' : left - (d.nm.size : Int) < 0 := by omega
    go_enter Tryz.func56, Tryz.ntmps56
    go_wp2
    go_ret
    exact ⟨ret_numZ (by rw [← RES.out, if_pos (by have := HZ.out; omega)]), S0.out.1⟩
  have hb0' : ¬ left - (d.nm.size : Int) < 0 := by omega
  have hq0 : 0 ≤ left - (d.nm.size : Int) := by omega
  go_enter Tryz.func56, Tryz.ntmps56
  go_wp2_with fail
  refine (szModeS_t d.ms _ _ _ (by exact S0.out.old R2.out) K2.out (by omega) (by omega)).mono ?_
  rintro e w1 ⟨rfl, b⟩
  rw [Z2.out]
  have S1 := Lib.hid (S0.out.go b)
  clear S0 b
  by_cases hb2 : left - (d.nm.size : Int) < (z2 : Int)
  · rw [if_pos hb2]
    go_wp2
    go_ret
    exact ⟨ret_numZ (by rw [← RES.out, if_pos (by have := HZ.out; omega)]), S1.out.1⟩
  rw [if_neg hb2]
  have hq2 : 0 ≤ left - (d.nm.size : Int) - (z2 : Int) := by omega
  go_wp2
  go_ret
  exact ⟨ret_numZ (by rw [← RES.out, if_neg (by have := HZ.out; omega)]; have := HZ.out; omega), S1.out.1⟩

set_option maxRecDepth 100000 in
set_option maxHeartbeats 1000000 in
theorem szActivityS_t (xs : List Ac) (v : Value) (left : Int) (w : World) (hr : (trAs xs).rd w v) (hk : (trAs xs).ok) (h0 : 0 ≤ left) (h3 : left ≤ 1048576) :
    Calls Tryz.prog 27 #[v, .int .i64 left] w fun e w' => e = .returned (.int .i64 (if left < (trAs xs).sz then -1 else left - (trAs xs).sz)) ∧ Below w.heap.size w w' := by
  obtain ⟨hl, A, c, rfl, ga⟩ := rdActivityS_t hr
  have GA := Lib.hid ga
  clear ga hr
  have HZ := Lib.hid (show (trAs xs).sz = xs.length + szL (xs.flatMap cellsA) from rfl)
  generalize (trAs xs).sz = Z at HZ ⊢
  generalize hres : (if left < (Z : Int) then -1 else left - (Z : Int)) = res
  have RES := Lib.hid hres
  clear hres
  by_cases hn : left < (xs.length : Int)
  · have hn' : left - (xs.length : Int) < 0 := by omega
    go_enter Tryz.func27, Tryz.ntmps27
    go_wp2
    go_ret
    exact ⟨ret_numZ (by rw [← RES.out, if_pos (by have := HZ.out; omega)]), Below.refl _ _⟩
  have hn' : ¬ left - (xs.length : Int) < 0 := by omega
  have hn2 : (xs.length : Int) ≤ 1048576 := by omega
  have KL := Lib.hid (okL_flat (f := cellsA) (xs := xs) hk)
  clear hk
  go_enter Tryz.func27, Tryz.ntmps27
  go_wp2
  go_loopw [1, 5] (fun q i wr => ∃ k : Nat, k ≤ xs.length ∧ i = .int .i64 k ∧ q = .int .i64 (left - xs.length - (szL ((xs.take k).flatMap cellsA) : Nat)) ∧ 0 ≤ left - xs.length - (szL ((xs.take k).flatMap cellsA) : Nat) ∧ Below w.heap.size w wr) (fun _ i _ => xs.length - (intOf i).toNat)
  case atStart => exact ⟨0, Nat.zero_le _, rfl, by simp [szL], by simp [szL]; omega, Below.refl _ _⟩
  case round =>
    obtain ⟨k, hk, rfl, rfl, hq, hbel⟩ := hrel
    by_cases hlt : k < xs.length
    · have hlt' : (k : Int) < (xs.length : Int) := by omega
      obtain ⟨b, o, rfl, hb, hc⟩ := GA.out k hlt
      obtain ⟨A2, c2, hc0, hc1, hc2, r2⟩ := hc k hlt
      have hx0 := (hbel.cell (p := ⟨b, o + k * 3, none⟩) hb).trans hc0
      have hx1 := (hbel.cell (p := ⟨b, o + k * 3 + 1, none⟩) hb).trans hc1
      have hx2 := (hbel.cell (p := ⟨b, o + k * 3 + 2, none⟩) hb).trans hc2
      have HM := Lib.hid (mk_rdActivity_t (d := xs[k]) (Tr.rd_below hbel (Nat.le_refl _) _ _ r2))
      clear hc hc0 hc1 hc2 r2
      have HT := Lib.hid (szL_flat (f := cellsA) hlt)
      have HLE := szL_flat_le (f := cellsA) xs (k + 1)
      have HSZ := Lib.hid (show (trA xs[k]).sz = szL (cellsA xs[k]) from rfl)
      have HKK := Lib.hid (KL.out _ (List.getElem_mem hlt))
      have HK := Lib.hid (show (trA xs[k]).ok from HKK.out)
      clear HKK
      generalize szL (cellsA xs[k]) = ze at HT HSZ
      generalize xs[k] = m at hx0 hx1 hx2 HM HK HSZ
      have HB := Lib.hid hbel
      clear hbel
      generalize hQ : left - (xs.length : Int) - (szL ((xs.take k).flatMap cellsA) : Nat) = Q at hq ⊢
      have HQ := Lib.hid hQ
      have hq2 : Q ≤ 1048576 := by omega
      clear hQ
      go_wp2_with fail
      refine (szActivity_t m _ _ _ (by exact HM.out) HK.out hq hq2).mono ?_
      rintro e w1 ⟨rfl, hb1⟩
      rw [HSZ.out]
      all_goals
        have HB1 := Lib.hid (HB.out.trans (hb1.mono HB.out.size))
        clear hb1
        by_cases hs : Q < (ze : Int)
        · rw [if_pos hs]
          go_wp2
          go_ret
          exact ⟨ret_numZ (by rw [← RES.out, if_pos (by have := HZ.out; have := HT.out; have := HQ.out; omega)]), HB1.out⟩
        · rw [if_neg hs]
          have hs' : 0 ≤ Q - (ze : Int) := by omega
          go_wp2
          go_roundw
          case rel => exact ⟨k + 1, by omega, by go_num, by have := HT.out; have := HQ.out; congr 1; omega, by have := HT.out; have := HQ.out; omega, HB1.out⟩
          case measure => simp [intOf]; omega
    · have hge : ¬ (k : Int) < (xs.length : Int) := by omega
      obtain rfl : k = xs.length := by omega
      rw [List.take_length] at hq ⊢
      have HB := Lib.hid hbel
      clear hbel
      go_wp2
      go_ret
      exact ⟨ret_numZ (by rw [← RES.out, if_neg (by have := HZ.out; omega)]; have := HZ.out; omega), HB.out⟩

set_option maxRecDepth 100000 in
set_option maxHeartbeats 1000000 in
theorem eqActivity_t (d : Ac) (v u : Value) (w : World) (hv : (trA d).rd w v) (hu : (trA d).rd w u) :
    Calls Tryz.prog 65 #[v, u] w fun e w' => e = .returned (.bool true) ∧ Below w.heap.size w w' := by
  obtain ⟨A2, c2, rfl, r2⟩ := rdActivity_t hv
  obtain ⟨B2, b2, rfl, s2⟩ := rdActivity_t hu
  clear hv hu
  have R2 := Lib.hid r2
  have Q2 := Lib.hid s2
  clear r2 s2
  have S0 := Lib.hid (((Sn.start w).box 98 [.string d.nm, .int .i64 d.fa, .slice A2 d.ms.length c2]).box 98 [.string d.nm, .int .i64 d.fa, .slice B2 d.ms.length b2])
  simp only [World.size_alloc] at S0
  go_enter Tryz.func65, Tryz.ntmps65
  go_wp2_with fail
  refine (eqModeS_t d.ms _ _ _ (by exact S0.out.old R2.out) (by exact S0.out.old Q2.out)).mono ?_
  rintro e w1 ⟨rfl, b⟩
  have S1 := Lib.hid (S0.out.go b)
  clear S0 b
  go_wp2
  go_ret
  exact ⟨rfl, S1.out.1⟩

set_option maxRecDepth 100000 in
set_option maxHeartbeats 1000000 in
theorem eqActivityS_t (xs : List Ac) (v u : Value) (w : World) (hv : (trAs xs).rd w v) (hu : (trAs xs).rd w u) :
    Calls Tryz.prog 39 #[v, u] w fun e w' => e = .returned (.bool true) ∧ Below w.heap.size w w' := by
  obtain ⟨hl, A, c, rfl, ga⟩ := rdActivityS_t hv
  obtain ⟨_, B, c2, rfl, gb⟩ := rdActivityS_t hu
  have GA := Lib.hid ga
  have GB := Lib.hid gb
  clear ga gb hv hu
  go_enter Tryz.func39, Tryz.ntmps39
  go_wp2
  go_loopw [5] (fun i wr => ∃ k : Nat, k ≤ xs.length ∧ i = .int .i64 k ∧ Below w.heap.size w wr) (fun i _ => xs.length - (intOf i).toNat)
  case atStart => exact ⟨0, Nat.zero_le _, rfl, Below.refl _ _⟩
  case round =>
    obtain ⟨k, hk, rfl, hbel⟩ := hrel
    by_cases hlt : k < xs.length
    · have hlt' : (k : Int) < (xs.length : Int) := by omega
      obtain ⟨b1, o1, rfl, hb1, hc⟩ := GA.out k hlt
      obtain ⟨b2, o2, rfl, hb2, hd⟩ := GB.out k hlt
      obtain ⟨A2, c2, hc0, hc1, hc2, r2⟩ := hc k hlt
      obtain ⟨B2, d2, hd0, hd1, hd2, s2⟩ := hd k hlt
      have hx0 := (hbel.cell (p := ⟨b1, o1 + k * 3, none⟩) hb1).trans hc0
      have hx1 := (hbel.cell (p := ⟨b1, o1 + k * 3 + 1, none⟩) hb1).trans hc1
      have hx2 := (hbel.cell (p := ⟨b1, o1 + k * 3 + 2, none⟩) hb1).trans hc2
      have hy0 := (hbel.cell (p := ⟨b2, o2 + k * 3, none⟩) hb2).trans hd0
      have hy1 := (hbel.cell (p := ⟨b2, o2 + k * 3 + 1, none⟩) hb2).trans hd1
      have hy2 := (hbel.cell (p := ⟨b2, o2 + k * 3 + 2, none⟩) hb2).trans hd2
      have HM := Lib.hid (mk_rdActivity_t (w := wr.drew) (d := xs[k]) (Tr.rd_below hbel.drew (Nat.le_refl _) _ _ r2))
      have HN := Lib.hid (mk_rdActivity_t (w := wr.drew) (d := xs[k]) (Tr.rd_below hbel.drew (Nat.le_refl _) _ _ s2))
      clear hc hd hc0 hd0 hc1 hd1 hc2 hd2 r2 s2
      have HB := Lib.hid hbel
      clear hbel
      generalize xs[k] = m at hx0 hy0 hx1 hy1 hx2 hy2 HM HN
      go_wp2
      go_region_with (go_at_call 65; refine (eqActivity_t m _ _ _ (by exact HM.out) (by exact HN.out)).mono ?_; rintro e w1 ⟨rfl, hb3⟩)
      all_goals
        go_wp2
        go_roundw
        case rel => exact ⟨k + 1, by omega, by go_num, HB.out.drew.trans (hb3.mono HB.out.size)⟩
        case measure => simp [intOf]; omega
    · have hge : ¬ (k : Int) < (xs.length : Int) := by omega
      have HB := Lib.hid hbel
      clear hbel
      go_wp2
      go_ret
      exact ⟨rfl, HB.out⟩

set_option maxRecDepth 100000 in
set_option maxHeartbeats 1000000 in
theorem toActivity_t (d : Ac) (v : Value) (w : World) (hv : (trA d).rd w v) (hl : (trA d).sz ≤ 1073741824) :
    Calls Tryz.prog 61 #[v] w fun e w' => ∃ u F, e = .returned u ∧ (trA d).own w' w.heap.size u F ∧ F.Nodup ∧ Below w.heap.size w w' := by
  obtain ⟨A2, c2, rfl, r2⟩ := rdActivity_t hv
  clear hv
  have R2 := Lib.hid r2
  clear r2
  have hz : (trA d).sz = d.nm.size + (0 + ((trMs d.ms).sz + 0)) := rfl
  have hl2 : (trMs d.ms).sz ≤ 1073741824 := by omega
  clear hz hl
  have S0 := Lib.hid ((((Sn.start w).box 90 [.string d.nm, .int .i64 d.fa, .slice A2 d.ms.length c2]).box 98 [.string ⟨#[]⟩, .int .i64 0, .slice none 0 0]).box 98 [.string d.nm, .int .i64 d.fa, .slice none 0 0])
  simp only [World.size_alloc] at S0
  go_enter Tryz.func61, Tryz.ntmps61
  go_wp2_with fail
  refine (toModeS_t d.ms _ _ (by exact S0.out.old R2.out) hl2).mono ?_
  rintro e w1 ⟨u2, F2, rfl, o, h, b⟩
  obtain ⟨U2, n2, rfl⟩ := rows_slice (Tr.own_rd _ _ _ o)
  have S1 := Lib.hid (S0.out.new o h b)
  clear S0 o h b
  obtain ⟨e0, e1, e2, ef⟩ := (S1.out.bk 3 rfl).c3
  obtain ⟨g0, g1, g2, gf⟩ := (S1.out.bk 1 rfl).c3
  obtain ⟨z0, z1, z2, zf⟩ := (S1.out.bk 2 rfl).c3
  go_wp2
  clear e0 e1 e2 ef g0 g1 g2 gf
  have SZ := (((S1.out.boxSet 1 rfl 2 (.slice U2 d.ms.length n2)).boxSet 2 rfl 0 (.string d.nm)).boxSet 2 rfl 1 (.int .i64 d.fa)).boxSet 2 rfl 2 (.slice U2 d.ms.length n2)
  have P := SZ.nil0
  have P := (P.pick 1 rfl).pack
  have P := P.pack1 (.int .i64 d.fa)
  have P := P.pack1 (.string d.nm)
  refine bodyPost_ret (v := .agg #[.string d.nm, .int .i64 d.fa, .slice U2 d.ms.length n2]) (by simp [results, Tryz.results61, go_sem, z0, z1, z2]) rfl ⟨_, _, rfl, (P.own 0 rfl).1, (P.own 0 rfl).2, P.1⟩

theorem infoActivity_t : (Tryz.prog.info? 98).map (fun i => (i.zero, i.size, i.bytes)) = some (some (.agg #[.string ⟨#[]⟩, .int .i64 0, .slice none 0 0]), 3, 48) := by kernel_rfl

set_option maxRecDepth 100000 in
set_option maxHeartbeats 1000000 in
theorem toActivityS_t (xs : List Ac) (v : Value) (w : World) (hv : (trAs xs).rd w v) (hl : (trAs xs).sz ≤ 1073741824) :
    Calls Tryz.prog 34 #[v] w fun e w' => ∃ u F, e = .returned u ∧ (trAs xs).own w' w.heap.size u F ∧ F.Nodup ∧ Below w.heap.size w w' := by
  obtain ⟨hla, A, c, rfl, ga⟩ := rdActivityS_t hv
  have GA := Lib.hid ga
  clear ga hv
  have hsz : (trAs xs).sz = xs.length + szL (xs.flatMap cellsA) := rfl
  rw [hsz] at hl
  clear hsz
  obtain ⟨i0, hi, hz0, hz1, hz2⟩ := info_parts infoActivity_t
  go_enter Tryz.func34, Tryz.ntmps34
  go_wp2_with (at_make; refine wpList_make_full _ rfl _ _ 32 rfl w.heap.size 98 i0 (.agg #[.string ⟨#[]⟩, .int .i64 0, .slice none 0 0]) 3 Tryz.underlying32 hi hz0 hz1 .i64 .i64 _ _ xs.length rfl rfl rfl rfl (by rw [hz2]; omega) (by unfold maxLen; omega) (Nat.le_refl _) ?_; intro w1 hown1 hgrow1)
  have hbel1 : Below w.heap.size w w1 := (Below.refl _ _).grown hgrow1 (Nat.le_refl _) (by simp)
  have hm := hown1.1
  generalize hms : (madeCells _ (xs.length * 3)).toList = raw at hown1 hm
  have HM := Lib.hid hm
  have HO := Lib.hid hown1
  clear hm hms hgrow1 hown1
  go_loopw [4] (fun i wr => ∃ k : Nat, k ≤ xs.length ∧ i = .int .i64 k ∧ (∃ F, RowAt wr w.heap.size 98 3 xs.length w.heap.size xs.length (mixR cellsA 3 raw xs k) F) ∧ Below w.heap.size w wr) (fun i _ => xs.length - (intOf i).toNat)
  case atStart => exact ⟨0, Nat.zero_le _, rfl, ⟨_, by rw [mixR_zero]; exact row_made HO.out⟩, hbel1⟩
  case round =>
    obtain ⟨k, hk, rfl, ⟨F, how⟩, hbel⟩ := hrel
    by_cases hlt : k < xs.length
    · have hlt' : (k : Int) < (xs.length : Int) := by omega
      obtain ⟨b, o, rfl, hb, hc⟩ := GA.out k hlt
      obtain ⟨A2, c2, hc0, hc1, hc2, r2⟩ := hc k hlt
      have hx0 := (hbel.cell (p := ⟨b, o + k * 3, none⟩) hb).trans hc0
      have hx1 := (hbel.cell (p := ⟨b, o + k * 3 + 1, none⟩) hb).trans hc1
      have hx2 := (hbel.cell (p := ⟨b, o + k * 3 + 2, none⟩) hb).trans hc2
      have hse := szL_flat_at (f := cellsA) hlt
      have HRD := Lib.hid (mk_rdActivity_t (w := wr) (d := xs[k]) (Tr.rd_below hbel (Nat.le_refl _) _ _ r2))
      have hle : (trA xs[k]).sz ≤ 1073741824 := by
        have : (trA xs[k]).sz = szL (cellsA xs[k]) := rfl
        omega
      have HST := Lib.hid (mixR_set cellsA_len HM.out hlt)
      have HLEN := Lib.hid (mixR_len cellsA_len HM.out hk)
      clear hc hse hc0 hc1 hc2 r2
      generalize xs[k] = m at hx0 hx1 hx2 HRD HST hle
      have HB := Lib.hid hbel
      have HW := Lib.hid how
      clear hbel how
      go_wp2_with fail
      refine (toActivity_t m _ _ HRD.out hle).mono ?_
      rintro e w2 ⟨u, H, rfl, ho, hn, hb2⟩
      obtain ⟨U2, n2, rfl, _⟩ := rdActivity_t (Tr.own_rd _ _ _ ho)
      have how2 := HW.out.below hb2 (Nat.le_refl _)
      have hcl : (mixR cellsA 3 raw xs k).length = xs.length * 3 := HLEN.out
      obtain ⟨y0, hy0⟩ := how2.some (i := k * 3) (by omega)
      obtain ⟨y1, hy1⟩ := how2.some (i := k * 3 + 1) (by omega)
      obtain ⟨y2, hy2⟩ := how2.some (i := k * 3 + 2) (by omega)
      have hf := how2.frozen
      have hgw := how2.lt.2
      have hw0 := HW.out.lt.2
      obtain ⟨vs, hvs, hoL⟩ := ho
      obtain rfl : vs = [.string m.nm, .int .i64 m.fa, .slice U2 m.ms.length n2] := by
        injection hvs with hvs
        exact (congrArg Array.toList hvs).symm
      obtain ⟨F', hp, _⟩ := RowAt.putL (K := wr.heap.size) HB.out.size hw0 (cellsA m) _ w2 _ F H (k * 3) how2 (by rw [cellsA_len]; omega) hoL hn (fun j hj hj2 => by
        have h1 := (ownL_lt _ _ _ hoL j hj).1
        have h2 := (HW.out.allLt j hj2).2
        omega)
      rw [HST.out] at hp
      have HP := Lib.hid hp
      have HBZ := Lib.hid (setL_below (Nat.le_refl _) [.string m.nm, .int .i64 m.fa, .slice U2 m.ms.length n2] w2 (k * 3) (HB.out.trans (hb2.mono HB.out.size)))
      clear hp hoL how2 hb2 hn hcl hvs
      go_wp2
      go_roundw
      case rel => exact ⟨k + 1, by omega, by go_num, ⟨F', HP.out⟩, HBZ.out⟩
      case measure => simp [intOf]; omega
    · have hge : ¬ (k : Int) < (xs.length : Int) := by omega
      obtain rfl : k = xs.length := by omega
      rw [mixR_full HM.out] at how
      have HW := Lib.hid how
      have HB := Lib.hid hbel
      clear how hbel
      go_wp2
      go_ret
      exact ⟨_, rfl, F, HW.out.1, HW.out.2, HB.out⟩

set_option maxRecDepth 100000 in
set_option maxHeartbeats 2000000 in
theorem markActivityS_t (k B : Nat) (xs : List Ac) (v : Value) (F : List Nat) (w : World) (hown : (trAs xs).own w B v F) (hn : F.Nodup) (h0 : 0 < k) (hk : k + (trAs xs).cnt ≤ 1000000000) :
    Calls Tryz.prog 51 #[v, .int .i64 k] w fun e w' => ∃ F', e = .returned (.int .i64 (k + (trAs xs).cnt : Nat)) ∧ ((trAs xs).mkd k).own w' B v F' ∧ F'.Nodup ∧ (∀ x ∈ F', x ∈ F) ∧ Wr F w w' := by
  rcases own_form hown with ⟨rfl, hl⟩ | ⟨g, cap, rfl, hcap, hmx⟩
  · obtain rfl : xs = [] := List.eq_nil_of_length_eq_zero hl
    have HO := Lib.hid hown
    have HN := Lib.hid hn
    clear hown hn hl
    go_enter Tryz.func51, Tryz.ntmps51
    go_wp2
    refine wp_loop_rounds 1 ?_
    rw [rounds_succ]
    go_wp2
    go_ret
    first | exact ⟨rfl, F, HO.out, HN.out, fun _ h => h, Wr.refl _ _⟩ | exact ⟨F, rfl, HO.out, HN.out, fun _ h => h, Wr.refl _ _⟩
  have HO := Lib.hid (show RowAt w B 98 3 xs.length g cap (xs.flatMap cellsA) F from ⟨hown, hn⟩)
  clear hown hn
  have hC : (trAs xs).cnt = cntL (xs.flatMap cellsA) := rfl
  rw [hC] at hk ⊢
  clear hC
  go_enter Tryz.func51, Tryz.ntmps51
  go_wp2
  go_loopw [1, 5] (fun q i wr => ∃ j : Nat, j ≤ xs.length ∧ i = .int .i64 j ∧ q = .int .i64 (k + cntL ((xs.flatMap cellsA).take (j * 3)) : Nat) ∧ (∃ F', RowAt wr B 98 3 xs.length g cap (mixC k (xs.flatMap cellsA) (j * 3)) F' ∧ ∀ x ∈ F', x ∈ F) ∧ Wr F w wr) (fun _ i _ => xs.length - (intOf i).toNat)
  case atStart => exact ⟨0, Nat.zero_le _, rfl, by simp [cntL], ⟨F, by rw [Nat.zero_mul]; rw [mixC_zero]; exact HO.out, fun _ h => h⟩, Wr.refl _ _⟩
  case round =>
    obtain ⟨j, hj, rfl, rfl, ⟨F1, how, hsub⟩, hwr⟩ := hrel
    by_cases hlt : j < xs.length
    · have hlt' : (j : Int) < (xs.length : Int) := by omega
      have t0 : (xs.flatMap cellsA)[j * 3]? = some (.one (.string xs[j].nm)) := by simpa [cellsA] using flatMap_get cellsA_len xs j hlt 0 (by omega)
      have a0 : cntL ((xs.flatMap cellsA).take (j * 3 + 1)) = cntL ((xs.flatMap cellsA).take (j * 3)) + 1 := cntL_take t0
      have t1 : (xs.flatMap cellsA)[j * 3 + 1]? = some (.one (.int .i64 xs[j].fa)) := by simpa [cellsA] using flatMap_get cellsA_len xs j hlt 1 (by omega)
      have a1 : cntL ((xs.flatMap cellsA).take (j * 3 + 2)) = cntL ((xs.flatMap cellsA).take (j * 3 + 1)) + 1 := cntL_take t1
      have t2 : (xs.flatMap cellsA)[j * 3 + 2]? = some (trMs xs[j].ms) := by simpa [cellsA] using flatMap_get cellsA_len xs j hlt 2 (by omega)
      have a2 : cntL ((xs.flatMap cellsA).take (j * 3 + 3)) = cntL ((xs.flatMap cellsA).take (j * 3 + 2)) + (trMs xs[j].ms).cnt := cntL_take t2
      have hle := cntL_le (xs.flatMap cellsA) (j * 3 + 3)
      generalize hQ : k + cntL ((xs.flatMap cellsA).take (j * 3)) = Q
      have e0 : k + cntL ((xs.flatMap cellsA).take (j * 3)) = Q := by omega
      have e1 : k + cntL ((xs.flatMap cellsA).take (j * 3 + 1)) = Q + 1 := by omega
      have e2 : k + cntL ((xs.flatMap cellsA).take (j * 3 + 2)) = Q + 1 + 1 := by omega
      have e3 : k + cntL ((xs.flatMap cellsA).take (j * 3 + 3)) = Q + 1 + 1 + (trMs xs[j].ms).cnt := by omega
      have hbd : Q + 1 + 1 + (trMs xs[j].ms).cnt ≤ 1000000000 := by omega
      have hQ0 : 0 < Q := by omega
      clear hle a0 a1 a2
      have T0 := Lib.hid t0
      clear t0
      have T1 := Lib.hid t1
      clear t1
      have T2 := Lib.hid t2
      clear t2
      have E0 := Lib.hid e0
      clear e0
      have E1 := Lib.hid e1
      clear e1
      have E2 := Lib.hid e2
      clear e2
      have E3 := Lib.hid e3
      clear e3
      have HQ := Lib.hid hQ
      clear hQ
      have hlen := how.len
      rw [mixC_len] at hlen
      have hjs : j * 3 + 3 ≤ xs.length * 3 := by omega
      have HN_ := Lib.hid (show ((j + 1) * 3 = j * 3 + 3) from by omega)
      have HOW0 := Lib.hid how
      have HSUB0 := Lib.hid hsub
      have HWR0 := Lib.hid hwr
      clear how hsub hwr
      obtain ⟨z0, hz0⟩ := HOW0.out.some (i := j * 3) (by rw [mixC_len]; omega)
      obtain ⟨z1, hz1⟩ := HOW0.out.some (i := j * 3 + 1) (by rw [mixC_len]; omega)
      obtain ⟨x2, hz2, hr2⟩ := rowAt_peek HOW0.out (i := j * 3 + 2) (by omega) T2.out
      obtain ⟨A2, c2, rfl⟩ := rows_slice hr2
      clear hr2
      have hf := HOW0.out.frozen
      have hgw := HOW0.out.lt.2
      go_wp2_with fail
      clear hf hgw hz0 hz1 hz2
      refine (markText_any (Q) _ (by omega) (by omega)).mono ?_
      rintro e ws0 ⟨rfl, b⟩
      have HOW1 := Lib.hid (HOW0.out.below b (Nat.le_refl _))
      have HSUB1 := HSUB0
      have HWR1 := Lib.hid (HWR0.out.trans (Wr.of_below b (Nat.le_refl _)))
      clear HOW0 HWR0 HSUB0 b
      obtain ⟨z0, hz0⟩ := HOW1.out.some (i := j * 3) (by rw [mixC_len]; omega)
      obtain ⟨z1, hz1⟩ := HOW1.out.some (i := j * 3 + 1) (by rw [mixC_len]; omega)
      obtain ⟨x2, hz2, hr2⟩ := rowAt_peek HOW1.out (i := j * 3 + 2) (by omega) T2.out
      obtain ⟨A2, c2, rfl⟩ := rows_slice hr2
      clear hr2
      have hf := HOW1.out.frozen
      have hgw := HOW1.out.lt.2
      obtain ⟨G0, m0, ms0, mw0⟩ := rowAt_mark1 HOW1.out T0.out (y := .string (mtxt (Q))) (by show Value.string (mtxt (k + cntL _)) = _; rw [E0.out])
      have HOW2 := Lib.hid m0
      have HSUB2 := Lib.hid (fun x hx => HSUB1.out x (ms0 x hx))
      have HWR2 := Lib.hid (HWR1.out.trans (mw0.sub (fun x hx => HSUB1.out x hx)))
      clear m0 ms0 mw0 HOW1 HSUB1 HWR1
      obtain ⟨G1, m1, ms1, mw1⟩ := rowAt_mark1 HOW2.out T1.out (y := .int .i64 ((Q + 1 : Nat) : Int)) (by show Value.int .i64 ((k + cntL _ : Nat) : Int) = _; rw [E1.out])
      have HOW3 := Lib.hid m1
      have HSUB3 := Lib.hid (fun x hx => HSUB2.out x (ms1 x hx))
      have HWR3 := Lib.hid (HWR2.out.trans (mw1.sub (fun x hx => HSUB2.out x hx)))
      clear m1 ms1 mw1 HOW2 HSUB2 HWR2
      obtain ⟨x2, H2, hx2, ho2, hn2, hs2, back2⟩ := rowAt_markR HOW3.out T2.out
      rw [E2.out] at back2
      obtain rfl : .slice A2 xs[j].ms.length c2 = x2 := Option.some.inj (((cell_set1 (by omega)).trans ((cell_set1 (by omega)).trans (hz2))).symm.trans hx2)
      have HO2 := Lib.hid ho2
      have BK2 := Lib.hid back2
      have HS2 := Lib.hid hs2
      clear hx2 ho2 hs2 back2
      go_wp2_with fail
      clear hf hgw hz0 hz1 hz2
      refine (markModeS_t (Q + 1 + 1) B xs[j].ms _ H2 _ (by exact HO2.out) hn2 (by omega) (by omega)).mono ?_
      rintro e w2_ ⟨K2, rfl, o, h, hs, hw⟩
      obtain ⟨G2, m2, ms2, mw2⟩ := BK2.out _ K2 o h hs hw
      have HOW4 := Lib.hid m2
      have HSUB4 := Lib.hid (fun x hx => HSUB3.out x (ms2 x hx))
      have HWR4 := Lib.hid (HWR3.out.trans (mw2.sub (fun x hx => HSUB3.out x hx)))
      clear m2 ms2 mw2 HOW3 HSUB3 HWR3 o h hs hw hn2 HO2 BK2 HS2
      have HF := Lib.hid (show RowAt _ B 98 3 xs.length g cap (mixC k (xs.flatMap cellsA) ((j + 1) * 3)) _ from by rw [HN_.out]; exact HOW4.out)
      have HC := Lib.hid (show k + cntL ((xs.flatMap cellsA).take ((j + 1) * 3)) = Q + 1 + 1 + (trMs xs[j].ms).cnt from by rw [HN_.out]; exact E3.out)
      go_wp2
      go_roundw
      case rel => exact ⟨j + 1, by omega, by go_num, by rw [HC.out]; rfl, ⟨_, HF.out, HSUB4.out⟩, HWR4.out⟩
      case measure => simp [intOf]; omega
    · have hge : ¬ (j : Int) < (xs.length : Int) := by omega
      obtain rfl : j = xs.length := by omega
      have hfl := flatMap_len cellsA_len xs
      rw [mixC_full k _ (by omega)] at how
      rw [List.take_of_length_le (by omega)]
      have HW := Lib.hid how
      have HB := Lib.hid hwr
      have HS := Lib.hid hsub
      clear how hwr hsub hfl
      go_wp2
      go_ret
      first | exact ⟨rfl, F1, HW.out.1, HW.out.2, HS.out, HB.out⟩ | exact ⟨F1, rfl, HW.out.1, HW.out.2, HS.out, HB.out⟩

end Go.Proofs.YtaglfdkeomjpdaaGreat
