/- DERIVED. The walk of the law FnExactNegatedDomain, by contracts. -/
import Derived.Test.YtgbpomakomddjabGreatClG
import Derived.Test.YtgbpomakomddjabGreatClL
import Derived.Test.YtgbpomakomddjabGreatTPj
import Derived.Test.YtgbpomakomddjabGreatTFl
import Derived.Deep.RegionWith
import Derived.Deep.RegionHeld3
namespace Go.Proofs.YtgbpomakomddjabGreat
open Go.RowKit
set_option linter.unusedVariables false
set_option maxRecDepth 100000 in
set_option maxHeartbeats 4000000 in
theorem walkFnExactNegatedDomain (v0 : Value) (d0 : Pj) (v1 : Value) (d1 : List Lt) (w : World) (hr0 : (trPj d0).rd w v0) (hk0 : (trPj d0).ok) (hr1 : (trLts d1).rd w v1) (hk1 : (trLts d1).ok) :
    Calls Tryz.prog 4 #[v0, v1] w fun e w' => e = .returned (.bool true) ∧ Below w.heap.size w w' := by
  have HK0 := Lib.hid hk0
  have HR0 := Lib.hid hr0
  obtain ⟨U0_1, u0_1, U0_2, u0_2, U0_3, u0_3, U0_4, u0_4, rfl, _, _, _, _⟩ := rdProject_t hr0
  clear hk0 hr0
  have HK1 := Lib.hid hk1
  have HR1 := Lib.hid hr1
  obtain ⟨U1, u1, rfl⟩ := rows_slice hr1
  clear hk1 hr1
  have S0 := Lib.hid (Sn.start w)
  have S1 := Lib.hid (S0.out.box 27 [.int .i64 d0.dl, .slice U0_1 d0.acts.length u0_1, .slice U0_2 d0.lks.length u0_2, .slice U0_3 d0.ress.length u0_3, .slice U0_4 d0.stk.length u0_4])
  clear S0
  go_enter Tryz.func4, Tryz.ntmps4
  have hn0 : (trDm (negDm d0 d1)).sz ≤ 60 := negDm_sz _ _
  go_wp2_with fail
  refine (szProject_t d0 _ (1048576) _ (by exact S1.out.old HR0.out) HK0.out (by omega) (by omega)).mono ?_
  rintro e w2 ⟨rfl, b⟩
  have S2 := Lib.hid (S1.out.go b)
  clear S1 b
  generalize hz0 : (trPj d0).sz = z0
  have HZ0 := Lib.hid hz0
  clear hz0
  by_cases hbig0 : (1048576 : Int) < (z0 : Int)
  · rw [if_pos hbig0]
    go_wp2
    go_ret
    exact ⟨rfl, S2.out.1⟩
  rw [if_neg hbig0]
  have hq0 : 0 ≤ (1048576 - (z0 : Int) : Int) := by omega
  have hb0 : z0 ≤ 1048576 := by omega
  go_wp2_with fail
  refine (szLiteralS_t d1 _ (1048576 - (z0 : Int)) _ (by exact S2.out.old HR1.out) HK1.out (by omega) (by omega)).mono ?_
  rintro e w3 ⟨rfl, b⟩
  have S3 := Lib.hid (S2.out.go b)
  clear S2 b
  generalize hz1 : (trLts d1).sz = z1
  have HZ1 := Lib.hid hz1
  clear hz1
  by_cases hbig1 : (1048576 - (z0 : Int) : Int) < (z1 : Int)
  · rw [if_pos hbig1]
    go_wp2
    go_ret
    exact ⟨rfl, S3.out.1⟩
  rw [if_neg hbig1]
  have hq1 : 0 ≤ (1048576 - (z0 : Int) - (z1 : Int) : Int) := by omega
  have hb1 : z1 ≤ 1048576 := by omega
  obtain ⟨c0, c1, c2, c3, c4, cf⟩ := (S3.out.bk 0 rfl).c5
  go_wp2_with fail
  clear c0 c1 c2 c3 c4 cf
  refine (toProject_t d0 _ _ (by exact S3.out.old HR0.out) (by have := HZ0.out; omega)).mono ?_
  rintro e w4 ⟨v4_, F4, rfl, o, h, b⟩
  have S4 := Lib.hid (S3.out.new o h b)
  clear S3 o h b
  go_wp2_with fail
  refine (toLiteralS_t d1 _ _ (by exact S4.out.old HR1.out) (by have := HZ1.out; omega)).mono ?_
  rintro e w5 ⟨v5_, F5, rfl, o, h, b⟩
  have S5 := Lib.hid (S4.out.new o h b)
  clear S4 o h b
  go_wp2_with fail
  refine (specNegatedDomain_any d0 d1 _ _ _ (by exact S5.out.rd 1 rfl) HK0.out (by exact S5.out.rd 0 rfl)).mono ?_
  rintro e w6 ⟨v6_, F6, rfl, o, h, b⟩
  obtain ⟨X6_0, x6_0, X6_1, x6_1, X6_2, x6_2, rfl, _, _, _⟩ := rdDomain_t (Tr.own_rd _ _ _ o)
  have S6 := Lib.hid ((S5.out.new o h b).box 45 [.slice X6_0 (negDm d0 d1).mn.length x6_0, .slice X6_1 (negDm d0 d1).mx.length x6_1, .slice X6_2 (negDm d0 d1).md.length x6_2])
  clear S5 o h b
  obtain ⟨c0, c1, c2, c3, c4, cf⟩ := (S6.out.bk 4 rfl).c5
  go_wp2_with fail
  clear c0 c1 c2 c3 c4 cf
  refine (toProject_t d0 _ _ (by exact S6.out.old HR0.out) (by have := HZ0.out; omega)).mono ?_
  rintro e w7 ⟨v7_, F7, rfl, o, h, b⟩
  obtain ⟨X7_1, x7_1, X7_2, x7_2, X7_3, x7_3, X7_4, x7_4, rfl, _, _, _, _⟩ := rdProject_t (Tr.own_rd _ _ _ o)
  have S7 := Lib.hid ((S6.out.new o h b).box 36 [.int .i64 d0.dl, .slice X7_1 d0.acts.length x7_1, .slice X7_2 d0.lks.length x7_2, .slice X7_3 d0.ress.length x7_3, .slice X7_4 d0.stk.length x7_4])
  clear S6 o h b
  go_wp2_with fail
  refine (toLiteralS_t d1 _ _ (by exact S7.out.old HR1.out) (by have := HZ1.out; omega)).mono ?_
  rintro e w8 ⟨v8_, F8, rfl, o, h, b⟩
  have S8 := Lib.hid (S7.out.new o h b)
  clear S7 o h b
  obtain ⟨x0, x1, x2, x3, x4, xf⟩ := (S8.out.bk 1 rfl).c5
  go_wp2_with fail
  clear x0 x1 x2 x3 x4 xf
  refine (implNegatedDomain_any d0 d1 _ _ _ (by exact S8.out.rd 2 rfl) HK0.out (by exact S8.out.rd 0 rfl)).mono ?_
  rintro e w9 ⟨v9_, F9, rfl, o, h, b⟩
  obtain ⟨X9_0, x9_0, X9_1, x9_1, X9_2, x9_2, rfl, _, _, _⟩ := rdDomain_t (Tr.own_rd _ _ _ o)
  have S9 := Lib.hid ((S8.out.new o h b).box 45 [.slice X9_0 (negDm d0 d1).mn.length x9_0, .slice X9_1 (negDm d0 d1).mx.length x9_1, .slice X9_2 (negDm d0 d1).md.length x9_2])
  clear S8 o h b
  obtain ⟨c0, c1, c2, cf⟩ := (S9.out.bk 0 rfl).c3
  obtain ⟨x0, x1, x2, xf⟩ := (S9.out.bk 5 rfl).c3
  go_wp2_with fail
  clear c0 c1 c2 cf x0 x1 x2 xf
  refine (eqDomain_t (negDm d0 d1) _ _ _ (by exact S9.out.rd 1 rfl) (by exact S9.out.rd 6 rfl)).mono ?_
  rintro e w10 ⟨rfl, b⟩
  have S10 := Lib.hid (S9.out.go b)
  clear S9 b
  obtain ⟨c0, c1, c2, c3, c4, cf⟩ := (S10.out.bk 3 rfl).c5
  obtain ⟨g0, g1, g2, g3, g4, gf⟩ := (S10.out.bk 9 rfl).c5
  have S11 := Lib.hid (S10.out.drew1)
  clear S10
  go_wp2_with fail
  go_region_with (first
    | (go_at_call 8; refine (toProject_t d0 _ _ (by exact S11.out.old HR0.out) (by have := HZ0.out; omega)).mono ?_; rintro e w12 ⟨v12_, F12, rfl, o, h, b⟩; have S12 := Lib.hid (S11.out.new o h b); obtain ⟨e0, e1, e2, e3, e4, ef⟩ := (S12.out.bk 4 rfl).c5; clear S11 o h b)
    | (go_at_call 11; refine (eqProject_t d0 _ _ _ (by exact S12.out.rd 5 rfl) (by exact S12.out.rd 0 rfl)).mono ?_; rintro e w13 ⟨rfl, b⟩; have S13 := Lib.hid (S12.out.go b); clear S12 b))
  all_goals
    clear c0 c1 c2 c3 c4 cf g0 g1 g2 g3 g4 gf
    try clear e0 e1 e2 e3 e4 ef
    go_wp2_with fail
    refine (toLiteralS_t d1 _ _ (by exact S13.out.old HR1.out) (by have := HZ1.out; omega)).mono ?_
    rintro e w14 ⟨v14_, F14, rfl, o, h, b⟩
    have S14 := Lib.hid (S13.out.new o h b)
    clear S13 o h b
    go_wp2_with fail
    refine (eqLiteralS_t (d1) _ _ _ (by exact S14.out.rd 4 rfl) (by exact S14.out.rd 0 rfl)).mono ?_
    rintro e w15 ⟨rfl, b⟩
    have S15 := Lib.hid (S14.out.go b)
    clear S14 b
    have hcnt0 : cntO (cellsPj d0) ≤ 8388608 := by
      have h1 := cntO_le (cellsPj d0) (thin_ProjectL d0)
      have h2 : (trPj d0).sz = szL (cellsPj d0) := rfl
      have h3 : (trPj d0).sz ≤ 1048576 := by have := HZ0.out; omega
      omega
    have hcnt1 : (trLts d1).cnt ≤ 8388608 := by
      have h1 : (trLts d1).cnt ≤ 8 * (trLts d1).sz := row_cnt_le (thin_LiteralS d1)
      have h3 : (trLts d1).sz ≤ 1048576 := by have := HZ1.out; omega
      exact Nat.le_trans h1 (by omega)
    obtain ⟨c0, c1, c2, c3, c4, cf⟩ := (S15.out.bk 5 rfl).c5
    go_wp2_with fail
    clear c0 c1 c2 c3 c4 cf
    refine (markProject_t (1) _ (d0) _ _ _ (by exact (S15.out.own 6 rfl).1) (by exact (S15.out.own 6 rfl).2) (by omega) (by omega)).mono ?_
    rintro e w16 ⟨F16, rfl, o, h, hs, g⟩
    have S16 := Lib.hid (S15.out.mark 6 rfl o h hs g)
    clear S15 o h hs g
    go_wp2_with fail
    refine (markLiteralS_t (1 + cntO (cellsPj d0)) _ (d1) _ _ _ (by exact (S16.out.own 4 rfl).1) (by exact (S16.out.own 4 rfl).2) (by omega) (by omega)).mono ?_
    rintro e w17 ⟨F17, rfl, o, h, hs, g⟩
    have S17 := Lib.hid (S16.out.mark 4 rfl o h hs g)
    clear S16 o h hs g
    obtain ⟨c0, c1, c2, cf⟩ := (S17.out.bk 2 rfl).c3
    obtain ⟨x0, x1, x2, xf⟩ := (S17.out.bk 7 rfl).c3
    go_wp2_with fail
    clear c0 c1 c2 cf x0 x1 x2 xf
    refine (eqDomain_t (negDm d0 d1) _ _ _ (by exact S17.out.rd 3 rfl) (by exact S17.out.rd 8 rfl)).mono ?_
    rintro e w18 ⟨rfl, b⟩
    have S18 := Lib.hid (S17.out.go b)
    clear S17 b
    have hcr0 : cntO (cellsDm (negDm d0 d1)) ≤ 8388608 := by
      have h1 := cntO_le (cellsDm (negDm d0 d1)) (thin_DomainL (negDm d0 d1))
      have h2 : (trDm (negDm d0 d1)).sz = szL (cellsDm (negDm d0 d1)) := rfl
      have h3 : (trDm (negDm d0 d1)).sz ≤ 1048576 := by have := hn0; have := HZ0.out; have := HZ1.out; omega
      omega
    obtain ⟨c0, c1, c2, cf⟩ := (S18.out.bk 2 rfl).c3
    go_wp2_with fail
    clear c0 c1 c2 cf
    refine (markDomain_t (1) _ (negDm d0 d1) _ _ _ (by exact (S18.out.own 3 rfl).1) (by exact (S18.out.own 3 rfl).2) (by omega) (by omega)).mono ?_
    rintro e w19 ⟨F19, rfl, o, h, hs, g⟩
    have S19 := Lib.hid (S18.out.mark 3 rfl o h hs g)
    clear S18 o h hs g
    obtain ⟨c0, c1, c2, cf⟩ := (S19.out.bk 2 rfl).c3
    go_wp2_with fail
    clear c0 c1 c2 cf
    refine (heldDomain_t (1) (negDm d0 d1) _ _ (by exact S19.out.rd 3 rfl) (by omega) (by omega)).mono ?_
    rintro e w20 ⟨rfl, b⟩
    have S20 := Lib.hid (S19.out.go b)
    clear S19 b
    obtain ⟨c0, c1, c2, c3, c4, cf⟩ := (S20.out.bk 11 rfl).c5
    go_wp2_with fail
    clear c0 c1 c2 c3 c4 cf
    refine (toProject_t d0 _ _ (by exact S20.out.old HR0.out) (by have := HZ0.out; omega)).mono ?_
    rintro e w21 ⟨v21_, F21, rfl, o, h, b⟩
    have S21 := Lib.hid (S20.out.new o h b)
    clear S20 o h b
    go_wp2_with fail
    refine (toLiteralS_t d1 _ _ (by exact S21.out.old HR1.out) (by have := HZ1.out; omega)).mono ?_
    rintro e w22 ⟨v22_, F22, rfl, o, h, b⟩
    have S22 := Lib.hid (S21.out.new o h b)
    clear S21 o h b
    go_wp2_with fail
    refine (implNegatedDomain_any d0 d1 _ _ _ (by exact S22.out.rd 1 rfl) HK0.out (by exact S22.out.rd 0 rfl)).mono ?_
    rintro e w23 ⟨v23_, F23, rfl, o, h, b⟩
    obtain ⟨X23_0, x23_0, X23_1, x23_1, X23_2, x23_2, rfl, _, _, _⟩ := rdDomain_t (Tr.own_rd _ _ _ o)
    have S23 := Lib.hid ((S22.out.new o h b).box 45 [.slice X23_0 (negDm d0 d1).mn.length x23_0, .slice X23_1 (negDm d0 d1).mx.length x23_1, .slice X23_2 (negDm d0 d1).md.length x23_2])
    clear S22 o h b
    obtain ⟨c0, c1, c2, cf⟩ := (S23.out.bk 0 rfl).c3
    obtain ⟨x0, x1, x2, xf⟩ := (S23.out.bk 11 rfl).c3
    go_wp2_with fail
    clear c0 c1 c2 cf x0 x1 x2 xf
    refine (eqDomain_t (negDm d0 d1) _ _ _ (by exact S23.out.rd 1 rfl) (by exact S23.out.rd 12 rfl)).mono ?_
    rintro e w24 ⟨rfl, b⟩
    have S24 := Lib.hid (S23.out.go b)
    clear S23 b
    obtain ⟨c0, c1, c2, cf⟩ := (S24.out.bk 6 rfl).c3
    go_wp2_with fail
    clear c0 c1 c2 cf
    refine (heldDomain_t (1) (negDm d0 d1) _ _ (by exact S24.out.rd 7 rfl) (by omega) (by omega)).mono ?_
    rintro e w25 ⟨rfl, b⟩
    have S25 := Lib.hid (S24.out.go b)
    clear S24 b
    go_wp2
    go_ret
    exact ⟨rfl, S25.out.1⟩
end Go.Proofs.YtgbpomakomddjabGreat
