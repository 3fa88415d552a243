/- DERIVED. The walk of the law FnExactInitialDomain, by contracts. -/
import Derived.Test.YtdbnhdiboemmiaaDmJ
import Derived.Test.YtdbnhdiboemmiaaTPj
import Derived.Test.YtdbnhdiboemmiaaTDomain
import Derived.Deep.RegionWith
import Derived.Deep.RegionHeld3
namespace Go.Proofs.Ytdbnhdiboemmiaa
open Go.RowKit
set_option linter.unusedVariables false
set_option maxRecDepth 100000 in
set_option maxHeartbeats 4000000 in
theorem walkFnExactInitialDomain (v0 : Value) (d0 : Pj) (w : World) (hr0 : (trPj d0).rd w v0) (hk0 : (trPj d0).ok) :
    Calls Try.prog 4 #[v0] w fun e w' => e = .returned (.bool true) ∧ Below w.heap.size w w' := by
  have HK0 := Lib.hid hk0
  have HR0 := Lib.hid hr0
  obtain ⟨U0_1, u0_1, U0_2, u0_2, U0_3, u0_3, U0_4, u0_4, rfl, _, _, _, _⟩ := rdProject_t hr0
  clear hk0 hr0
  have S0 := Lib.hid (Sn.start w)
  have S1 := Lib.hid (S0.out.box 27 [.int .i64 d0.dl, .slice U0_1 d0.acts.length u0_1, .slice U0_2 d0.lks.length u0_2, .slice U0_3 d0.ress.length u0_3, .slice U0_4 d0.stk.length u0_4])
  clear S0
  go_enter Try.func4, Try.ntmps4
  have hn0 : (trDm (initD d0)).sz ≤ 60 := init_sz _
  go_wp2_with fail
  refine (szProject_t d0 _ (1048576) _ (by exact S1.out.old HR0.out) HK0.out (by omega) (by omega)).mono ?_
  rintro e w2 ⟨rfl, b⟩
  have S2 := Lib.hid (S1.out.go b)
  clear S1 b
  generalize hz0 : (trPj d0).sz = z0
  have HZ0 := Lib.hid hz0
  clear hz0
  by_cases hbig0 : (1048576 : Int) < (z0 : Int)
  · rw [if_pos hbig0]
    go_wp2
    go_ret
    exact ⟨rfl, S2.out.1⟩
  rw [if_neg hbig0]
  have hq0 : 0 ≤ (1048576 - (z0 : Int) : Int) := by omega
  have hb0 : z0 ≤ 1048576 := by omega
  obtain ⟨c0, c1, c2, c3, c4, cf⟩ := (S2.out.bk 0 rfl).c5
  go_wp2_with fail
  clear c0 c1 c2 c3 c4 cf
  refine (toProject_t d0 _ _ (by exact S2.out.old HR0.out) (by have := HZ0.out; omega)).mono ?_
  rintro e w3 ⟨v3_, F3, rfl, o, h, b⟩
  have S3 := Lib.hid (S2.out.new o h b)
  clear S2 o h b
  go_wp2_with fail
  refine (specInitialDomain_any d0 _ _ (by exact S3.out.rd 0 rfl) HK0.out).mono ?_
  rintro e w4 ⟨v4_, F4, rfl, o, h, b⟩
  obtain ⟨X4_0, x4_0, X4_1, x4_1, X4_2, x4_2, rfl, _, _, _⟩ := rdDomain_t (Tr.own_rd _ _ _ o)
  have S4 := Lib.hid ((S3.out.new o h b).box 40 [.slice X4_0 (initD d0).mn.length x4_0, .slice X4_1 (initD d0).mx.length x4_1, .slice X4_2 (initD d0).md.length x4_2])
  clear S3 o h b
  obtain ⟨c0, c1, c2, c3, c4, cf⟩ := (S4.out.bk 3 rfl).c5
  go_wp2_with fail
  clear c0 c1 c2 c3 c4 cf
  refine (toProject_t d0 _ _ (by exact S4.out.old HR0.out) (by have := HZ0.out; omega)).mono ?_
  rintro e w5 ⟨v5_, F5, rfl, o, h, b⟩
  obtain ⟨X5_1, x5_1, X5_2, x5_2, X5_3, x5_3, X5_4, x5_4, rfl, _, _, _, _⟩ := rdProject_t (Tr.own_rd _ _ _ o)
  have S5 := Lib.hid ((S4.out.new o h b).box 38 [.int .i64 d0.dl, .slice X5_1 d0.acts.length x5_1, .slice X5_2 d0.lks.length x5_2, .slice X5_3 d0.ress.length x5_3, .slice X5_4 d0.stk.length x5_4])
  clear S4 o h b
  obtain ⟨x0, x1, x2, x3, x4, xf⟩ := (S5.out.bk 0 rfl).c5
  go_wp2_with fail
  clear x0 x1 x2 x3 x4 xf
  refine (implInitialDomain_any d0 _ _ (by exact S5.out.rd 1 rfl) HK0.out).mono ?_
  rintro e w6 ⟨v6_, F6, rfl, o, h, b⟩
  obtain ⟨X6_0, x6_0, X6_1, x6_1, X6_2, x6_2, rfl, _, _, _⟩ := rdDomain_t (Tr.own_rd _ _ _ o)
  have S6 := Lib.hid ((S5.out.new o h b).box 40 [.slice X6_0 (initD d0).mn.length x6_0, .slice X6_1 (initD d0).mx.length x6_1, .slice X6_2 (initD d0).md.length x6_2])
  clear S5 o h b
  obtain ⟨c0, c1, c2, cf⟩ := (S6.out.bk 0 rfl).c3
  obtain ⟨x0, x1, x2, xf⟩ := (S6.out.bk 4 rfl).c3
  go_wp2_with fail
  clear c0 c1 c2 cf x0 x1 x2 xf
  refine (eqDomain_t (initD d0) _ _ _ (by exact S6.out.rd 1 rfl) (by exact S6.out.rd 5 rfl)).mono ?_
  rintro e w7 ⟨rfl, b⟩
  have S7 := Lib.hid (S6.out.go b)
  clear S6 b
  obtain ⟨c0, c1, c2, c3, c4, cf⟩ := (S7.out.bk 2 rfl).c5
  obtain ⟨g0, g1, g2, g3, g4, gf⟩ := (S7.out.bk 7 rfl).c5
  have S8 := Lib.hid (S7.out.drew1)
  clear S7
  go_wp2_with fail
  go_region_with (first
    | (go_at_call 11; refine (toProject_t d0 _ _ (by exact S8.out.old HR0.out) (by have := HZ0.out; omega)).mono ?_; rintro e w9 ⟨v9_, F9, rfl, o, h, b⟩; have S9 := Lib.hid (S8.out.new o h b); obtain ⟨e0, e1, e2, e3, e4, ef⟩ := (S9.out.bk 3 rfl).c5; clear S8 o h b)
    | (go_at_call 14; refine (eqProject_t d0 _ _ _ (by exact S9.out.rd 4 rfl) (by exact S9.out.rd 0 rfl)).mono ?_; rintro e w10 ⟨rfl, b⟩; have S10 := Lib.hid (S9.out.go b); clear S9 b))
  all_goals
    clear c0 c1 c2 c3 c4 cf g0 g1 g2 g3 g4 gf
    try clear e0 e1 e2 e3 e4 ef
    have hcnt0 : cntO (cellsPj d0) ≤ 8388608 := by
      have h1 := cntO_le (cellsPj d0) (thin_ProjectL d0)
      have h2 : (trPj d0).sz = szL (cellsPj d0) := rfl
      have h3 : (trPj d0).sz ≤ 1048576 := by have := HZ0.out; omega
      omega
    obtain ⟨c0, c1, c2, c3, c4, cf⟩ := (S10.out.bk 3 rfl).c5
    go_wp2_with fail
    clear c0 c1 c2 c3 c4 cf
    refine (markProject_t (1) _ (d0) _ _ _ (by exact (S10.out.own 4 rfl).1) (by exact (S10.out.own 4 rfl).2) (by omega) (by omega)).mono ?_
    rintro e w11 ⟨F11, rfl, o, h, hs, g⟩
    have S11 := Lib.hid (S10.out.mark 4 rfl o h hs g)
    clear S10 o h hs g
    obtain ⟨c0, c1, c2, cf⟩ := (S11.out.bk 1 rfl).c3
    obtain ⟨x0, x1, x2, xf⟩ := (S11.out.bk 5 rfl).c3
    go_wp2_with fail
    clear c0 c1 c2 cf x0 x1 x2 xf
    refine (eqDomain_t (initD d0) _ _ _ (by exact S11.out.rd 2 rfl) (by exact S11.out.rd 6 rfl)).mono ?_
    rintro e w12 ⟨rfl, b⟩
    have S12 := Lib.hid (S11.out.go b)
    clear S11 b
    have hcr0 : cntO (cellsDm (initD d0)) ≤ 8388608 := by
      have h1 := cntO_le (cellsDm (initD d0)) (thin_DomainL (initD d0))
      have h2 : (trDm (initD d0)).sz = szL (cellsDm (initD d0)) := rfl
      have h3 : (trDm (initD d0)).sz ≤ 1048576 := by have := hn0; omega
      omega
    obtain ⟨c0, c1, c2, cf⟩ := (S12.out.bk 1 rfl).c3
    go_wp2_with fail
    clear c0 c1 c2 cf
    refine (markDomain_t (1) _ (initD d0) _ _ _ (by exact (S12.out.own 2 rfl).1) (by exact (S12.out.own 2 rfl).2) (by omega) (by omega)).mono ?_
    rintro e w13 ⟨F13, rfl, o, h, hs, g⟩
    have S13 := Lib.hid (S12.out.mark 2 rfl o h hs g)
    clear S12 o h hs g
    obtain ⟨c0, c1, c2, cf⟩ := (S13.out.bk 1 rfl).c3
    go_wp2_with fail
    clear c0 c1 c2 cf
    refine (heldDomain_t (1) (initD d0) _ _ (by exact S13.out.rd 2 rfl) (by omega) (by omega)).mono ?_
    rintro e w14 ⟨rfl, b⟩
    have S14 := Lib.hid (S13.out.go b)
    clear S13 b
    obtain ⟨c0, c1, c2, c3, c4, cf⟩ := (S14.out.bk 8 rfl).c5
    go_wp2_with fail
    clear c0 c1 c2 c3 c4 cf
    refine (toProject_t d0 _ _ (by exact S14.out.old HR0.out) (by have := HZ0.out; omega)).mono ?_
    rintro e w15 ⟨v15_, F15, rfl, o, h, b⟩
    have S15 := Lib.hid (S14.out.new o h b)
    clear S14 o h b
    go_wp2_with fail
    refine (implInitialDomain_any d0 _ _ (by exact S15.out.rd 0 rfl) HK0.out).mono ?_
    rintro e w16 ⟨v16_, F16, rfl, o, h, b⟩
    obtain ⟨X16_0, x16_0, X16_1, x16_1, X16_2, x16_2, rfl, _, _, _⟩ := rdDomain_t (Tr.own_rd _ _ _ o)
    have S16 := Lib.hid ((S15.out.new o h b).box 40 [.slice X16_0 (initD d0).mn.length x16_0, .slice X16_1 (initD d0).mx.length x16_1, .slice X16_2 (initD d0).md.length x16_2])
    clear S15 o h b
    obtain ⟨c0, c1, c2, cf⟩ := (S16.out.bk 0 rfl).c3
    obtain ⟨x0, x1, x2, xf⟩ := (S16.out.bk 8 rfl).c3
    go_wp2_with fail
    clear c0 c1 c2 cf x0 x1 x2 xf
    refine (eqDomain_t (initD d0) _ _ _ (by exact S16.out.rd 1 rfl) (by exact S16.out.rd 9 rfl)).mono ?_
    rintro e w17 ⟨rfl, b⟩
    have S17 := Lib.hid (S16.out.go b)
    clear S16 b
    obtain ⟨c0, c1, c2, cf⟩ := (S17.out.bk 4 rfl).c3
    go_wp2_with fail
    clear c0 c1 c2 cf
    refine (heldDomain_t (1) (initD d0) _ _ (by exact S17.out.rd 5 rfl) (by omega) (by omega)).mono ?_
    rintro e w18 ⟨rfl, b⟩
    have S18 := Lib.hid (S17.out.go b)
    clear S17 b
    go_wp2
    go_ret
    exact ⟨rfl, S18.out.1⟩
end Go.Proofs.Ytdbnhdiboemmiaa
