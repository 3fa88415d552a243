/- DERIVED. The walk of the law FnExactLinkGap, by contracts. -/
import Derived.Test.YtfdhoddooeedoaaLkL
import Derived.Test.YtfdhoddooeedoaaTProject
import Derived.Test.YtfdhoddooeedoaaDats
import Derived.Deep.RegionWith
namespace Go.Proofs.Ytfdhoddooeedoaa
open Go.RowKit
set_option linter.unusedVariables false
set_option maxRecDepth 100000 in
set_option maxHeartbeats 4000000 in
theorem walkFnExactLinkGap (v0 : Value) (d0 : Pj) (a1 : Int) (v2 : Value) (d2 : List Int) (w : World) (hr0 : (trPj d0).rd w v0) (hk0 : (trPj d0).ok) (hw1 : (Lit.int .i64 a1).wf = true) (hr2 : (trI d2).rd w v2) (hk2 : (trI d2).ok) :
    Calls Try.prog 3 #[v0, .int .i64 a1, v2] w fun e w' => e = .returned (.bool true) ∧ Below w.heap.size w w' := by
  have HK0 := Lib.hid hk0
  have HR0 := Lib.hid hr0
  obtain ⟨U0_1, u0_1, U0_2, u0_2, U0_3, u0_3, U0_4, u0_4, rfl, _, _, _, _⟩ := rdProject_t hr0
  clear hk0 hr0
  have HW1 := Lib.hid hw1
  clear hw1
  have HK2 := Lib.hid hk2
  have HR2 := Lib.hid hr2
  obtain ⟨U2, u2, rfl⟩ := slice_ints hr2
  clear hk2 hr2
  have S0 := Lib.hid (Sn.start w)
  have S1 := Lib.hid (S0.out.box 27 [.int .i64 d0.dl, .slice U0_1 d0.acts.length u0_1, .slice U0_2 d0.lks.length u0_2, .slice U0_3 d0.ress.length u0_3, .slice U0_4 d0.stk.length u0_4])
  clear S0
  by_cases hbig2 : (1048576 : Int) < d2.length
  · go_enter Try.func3, Try.ntmps3
    go_wp2
    go_ret
    exact ⟨rfl, S1.out.1⟩
  have hl2 : d2.length ≤ 1048576 := by omega
  clear hbig2
  go_enter Try.func3, Try.ntmps3
  go_wp2_with fail
  refine (szProject_t d0 _ (1048576) _ (by exact S1.out.old HR0.out) HK0.out (by omega) (by omega)).mono ?_
  rintro e w2 ⟨rfl, b⟩
  have S2 := Lib.hid (S1.out.go b)
  clear S1 b
  generalize hz0 : (trPj d0).sz = z0
  have HZ0 := Lib.hid hz0
  clear hz0
  by_cases hbig0 : (1048576 : Int) < (z0 : Int)
  · rw [if_pos hbig0]
    go_wp2
    go_ret
    exact ⟨rfl, S2.out.1⟩
  rw [if_neg hbig0]
  have hq0 : 0 ≤ (1048576 - (z0 : Int) : Int) := by omega
  have hb0 : z0 ≤ 1048576 := by omega
  have hb2 : (trI d2).sz ≤ 1048576 := by rw [trI_sz]; exact hl2
  obtain ⟨c0, c1, c2, c3, c4, cf⟩ := (S2.out.bk 0 rfl).c5
  go_wp2_with fail
  clear c0 c1 c2 c3 c4 cf
  refine (toProject_t d0 _ _ (by exact S2.out.old HR0.out) (by have := HZ0.out; omega)).mono ?_
  rintro e w3 ⟨v3_, F3, rfl, o, h, b⟩
  have S3 := Lib.hid (S2.out.new o h b)
  clear S2 o h b
  go_wp2_with fail
  refine (toIntS_t d2 _ _ (by exact S3.out.old HR2.out) (by omega)).mono ?_
  rintro e w4 ⟨v4_, F4, rfl, o, h, b⟩
  have S4 := Lib.hid (S3.out.new o h b)
  clear S3 o h b
  go_wp2_with fail
  refine (specLinkGap_any d0 a1 d2 _ _ _ (by exact S4.out.rd 1 rfl) (by exact S4.out.rd 0 rfl) HK0.out).mono ?_
  rintro e w5 ⟨rfl, b⟩
  have S5 := Lib.hid (S4.out.go b)
  clear S4 b
  obtain ⟨c0, c1, c2, c3, c4, cf⟩ := (S5.out.bk 2 rfl).c5
  go_wp2_with fail
  clear c0 c1 c2 c3 c4 cf
  refine (toProject_t d0 _ _ (by exact S5.out.old HR0.out) (by have := HZ0.out; omega)).mono ?_
  rintro e w6 ⟨v6_, F6, rfl, o, h, b⟩
  obtain ⟨X6_1, x6_1, X6_2, x6_2, X6_3, x6_3, X6_4, x6_4, rfl, _, _, _, _⟩ := rdProject_t (Tr.own_rd _ _ _ o)
  have S6 := Lib.hid ((S5.out.new o h b).box 34 [.int .i64 d0.dl, .slice X6_1 d0.acts.length x6_1, .slice X6_2 d0.lks.length x6_2, .slice X6_3 d0.ress.length x6_3, .slice X6_4 d0.stk.length x6_4])
  clear S5 o h b
  go_wp2_with fail
  refine (toIntS_t d2 _ _ (by exact S6.out.old HR2.out) (by omega)).mono ?_
  rintro e w7 ⟨v7_, F7, rfl, o, h, b⟩
  have S7 := Lib.hid (S6.out.new o h b)
  clear S6 o h b
  obtain ⟨x0, x1, x2, x3, x4, xf⟩ := (S7.out.bk 1 rfl).c5
  go_wp2_with fail
  clear x0 x1 x2 x3 x4 xf
  refine (implLinkGap_any d0 a1 d2 _ _ _ (by exact S7.out.rd 2 rfl) (by exact S7.out.rd 0 rfl) HK0.out).mono ?_
  rintro e w8 ⟨rfl, b⟩
  have S8 := Lib.hid (S7.out.go b)
  clear S7 b
  obtain ⟨c0, c1, c2, c3, c4, cf⟩ := (S8.out.bk 1 rfl).c5
  obtain ⟨g0, g1, g2, g3, g4, gf⟩ := (S8.out.bk 5 rfl).c5
  have S9 := Lib.hid (S8.out.drew1)
  clear S8
  go_wp2_with fail
  go_region_with (first
    | (go_at_call 7; refine (toProject_t d0 _ _ (by exact S9.out.old HR0.out) (by have := HZ0.out; omega)).mono ?_; rintro e w10 ⟨v10_, F10, rfl, o, h, b⟩; have S10 := Lib.hid (S9.out.new o h b); obtain ⟨e0, e1, e2, e3, e4, ef⟩ := (S10.out.bk 2 rfl).c5; clear S9 o h b)
    | (go_at_call 10; refine (eqProject_t d0 _ _ _ (by exact S10.out.rd 3 rfl) (by exact S10.out.rd 0 rfl)).mono ?_; rintro e w11 ⟨rfl, b⟩; have S11 := Lib.hid (S10.out.go b); clear S10 b))
  all_goals
    clear c0 c1 c2 c3 c4 cf g0 g1 g2 g3 g4 gf
    try clear e0 e1 e2 e3 e4 ef
    go_wp2_with fail
    refine (toIntS_t d2 _ _ (by exact S11.out.old HR2.out) (by omega)).mono ?_
    rintro e w12 ⟨v12_, F12, rfl, o, h, b⟩
    have S12 := Lib.hid (S11.out.new o h b)
    clear S11 o h b
    go_wp2_with fail
    refine (eqIntS_t (d2) _ _ _ (by exact S12.out.rd 2 rfl) (by exact S12.out.rd 0 rfl)).mono ?_
    rintro e w13 ⟨rfl, b⟩
    have S13 := Lib.hid (S12.out.go b)
    clear S12 b
    go_wp2
    go_ret
    exact ⟨rfl, S13.out.1⟩
end Go.Proofs.Ytfdhoddooeedoaa
