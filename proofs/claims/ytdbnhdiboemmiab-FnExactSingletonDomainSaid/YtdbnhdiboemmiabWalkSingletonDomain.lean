/- DERIVED. The walk of the law FnExactSingletonDomain, by contracts. -/
import Derived.Test.YtdbnhdiboemmiabDmU
import Derived.Test.YtdbnhdiboemmiabDmR
import Derived.Test.YtdbnhdiboemmiabTSchedule
import Derived.Test.YtdbnhdiboemmiabTDomain
import Derived.Deep.RegionWith
import Derived.Deep.RegionHeld3
namespace Go.Proofs.Ytdbnhdiboemmiab
open Go.RowKit
set_option linter.unusedVariables false
set_option maxRecDepth 100000 in
set_option maxHeartbeats 4000000 in
theorem walkFnExactSingletonDomain (v0 : Value) (d0 : Sc) (w : World) (hr0 : (trSc d0).rd w v0) (hk0 : (trSc d0).ok) :
    Calls Try.prog 4 #[v0] w fun e w' => e = .returned (.bool true) ∧ Below w.heap.size w w' := by
  have HK0 := Lib.hid hk0
  have HR0 := Lib.hid hr0
  obtain ⟨U0_0, u0_0, U0_1, u0_1, rfl, _, _⟩ := rdSchedule_t hr0
  clear hk0 hr0
  have S0 := Lib.hid (Sn.start w)
  have S1 := Lib.hid (S0.out.box 37 [.slice U0_0 d0.st.length u0_0, .slice U0_1 d0.mo.length u0_1])
  clear S0
  go_enter Try.func4, Try.ntmps4
  have hn0 : (trDm (singD d0)).sz ≤ 2 * (trSc d0).sz := sing_sz _
  go_wp2_with fail
  refine (szSchedule_t d0 _ (1048576) _ (by exact S1.out.old HR0.out) HK0.out (by omega) (by omega)).mono ?_
  rintro e w2 ⟨rfl, b⟩
  have S2 := Lib.hid (S1.out.go b)
  clear S1 b
  generalize hz0 : (trSc d0).sz = z0
  have HZ0 := Lib.hid hz0
  clear hz0
  by_cases hbig0 : (1048576 : Int) < (z0 : Int)
  · rw [if_pos hbig0]
    go_wp2
    go_ret
    exact ⟨rfl, S2.out.1⟩
  rw [if_neg hbig0]
  have hq0 : 0 ≤ (1048576 - (z0 : Int) : Int) := by omega
  have hb0 : z0 ≤ 1048576 := by omega
  obtain ⟨c0, c1, cf⟩ := (S2.out.bk 0 rfl).c2
  go_wp2_with fail
  clear c0 c1 cf
  refine (toSchedule_t d0 _ _ (by exact S2.out.old HR0.out) (by have := HZ0.out; omega)).mono ?_
  rintro e w3 ⟨v3_, F3, rfl, o, h, b⟩
  have S3 := Lib.hid (S2.out.new o h b)
  clear S2 o h b
  go_wp2_with fail
  refine (specSingleton_any d0 _ _ (by exact (S3.out.own 0 rfl).1) (by have := HZ0.out; omega)).mono ?_
  rintro e w4 ⟨v4_, F4, rfl, o, h, b⟩
  obtain ⟨X4_0, x4_0, X4_1, x4_1, X4_2, x4_2, rfl, _, _, _⟩ := rdDomain_t (Tr.own_rd _ _ _ o)
  have S4 := Lib.hid ((S3.out.new o h b).box 30 [.slice X4_0 (singD d0).mn.length x4_0, .slice X4_1 (singD d0).mx.length x4_1, .slice X4_2 (singD d0).md.length x4_2])
  clear S3 o h b
  obtain ⟨c0, c1, cf⟩ := (S4.out.bk 3 rfl).c2
  go_wp2_with fail
  clear c0 c1 cf
  refine (toSchedule_t d0 _ _ (by exact S4.out.old HR0.out) (by have := HZ0.out; omega)).mono ?_
  rintro e w5 ⟨v5_, F5, rfl, o, h, b⟩
  obtain ⟨X5_0, x5_0, X5_1, x5_1, rfl, _, _⟩ := rdSchedule_t (Tr.own_rd _ _ _ o)
  have S5 := Lib.hid ((S4.out.new o h b).box 40 [.slice X5_0 d0.st.length x5_0, .slice X5_1 d0.mo.length x5_1])
  clear S4 o h b
  obtain ⟨x0, x1, xf⟩ := (S5.out.bk 0 rfl).c2
  go_wp2_with fail
  clear x0 x1 xf
  refine (implSingleton_any d0 _ _ (by exact S5.out.rd 1 rfl) (by have := HZ0.out; omega)).mono ?_
  rintro e w6 ⟨v6_, F6, rfl, o, h, b⟩
  obtain ⟨X6_0, x6_0, X6_1, x6_1, X6_2, x6_2, rfl, _, _, _⟩ := rdDomain_t (Tr.own_rd _ _ _ o)
  have S6 := Lib.hid ((S5.out.new o h b).box 30 [.slice X6_0 (singD d0).mn.length x6_0, .slice X6_1 (singD d0).mx.length x6_1, .slice X6_2 (singD d0).md.length x6_2])
  clear S5 o h b
  obtain ⟨c0, c1, c2, cf⟩ := (S6.out.bk 0 rfl).c3
  obtain ⟨x0, x1, x2, xf⟩ := (S6.out.bk 4 rfl).c3
  go_wp2_with fail
  clear c0 c1 c2 cf x0 x1 x2 xf
  refine (eqDomain_t (singD d0) _ _ _ (by exact S6.out.rd 1 rfl) (by exact S6.out.rd 5 rfl)).mono ?_
  rintro e w7 ⟨rfl, b⟩
  have S7 := Lib.hid (S6.out.go b)
  clear S6 b
  obtain ⟨c0, c1, cf⟩ := (S7.out.bk 2 rfl).c2
  obtain ⟨g0, g1, gf⟩ := (S7.out.bk 7 rfl).c2
  have S8 := Lib.hid (S7.out.drew1)
  clear S7
  go_wp2_with fail
  go_region_with (first
    | (go_at_call 15; refine (toSchedule_t d0 _ _ (by exact S8.out.old HR0.out) (by have := HZ0.out; omega)).mono ?_; rintro e w9 ⟨v9_, F9, rfl, o, h, b⟩; have S9 := Lib.hid (S8.out.new o h b); obtain ⟨e0, e1, ef⟩ := (S9.out.bk 3 rfl).c2; clear S8 o h b)
    | (go_at_call 17; refine (eqSchedule_t d0 _ _ _ (by exact S9.out.rd 4 rfl) (by exact S9.out.rd 0 rfl)).mono ?_; rintro e w10 ⟨rfl, b⟩; have S10 := Lib.hid (S9.out.go b); clear S9 b))
  all_goals
    clear c0 c1 cf g0 g1 gf
    try clear e0 e1 ef
    have hcnt0 : cntO (cellsSc d0) ≤ 8388608 := by
      have h1 := cntO_le (cellsSc d0) (thin_ScheduleL d0)
      have h2 : (trSc d0).sz = szL (cellsSc d0) := rfl
      have h3 : (trSc d0).sz ≤ 1048576 := by have := HZ0.out; omega
      omega
    obtain ⟨c0, c1, cf⟩ := (S10.out.bk 3 rfl).c2
    go_wp2_with fail
    clear c0 c1 cf
    refine (markSchedule_t (1) _ (d0) _ _ _ (by exact (S10.out.own 4 rfl).1) (by exact (S10.out.own 4 rfl).2) (by omega) (by omega)).mono ?_
    rintro e w11 ⟨F11, rfl, o, h, hs, g⟩
    have S11 := Lib.hid (S10.out.mark 4 rfl o h hs g)
    clear S10 o h hs g
    obtain ⟨c0, c1, c2, cf⟩ := (S11.out.bk 1 rfl).c3
    obtain ⟨x0, x1, x2, xf⟩ := (S11.out.bk 5 rfl).c3
    go_wp2_with fail
    clear c0 c1 c2 cf x0 x1 x2 xf
    refine (eqDomain_t (singD d0) _ _ _ (by exact S11.out.rd 2 rfl) (by exact S11.out.rd 6 rfl)).mono ?_
    rintro e w12 ⟨rfl, b⟩
    have S12 := Lib.hid (S11.out.go b)
    clear S11 b
    have hcr0 : cntO (cellsDm (singD d0)) ≤ 16777216 := by
      have h1 := cntO_le (cellsDm (singD d0)) (thin_DomainL (singD d0))
      have h2 : (trDm (singD d0)).sz = szL (cellsDm (singD d0)) := rfl
      have h3 : (trDm (singD d0)).sz ≤ 2097152 := by have := hn0; have := HZ0.out; omega
      omega
    obtain ⟨c0, c1, c2, cf⟩ := (S12.out.bk 1 rfl).c3
    go_wp2_with fail
    clear c0 c1 c2 cf
    refine (markDomain_t (1) _ (singD d0) _ _ _ (by exact (S12.out.own 2 rfl).1) (by exact (S12.out.own 2 rfl).2) (by omega) (by omega)).mono ?_
    rintro e w13 ⟨F13, rfl, o, h, hs, g⟩
    have S13 := Lib.hid (S12.out.mark 2 rfl o h hs g)
    clear S12 o h hs g
    obtain ⟨c0, c1, c2, cf⟩ := (S13.out.bk 1 rfl).c3
    go_wp2_with fail
    clear c0 c1 c2 cf
    refine (heldDomain_t (1) (singD d0) _ _ (by exact S13.out.rd 2 rfl) (by omega) (by omega)).mono ?_
    rintro e w14 ⟨rfl, b⟩
    have S14 := Lib.hid (S13.out.go b)
    clear S13 b
    obtain ⟨c0, c1, cf⟩ := (S14.out.bk 8 rfl).c2
    go_wp2_with fail
    clear c0 c1 cf
    refine (toSchedule_t d0 _ _ (by exact S14.out.old HR0.out) (by have := HZ0.out; omega)).mono ?_
    rintro e w15 ⟨v15_, F15, rfl, o, h, b⟩
    have S15 := Lib.hid (S14.out.new o h b)
    clear S14 o h b
    go_wp2_with fail
    refine (implSingleton_any d0 _ _ (by exact S15.out.rd 0 rfl) (by have := HZ0.out; omega)).mono ?_
    rintro e w16 ⟨v16_, F16, rfl, o, h, b⟩
    obtain ⟨X16_0, x16_0, X16_1, x16_1, X16_2, x16_2, rfl, _, _, _⟩ := rdDomain_t (Tr.own_rd _ _ _ o)
    have S16 := Lib.hid ((S15.out.new o h b).box 30 [.slice X16_0 (singD d0).mn.length x16_0, .slice X16_1 (singD d0).mx.length x16_1, .slice X16_2 (singD d0).md.length x16_2])
    clear S15 o h b
    obtain ⟨c0, c1, c2, cf⟩ := (S16.out.bk 0 rfl).c3
    obtain ⟨x0, x1, x2, xf⟩ := (S16.out.bk 8 rfl).c3
    go_wp2_with fail
    clear c0 c1 c2 cf x0 x1 x2 xf
    refine (eqDomain_t (singD d0) _ _ _ (by exact S16.out.rd 1 rfl) (by exact S16.out.rd 9 rfl)).mono ?_
    rintro e w17 ⟨rfl, b⟩
    have S17 := Lib.hid (S16.out.go b)
    clear S16 b
    obtain ⟨c0, c1, c2, cf⟩ := (S17.out.bk 4 rfl).c3
    go_wp2_with fail
    clear c0 c1 c2 cf
    refine (heldDomain_t (1) (singD d0) _ _ (by exact S17.out.rd 5 rfl) (by omega) (by omega)).mono ?_
    rintro e w18 ⟨rfl, b⟩
    have S18 := Lib.hid (S17.out.go b)
    clear S17 b
    go_wp2
    go_ret
    exact ⟨rfl, S18.out.1⟩
end Go.Proofs.Ytdbnhdiboemmiab
