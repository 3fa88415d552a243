/- DERIVED. The walk of the law FnExactDomainSize, by contracts. -/
import Derived.Test.YtdbnhdiboemmiacDmS
import Derived.Test.YtdbnhdiboemmiacTDomain
import Derived.Deep.RegionWith
import Derived.Deep.RegionHeld3
namespace Go.Proofs.Ytdbnhdiboemmiac
open Go.RowKit
set_option linter.unusedVariables false
set_option maxRecDepth 100000 in
set_option maxHeartbeats 4000000 in
theorem walkFnExactDomainSize (v0 : Value) (d0 : Dm) (w : World) (hr0 : (trDm d0).rd w v0) (hk0 : (trDm d0).ok) :
    Calls Try.prog 3 #[v0] w fun e w' => e = .returned (.bool true) ∧ Below w.heap.size w w' := by
  have HK0 := Lib.hid hk0
  have HR0 := Lib.hid hr0
  obtain ⟨U0_0, u0_0, U0_1, u0_1, U0_2, u0_2, rfl, _, _, _⟩ := rdDomain_t hr0
  clear hk0 hr0
  have S0 := Lib.hid (Sn.start w)
  have S1 := Lib.hid (S0.out.box 25 [.slice U0_0 d0.mn.length u0_0, .slice U0_1 d0.mx.length u0_1, .slice U0_2 d0.md.length u0_2])
  clear S0
  go_enter Try.func3, Try.ntmps3
  go_wp2_with fail
  refine (szDomain_t d0 _ (1048576) _ (by exact S1.out.old HR0.out) HK0.out (by omega) (by omega)).mono ?_
  rintro e w2 ⟨rfl, b⟩
  have S2 := Lib.hid (S1.out.go b)
  clear S1 b
  generalize hz0 : (trDm d0).sz = z0
  have HZ0 := Lib.hid hz0
  clear hz0
  by_cases hbig0 : (1048576 : Int) < (z0 : Int)
  · rw [if_pos hbig0]
    go_wp2
    go_ret
    exact ⟨rfl, S2.out.1⟩
  rw [if_neg hbig0]
  have hq0 : 0 ≤ (1048576 - (z0 : Int) : Int) := by omega
  have hb0 : z0 ≤ 1048576 := by omega
  obtain ⟨c0, c1, c2, cf⟩ := (S2.out.bk 0 rfl).c3
  go_wp2_with fail
  clear c0 c1 c2 cf
  refine (toDomain_t d0 _ _ (by exact S2.out.old HR0.out) (by have := HZ0.out; omega)).mono ?_
  rintro e w3 ⟨v3_, F3, rfl, o, h, b⟩
  have S3 := Lib.hid (S2.out.new o h b)
  clear S2 o h b
  go_wp2_with fail
  refine (specDomainSize_any d0 _ _ (by exact S3.out.rd 0 rfl)).mono ?_
  rintro e w4 ⟨rfl, b⟩
  have S4 := Lib.hid (S3.out.go b)
  clear S3 b
  obtain ⟨c0, c1, c2, cf⟩ := (S4.out.bk 1 rfl).c3
  go_wp2_with fail
  clear c0 c1 c2 cf
  refine (toDomain_t d0 _ _ (by exact S4.out.old HR0.out) (by have := HZ0.out; omega)).mono ?_
  rintro e w5 ⟨v5_, F5, rfl, o, h, b⟩
  obtain ⟨X5_0, x5_0, X5_1, x5_1, X5_2, x5_2, rfl, _, _, _⟩ := rdDomain_t (Tr.own_rd _ _ _ o)
  have S5 := Lib.hid ((S4.out.new o h b).box 28 [.slice X5_0 d0.mn.length x5_0, .slice X5_1 d0.mx.length x5_1, .slice X5_2 d0.md.length x5_2])
  clear S4 o h b
  obtain ⟨x0, x1, x2, xf⟩ := (S5.out.bk 0 rfl).c3
  go_wp2_with fail
  clear x0 x1 x2 xf
  refine (implDomainSize_any d0 _ _ (by exact S5.out.rd 1 rfl)).mono ?_
  rintro e w6 ⟨rfl, b⟩
  have S6 := Lib.hid (S5.out.go b)
  clear S5 b
  obtain ⟨c0, c1, c2, cf⟩ := (S6.out.bk 0 rfl).c3
  obtain ⟨g0, g1, g2, gf⟩ := (S6.out.bk 3 rfl).c3
  have S7 := Lib.hid (S6.out.drew1)
  clear S6
  go_wp2_with fail
  go_region_with (first
    | (go_at_call 6; refine (toDomain_t d0 _ _ (by exact S7.out.old HR0.out) (by have := HZ0.out; omega)).mono ?_; rintro e w8 ⟨v8_, F8, rfl, o, h, b⟩; have S8 := Lib.hid (S7.out.new o h b); obtain ⟨e0, e1, e2, ef⟩ := (S8.out.bk 1 rfl).c3; clear S7 o h b)
    | (go_at_call 8; refine (eqDomain_t d0 _ _ _ (by exact S8.out.rd 2 rfl) (by exact S8.out.rd 0 rfl)).mono ?_; rintro e w9 ⟨rfl, b⟩; have S9 := Lib.hid (S8.out.go b); clear S8 b))
  all_goals
    clear c0 c1 c2 cf g0 g1 g2 gf
    try clear e0 e1 e2 ef
    go_wp2
    go_ret
    exact ⟨rfl, S9.out.1⟩
end Go.Proofs.Ytdbnhdiboemmiac
