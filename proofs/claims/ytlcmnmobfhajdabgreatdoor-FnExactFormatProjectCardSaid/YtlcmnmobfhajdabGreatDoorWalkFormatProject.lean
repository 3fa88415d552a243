/- DERIVED. The walk of the law FnExactFormatProject, by contracts. -/
import Derived.Test.YtlcmnmobfhajdabGreatDoorFpS
import Derived.Test.YtlcmnmobfhajdabGreatDoorTPj
import Derived.Deep.RegionWith
import Derived.Deep.RegionHeld3
namespace Go.Proofs.YtlcmnmobfhajdabGreatDoor
open Go.RowKit
set_option linter.unusedVariables false
set_option maxRecDepth 100000 in
set_option maxHeartbeats 4000000 in
theorem walkFnExactFormatProject (v0 : Value) (d0 : Pj) (w : World) (hr0 : (trPj d0).rd w v0) (hk0 : (trPj d0).ok) (ht : TB w) :
    Calls Tryz.prog 3 #[v0] w fun e w' => e = .returned (.bool true) ∧ Below w.heap.size w w' := by
  have HK0 := Lib.hid hk0
  have HR0 := Lib.hid hr0
  obtain ⟨U0_1, u0_1, U0_2, u0_2, U0_3, u0_3, U0_4, u0_4, rfl, _, _, _, _⟩ := rdProject_t hr0
  clear hk0 hr0
  have T0 := Lib.hid ht
  clear ht
  have S0 := Lib.hid (Sn.start w)
  have S1 := Lib.hid (S0.out.box 27 [.int .i64 d0.dl, .slice U0_1 d0.acts.length u0_1, .slice U0_2 d0.lks.length u0_2, .slice U0_3 d0.ress.length u0_3, .slice U0_4 d0.stk.length u0_4])
  clear S0
  go_enter Tryz.func3, Tryz.ntmps3
  go_wp2_with fail
  refine (szProject_t d0 _ (1048576) _ (by exact S1.out.old HR0.out) HK0.out (by omega) (by omega)).mono ?_
  rintro e w2 ⟨rfl, b⟩
  have S2 := Lib.hid (S1.out.go b)
  clear S1 b
  generalize hz0 : (trPj d0).sz = z0
  have HZ0 := Lib.hid hz0
  clear hz0
  by_cases hbig0 : (1048576 : Int) < (z0 : Int)
  · rw [if_pos hbig0]
    go_wp2
    go_ret
    exact ⟨rfl, S2.out.1⟩
  rw [if_neg hbig0]
  have hq0 : 0 ≤ (1048576 - (z0 : Int) : Int) := by omega
  have hb0 : z0 ≤ 1048576 := by omega
  obtain ⟨c0, c1, c2, c3, c4, cf⟩ := (S2.out.bk 0 rfl).c5
  go_wp2_with fail
  clear c0 c1 c2 c3 c4 cf
  refine (toProject_t d0 _ _ (by exact S2.out.old HR0.out) (by have := HZ0.out; omega)).mono ?_
  rintro e w3 ⟨v3_, F3, rfl, o, h, b⟩
  have S3 := Lib.hid (S2.out.new o h b)
  clear S2 o h b
  go_wp2_with fail
  refine (specFormatProject_any d0 _ _ (by exact S3.out.rd 0 rfl) HK0.out).mono ?_
  rintro e w4 ⟨rfl, b⟩
  have S4 := Lib.hid (S3.out.go b)
  clear S3 b
  obtain ⟨c0, c1, c2, c3, c4, cf⟩ := (S4.out.bk 1 rfl).c5
  go_wp2_with fail
  clear c0 c1 c2 c3 c4 cf
  refine (toProject_t d0 _ _ (by exact S4.out.old HR0.out) (by have := HZ0.out; omega)).mono ?_
  rintro e w5 ⟨v5_, F5, rfl, o, h, b⟩
  obtain ⟨X5_1, x5_1, X5_2, x5_2, X5_3, x5_3, X5_4, x5_4, rfl, _, _, _, _⟩ := rdProject_t (Tr.own_rd _ _ _ o)
  have S5 := Lib.hid ((S4.out.new o h b).box 34 [.int .i64 d0.dl, .slice X5_1 d0.acts.length x5_1, .slice X5_2 d0.lks.length x5_2, .slice X5_3 d0.ress.length x5_3, .slice X5_4 d0.stk.length x5_4])
  clear S4 o h b
  obtain ⟨x0, x1, x2, x3, x4, xf⟩ := (S5.out.bk 0 rfl).c5
  go_wp2_with fail
  clear x0 x1 x2 x3 x4 xf
  refine (implFormatProject_any d0 _ _ (by exact S5.out.rd 1 rfl) HK0.out (by exact T0.out.below S5.out.1 (Nat.le_refl _))).mono ?_
  rintro e w6 ⟨rfl, b⟩
  have S6 := Lib.hid (S5.out.go b)
  clear S5 b
  obtain ⟨c0, c1, c2, c3, c4, cf⟩ := (S6.out.bk 0 rfl).c5
  obtain ⟨g0, g1, g2, g3, g4, gf⟩ := (S6.out.bk 3 rfl).c5
  have S7 := Lib.hid (S6.out.drew1)
  clear S6
  go_wp2_with fail
  go_region_with (first
    | (go_at_call 7; refine (toProject_t d0 _ _ (by exact S7.out.old HR0.out) (by have := HZ0.out; omega)).mono ?_; rintro e w8 ⟨v8_, F8, rfl, o, h, b⟩; have S8 := Lib.hid (S7.out.new o h b); obtain ⟨e0, e1, e2, e3, e4, ef⟩ := (S8.out.bk 1 rfl).c5; clear S7 o h b)
    | (go_at_call 9; refine (eqProject_t d0 _ _ _ (by exact S8.out.rd 2 rfl) (by exact S8.out.rd 0 rfl)).mono ?_; rintro e w9 ⟨rfl, b⟩; have S9 := Lib.hid (S8.out.go b); clear S8 b))
  all_goals
    clear c0 c1 c2 c3 c4 cf g0 g1 g2 g3 g4 gf
    try clear e0 e1 e2 e3 e4 ef
    go_wp2
    go_ret
    exact ⟨rfl, S9.out.1⟩
end Go.Proofs.YtlcmnmobfhajdabGreatDoor
