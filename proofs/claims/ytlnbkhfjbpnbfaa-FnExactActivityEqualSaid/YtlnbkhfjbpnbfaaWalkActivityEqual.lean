/- DERIVED. The walk of the law FnExactActivityEqual, by contracts. -/
import Derived.Test.YtlnbkhfjbpnbfaaActH
import Derived.Test.YtlnbkhfjbpnbfaaActG
import Derived.Test.YtlnbkhfjbpnbfaaModU
import Derived.Test.YtlnbkhfjbpnbfaaShp
import Derived.Deep.CutRange
namespace Go.Proofs.Ytlnbkhfjbpnbfaa
open Go.RowKit
set_option maxRecDepth 100000 in
set_option maxHeartbeats 4000000 in
theorem walkFnExactActivityEqual (v0 : Value) (d0 : Ac) (v1 : Value) (d1 : Ac) (w : World) (hr0 : (trA d0).rd w v0) (hk0 : d0.nm.size ≤ maxLen) (hr1 : (trA d1).rd w v1) (hk1 : d1.nm.size ≤ maxLen) :
    Calls Try.prog 11 #[v0, v1] w fun e w' => e = .returned (.bool true) ∧ Below w.heap.size w w' := by
  obtain ⟨U0, cu0, rfl⟩ := shapeA hr0
  have HR0 := Lib.hid hr0
  clear hr0
  have HK0 := Lib.hid hk0
  clear hk0
  obtain ⟨U1, cu1, rfl⟩ := shapeA hr1
  have HR1 := Lib.hid hr1
  clear hr1
  have HK1 := Lib.hid hk1
  clear hk1
  generalize hv0 : decide (d0 = d1) = r0
  have HV0 := Lib.hid hv0
  clear hv0
  have S0 := Lib.hid (Sn.start w)
  have S1 := Lib.hid (S0.out.box 33 [.string d0.nm, .int .i64 d0.fa, .slice U0 d0.ms.length cu0])
  clear S0
  have S2 := Lib.hid (S1.out.box 33 [.string d1.nm, .int .i64 d1.fa, .slice U1 d1.ms.length cu1])
  clear S1
  simp only [World.size_alloc] at S2
  go_enter Try.func11, Try.ntmps11
  go_wp2_with fail
  refine (szA2_any d0 _ (1048576) _ HK0.out (by exact S2.out.old HR0.out) (by omega) (by omega)).mono ?_
  rintro e w3 ⟨rfl, b⟩
  have S3 := Lib.hid (S2.out.go b)
  clear S2 b
  by_cases hbig0 : (1048576 : Int) < ((d0.nm.size : Int) + ((d0.ms.length : Int) + (szMs d0.ms : Int)))
  · rw [if_pos hbig0]
    go_wp2
    go_ret
    exact ⟨rfl, S3.out.1⟩
  rw [if_neg hbig0]
  have hq0 : 0 ≤ (1048576 - ((d0.nm.size : Int) + ((d0.ms.length : Int) + (szMs d0.ms : Int))) : Int) := by omega
  have hb0_0 : d0.ms.length + szMs d0.ms ≤ 1048576 := by omega
  obtain ⟨c0, c1, c2, cf⟩ := (S3.out.bk 0 rfl).c3
  go_wp2_with fail
  clear c0 c1 c2 cf
  refine (szA2_any d1 _ (1048576 - ((d0.nm.size : Int) + ((d0.ms.length : Int) + (szMs d0.ms : Int)))) _ HK1.out (by exact S3.out.old HR1.out) (by omega) (by omega)).mono ?_
  rintro e w4 ⟨rfl, b⟩
  have S4 := Lib.hid (S3.out.go b)
  clear S3 b
  by_cases hbig1 : (1048576 - ((d0.nm.size : Int) + ((d0.ms.length : Int) + (szMs d0.ms : Int))) : Int) < ((d1.nm.size : Int) + ((d1.ms.length : Int) + (szMs d1.ms : Int)))
  · rw [if_pos hbig1]
    go_wp2
    go_ret
    exact ⟨rfl, S4.out.1⟩
  rw [if_neg hbig1]
  have hq1 : 0 ≤ (1048576 - ((d0.nm.size : Int) + ((d0.ms.length : Int) + (szMs d0.ms : Int))) - ((d1.nm.size : Int) + ((d1.ms.length : Int) + (szMs d1.ms : Int))) : Int) := by omega
  have hb1_0 : d1.ms.length + szMs d1.ms ≤ 1048576 := by omega
  obtain ⟨c0, c1, c2, cf⟩ := (S4.out.bk 1 rfl).c3
  obtain ⟨g0, g1, g2, gf⟩ := (S4.out.bk 0 rfl).c3
  go_wp2_with fail
  go_cut [6] from 20 to 24 (fun s wx => s = .bool r0 ∧ ∃ (v : Value) (F : List Nat) (v' : Value) (F' : List Nat), Sn w wx [⟨trA d1, v', F'⟩, ⟨trA d0, v, F⟩, boxI (w.heap.size + 1) 33 [.string d1.nm, .int .i64 d1.fa, .slice U1 d1.ms.length cu1], boxI w.heap.size 33 [.string d0.nm, .int .i64 d0.fa, .slice U0 d0.ms.length cu0]])
  case first =>
    have S5 := Lib.hid (S4.out.drew1)
    clear S4
    go_region_with (first
      | (go_at_call_of 19 (Value.agg #[Value.string d0.nm, Value.int IntKind.i64 d0.fa, Value.slice U0 d0.ms.length cu0]); refine (toA_any d0 _ _ (by exact S5.out.old HR0.out) (by omega)).mono ?_; rintro e wa ⟨va, Fa, rfl, o, h, b⟩; have S6 := Lib.hid (S5.out.new o h b); obtain ⟨e0, e1, e2, ef⟩ := (S6.out.bk 1 rfl).c3; clear S5 o h b)
      | (go_at_call_of 19 (Value.agg #[Value.string d1.nm, Value.int IntKind.i64 d1.fa, Value.slice U1 d1.ms.length cu1]); refine (toA_any d1 _ _ (by exact S6.out.old HR1.out) (by omega)).mono ?_; rintro e wb ⟨vb, Fb, rfl, o, h, b⟩; have S7 := Lib.hid (S6.out.new o h b); clear S6 o h b)
      | (go_at_call 39; refine (specActivityEqual_any d0 d1 _ _ _ (by exact S7.out.rd 1 rfl) (by exact S7.out.rd 0 rfl)).mono ?_; rintro e wc ⟨rfl, b⟩; rw [HV0.out]; have S8 := Lib.hid (S7.out.go b); clear S7 b))
    all_goals
      go_wp2_with fail
      go_meet
      case rel => exact ⟨rfl, _, _, _, _, S8.out⟩
  case rest =>
    obtain ⟨rfl, va, Fa, vb, Fb, hS⟩ := hcut
    have S9 := Lib.hid hS
    clear hS S4 c0 c1 c2 cf g0 g1 g2 gf
    obtain ⟨c0, c1, c2, cf⟩ := (S9.out.bk 3 rfl).c3
    go_wp2_with fail
    clear c0 c1 c2 cf
    refine (toA_any d0 _ _ (by exact S9.out.old HR0.out) (by omega)).mono ?_
    rintro e w10 ⟨v10_, F10, rfl, o, h, b⟩
    obtain ⟨U_10, cu_10, rfl⟩ := shapeA (Tr.own_rd _ _ _ o)
    have S10 := Lib.hid ((S9.out.new o h b).box 38 [.string d0.nm, .int .i64 d0.fa, .slice U_10 d0.ms.length cu_10])
    clear S9 o h b
    obtain ⟨c0, c1, c2, cf⟩ := (S10.out.bk 4 rfl).c3
    go_wp2_with fail
    clear c0 c1 c2 cf
    refine (toA_any d1 _ _ (by exact S10.out.old HR1.out) (by omega)).mono ?_
    rintro e w11 ⟨v11_, F11, rfl, o, h, b⟩
    obtain ⟨U_11, cu_11, rfl⟩ := shapeA (Tr.own_rd _ _ _ o)
    have S11 := Lib.hid ((S10.out.new o h b).box 38 [.string d1.nm, .int .i64 d1.fa, .slice U_11 d1.ms.length cu_11])
    clear S10 o h b
    obtain ⟨x0, x1, x2, xf⟩ := (S11.out.bk 2 rfl).c3
    obtain ⟨y0, y1, y2, yf⟩ := (S11.out.bk 0 rfl).c3
    go_wp2_with fail
    clear x0 x1 x2 xf y0 y1 y2 yf
    refine (implActivityEqual_any d0 d1 _ _ _ (by exact S11.out.rd 3 rfl) (by exact S11.out.rd 1 rfl)).mono ?_
    rintro e w12 ⟨rfl, b⟩
    have S12 := Lib.hid (S11.out.go b)
    clear S11 b
    rw [HV0.out]
    obtain ⟨c0, c1, c2, cf⟩ := (S12.out.bk 2 rfl).c3
    obtain ⟨g0, g1, g2, gf⟩ := (S12.out.bk 7 rfl).c3
    have S13 := Lib.hid (S12.out.drew1)
    clear S12
    go_wp2_with fail
    go_region_with (first
      | (go_at_call 19; refine (toA_any d0 _ _ (by exact S13.out.old HR0.out) (by omega)).mono ?_; rintro e w14 ⟨v14_, F14, rfl, o, h, b⟩; have S14 := Lib.hid (S13.out.new o h b); obtain ⟨e0, e1, e2, ef⟩ := (S14.out.bk 3 rfl).c3; clear S13 o h b)
      | (go_at_call 21; refine (eqA_any d0 d0 _ _ _ (by exact S14.out.rd 4 rfl) (by exact S14.out.rd 0 rfl)).mono ?_; rintro e w15 ⟨rfl, b⟩; rw [decide_eq_true rfl]; have S15 := Lib.hid (S14.out.go b); clear S14 b))
    all_goals
      clear c0 c1 c2 cf g0 g1 g2 gf
      try clear e0 e1 e2 ef
      obtain ⟨c0, c1, c2, cf⟩ := (S15.out.bk 1 rfl).c3
      obtain ⟨g0, g1, g2, gf⟩ := (S15.out.bk 7 rfl).c3
      have S16 := Lib.hid (S15.out.drew1)
      clear S15
      go_wp2_with fail
      go_region_with (first
        | (go_at_call 19; refine (toA_any d1 _ _ (by exact S16.out.old HR1.out) (by omega)).mono ?_; rintro e w17 ⟨v17_, F17, rfl, o, h, b⟩; have S17 := Lib.hid (S16.out.new o h b); obtain ⟨e0, e1, e2, ef⟩ := (S17.out.bk 2 rfl).c3; clear S16 o h b)
        | (go_at_call 21; refine (eqA_any d1 d1 _ _ _ (by exact S17.out.rd 3 rfl) (by exact S17.out.rd 0 rfl)).mono ?_; rintro e w18 ⟨rfl, b⟩; rw [decide_eq_true rfl]; have S18 := Lib.hid (S17.out.go b); clear S17 b))
      all_goals
        clear c0 c1 c2 cf g0 g1 g2 gf
        try clear e0 e1 e2 ef
        go_wp2
        go_ret
        exact ⟨rfl, S18.out.1⟩
end Go.Proofs.Ytlnbkhfjbpnbfaa
