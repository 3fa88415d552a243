/- DERIVED. CONTRACTS of the laws' helpers over Project and slices of it, by trees. -/
import Derived.Test.YtaglfdkeomjpdaaGreatDats
import Derived.Test.YtaglfdkeomjpdaaGreatTActivity
import Derived.Test.YtaglfdkeomjpdaaGreatTLink
import Derived.Test.YtaglfdkeomjpdaaGreatTResource
import Derived.Test.YtaglfdkeomjpdaaGreatModT
import Derived.Deep.RegionWith
import Derived.Deep.RegionHeld3
namespace Go.Proofs.YtaglfdkeomjpdaaGreat
open Go.RowKit
set_option linter.unusedVariables false

theorem thin_ProjectL (d : Pj) : thinL (cellsPj d) := ⟨trivial, thin_ActivityS _, thin_LinkS _, thin_ResourceS _, thin_ints _, trivial⟩

set_option maxRecDepth 100000 in
set_option maxHeartbeats 1000000 in
theorem szProject_t (d : Pj) (v : Value) (left : Int) (w : World) (hr : (trPj d).rd w v) (hk : (trPj d).ok) (h0 : 0 ≤ left) (h3 : left ≤ 1048576) :
    Calls Tryz.prog 7 #[v, .int .i64 left] w fun e w' => e = .returned (.int .i64 (if left < (trPj d).sz then -1 else left - (trPj d).sz)) ∧ Below w.heap.size w w' := by
  obtain ⟨A1, c1, A2, c2, A3, c3, A4, c4, rfl, r1, r2, r3, r4⟩ := rdProject_t hr
  clear hr
  obtain ⟨k0, k1, k2, k3, k4, _⟩ := hk
  have R1 := Lib.hid r1
  have K1 := Lib.hid k1
  clear r1 k1
  have R2 := Lib.hid r2
  have K2 := Lib.hid k2
  clear r2 k2
  have R3 := Lib.hid r3
  have K3 := Lib.hid k3
  clear r3 k3
  have R4 := Lib.hid r4
  have K4 := Lib.hid k4
  clear r4 k4
  clear k0
  have HZ := Lib.hid (show (trPj d).sz = 0 + ((trAs d.acts).sz + ((trLs d.lks).sz + ((trRs d.ress).sz + ((trI d.stk).sz + 0)))) from rfl)
  generalize (trPj d).sz = Z at HZ ⊢
  generalize hz1 : (trAs d.acts).sz = z1 at HZ
  have Z1 := Lib.hid hz1
  clear hz1
  generalize hz2 : (trLs d.lks).sz = z2 at HZ
  have Z2 := Lib.hid hz2
  clear hz2
  generalize hz3 : (trRs d.ress).sz = z3 at HZ
  have Z3 := Lib.hid hz3
  clear hz3
  generalize hz4 : (trI d.stk).sz = z4 at HZ
  have Z4 := Lib.hid hz4
  clear hz4
  generalize hres : (if left < (Z : Int) then -1 else left - (Z : Int)) = res
  have RES := Lib.hid hres
  clear hres
  have S0 := Lib.hid ((Sn.start w).box 27 [.int .i64 d.dl, .slice A1 d.acts.length c1, .slice A2 d.lks.length c2, .slice A3 d.ress.length c3, .slice A4 d.stk.length c4])
  go_enter Tryz.func7, Tryz.ntmps7
  go_wp2_with fail
  refine (szActivityS_t d.acts _ _ _ (by exact S0.out.old R1.out) K1.out (by omega) (by omega)).mono ?_
  rintro e w1 ⟨rfl, b⟩
  rw [Z1.out]
  have S1 := Lib.hid (S0.out.go b)
  clear S0 b
  by_cases hb1 : left < (z1 : Int)
  · rw [if_pos hb1]
    go_wp2
    go_ret
    exact ⟨ret_numZ (by rw [← RES.out, if_pos (by have := HZ.out; omega)]), S1.out.1⟩
  rw [if_neg hb1]
  have hq1 : 0 ≤ left - (z1 : Int) := by omega
  obtain ⟨e0, e1, e2, e3, e4, ef⟩ := (S1.out.bk 0 rfl).c5
  go_wp2_with fail
  clear e0 e1 e2 e3 e4 ef
  refine (szLinkS_t d.lks _ _ _ (by exact S1.out.old R2.out) K2.out (by omega) (by omega)).mono ?_
  rintro e w2 ⟨rfl, b⟩
  rw [Z2.out]
  have S2 := Lib.hid (S1.out.go b)
  clear S1 b
  by_cases hb2 : left - (z1 : Int) < (z2 : Int)
  · rw [if_pos hb2]
    go_wp2
    go_ret
    exact ⟨ret_numZ (by rw [← RES.out, if_pos (by have := HZ.out; omega)]), S2.out.1⟩
  rw [if_neg hb2]
  have hq2 : 0 ≤ left - (z1 : Int) - (z2 : Int) := by omega
  obtain ⟨e0, e1, e2, e3, e4, ef⟩ := (S2.out.bk 0 rfl).c5
  go_wp2_with fail
  clear e0 e1 e2 e3 e4 ef
  refine (szResourceS_t d.ress _ _ _ (by exact S2.out.old R3.out) K3.out (by omega) (by omega)).mono ?_
  rintro e w3 ⟨rfl, b⟩
  rw [Z3.out]
  have S3 := Lib.hid (S2.out.go b)
  clear S2 b
  by_cases hb3 : left - (z1 : Int) - (z2 : Int) < (z3 : Int)
  · rw [if_pos hb3]
    go_wp2
    go_ret
    exact ⟨ret_numZ (by rw [← RES.out, if_pos (by have := HZ.out; omega)]), S3.out.1⟩
  rw [if_neg hb3]
  have hq3 : 0 ≤ left - (z1 : Int) - (z2 : Int) - (z3 : Int) := by omega
  obtain ⟨e0, e1, e2, e3, e4, ef⟩ := (S3.out.bk 0 rfl).c5
  go_wp2_with fail
  clear e0 e1 e2 e3 e4 ef
  refine (szIntS_t d.stk _ _ _ (by exact S3.out.old R4.out) K4.out (by omega) (by omega)).mono ?_
  rintro e w4 ⟨rfl, b⟩
  rw [Z4.out]
  have S4 := Lib.hid (S3.out.go b)
  clear S3 b
  by_cases hb4 : left - (z1 : Int) - (z2 : Int) - (z3 : Int) < (z4 : Int)
  · rw [if_pos hb4]
    go_wp2
    go_ret
    exact ⟨ret_numZ (by rw [← RES.out, if_pos (by have := HZ.out; omega)]), S4.out.1⟩
  rw [if_neg hb4]
  have hq4 : 0 ≤ left - (z1 : Int) - (z2 : Int) - (z3 : Int) - (z4 : Int) := by omega
  go_wp2
  go_ret
  exact ⟨ret_numZ (by rw [← RES.out, if_neg (by have := HZ.out; omega)]; have := HZ.out; omega), S4.out.1⟩

set_option maxRecDepth 100000 in
set_option maxHeartbeats 1000000 in
theorem eqProject_t (d : Pj) (v u : Value) (w : World) (hv : (trPj d).rd w v) (hu : (trPj d).rd w u) :
    Calls Tryz.prog 12 #[v, u] w fun e w' => e = .returned (.bool true) ∧ Below w.heap.size w w' := by
  obtain ⟨A1, c1, A2, c2, A3, c3, A4, c4, rfl, r1, r2, r3, r4⟩ := rdProject_t hv
  obtain ⟨B1, b1, B2, b2, B3, b3, B4, b4, rfl, s1, s2, s3, s4⟩ := rdProject_t hu
  clear hv hu
  have R1 := Lib.hid r1
  have Q1 := Lib.hid s1
  clear r1 s1
  have R2 := Lib.hid r2
  have Q2 := Lib.hid s2
  clear r2 s2
  have R3 := Lib.hid r3
  have Q3 := Lib.hid s3
  clear r3 s3
  have R4 := Lib.hid r4
  have Q4 := Lib.hid s4
  clear r4 s4
  have S0 := Lib.hid (((Sn.start w).box 36 [.int .i64 d.dl, .slice A1 d.acts.length c1, .slice A2 d.lks.length c2, .slice A3 d.ress.length c3, .slice A4 d.stk.length c4]).box 36 [.int .i64 d.dl, .slice B1 d.acts.length b1, .slice B2 d.lks.length b2, .slice B3 d.ress.length b3, .slice B4 d.stk.length b4])
  simp only [World.size_alloc] at S0
  go_enter Tryz.func12, Tryz.ntmps12
  go_wp2_with fail
  refine (eqActivityS_t d.acts _ _ _ (by exact S0.out.old R1.out) (by exact S0.out.old Q1.out)).mono ?_
  rintro e w1 ⟨rfl, b⟩
  have S1 := Lib.hid (S0.out.go b)
  clear S0 b
  obtain ⟨e0, e1, e2, e3, e4, ef⟩ := (S1.out.bk 1 rfl).c5
  obtain ⟨g0, g1, g2, g3, g4, gf⟩ := (S1.out.bk 0 rfl).c5
  go_wp2_with fail
  clear e0 e1 e2 e3 e4 ef g0 g1 g2 g3 g4 gf
  refine (eqLinkS_t d.lks _ _ _ (by exact S1.out.old R2.out) (by exact S1.out.old Q2.out)).mono ?_
  rintro e w2 ⟨rfl, b⟩
  have S2 := Lib.hid (S1.out.go b)
  clear S1 b
  obtain ⟨e0, e1, e2, e3, e4, ef⟩ := (S2.out.bk 1 rfl).c5
  obtain ⟨g0, g1, g2, g3, g4, gf⟩ := (S2.out.bk 0 rfl).c5
  go_wp2_with fail
  clear e0 e1 e2 e3 e4 ef g0 g1 g2 g3 g4 gf
  refine (eqResourceS_t d.ress _ _ _ (by exact S2.out.old R3.out) (by exact S2.out.old Q3.out)).mono ?_
  rintro e w3 ⟨rfl, b⟩
  have S3 := Lib.hid (S2.out.go b)
  clear S2 b
  obtain ⟨e0, e1, e2, e3, e4, ef⟩ := (S3.out.bk 1 rfl).c5
  obtain ⟨g0, g1, g2, g3, g4, gf⟩ := (S3.out.bk 0 rfl).c5
  go_wp2_with fail
  clear e0 e1 e2 e3 e4 ef g0 g1 g2 g3 g4 gf
  refine (eqIntS_t d.stk _ _ _ (by exact S3.out.old R4.out) (by exact S3.out.old Q4.out)).mono ?_
  rintro e w4 ⟨rfl, b⟩
  have S4 := Lib.hid (S3.out.go b)
  clear S3 b
  go_wp2
  go_ret
  exact ⟨rfl, S4.out.1⟩

set_option maxRecDepth 100000 in
set_option maxHeartbeats 1000000 in
theorem toProject_t (d : Pj) (v : Value) (w : World) (hv : (trPj d).rd w v) (hl : (trPj d).sz ≤ 1073741824) :
    Calls Tryz.prog 9 #[v] w fun e w' => ∃ u F, e = .returned u ∧ (trPj d).own w' w.heap.size u F ∧ F.Nodup ∧ Below w.heap.size w w' := by
  obtain ⟨A1, c1, A2, c2, A3, c3, A4, c4, rfl, r1, r2, r3, r4⟩ := rdProject_t hv
  clear hv
  have R1 := Lib.hid r1
  clear r1
  have R2 := Lib.hid r2
  clear r2
  have R3 := Lib.hid r3
  clear r3
  have R4 := Lib.hid r4
  clear r4
  have hz : (trPj d).sz = 0 + ((trAs d.acts).sz + ((trLs d.lks).sz + ((trRs d.ress).sz + ((trI d.stk).sz + 0)))) := rfl
  have hl1 : (trAs d.acts).sz ≤ 1073741824 := by omega
  have hl2 : (trLs d.lks).sz ≤ 1073741824 := by omega
  have hl3 : (trRs d.ress).sz ≤ 1073741824 := by omega
  have hl4 : (trI d.stk).sz ≤ 1073741824 := by omega
  clear hz hl
  have S0 := Lib.hid ((((Sn.start w).box 27 [.int .i64 d.dl, .slice A1 d.acts.length c1, .slice A2 d.lks.length c2, .slice A3 d.ress.length c3, .slice A4 d.stk.length c4]).box 36 [.int .i64 0, .slice none 0 0, .slice none 0 0, .slice none 0 0, .slice none 0 0]).box 36 [.int .i64 d.dl, .slice none 0 0, .slice none 0 0, .slice none 0 0, .slice none 0 0])
  simp only [World.size_alloc] at S0
  go_enter Tryz.func9, Tryz.ntmps9
  go_wp2_with fail
  refine (toActivityS_t d.acts _ _ (by exact S0.out.old R1.out) hl1).mono ?_
  rintro e w1 ⟨u1, F1, rfl, o, h, b⟩
  obtain ⟨U1, n1, rfl⟩ := rows_slice (Tr.own_rd _ _ _ o)
  have S1 := Lib.hid (S0.out.new o h b)
  clear S0 o h b
  obtain ⟨e0, e1, e2, e3, e4, ef⟩ := (S1.out.bk 3 rfl).c5
  obtain ⟨g0, g1, g2, g3, g4, gf⟩ := (S1.out.bk 1 rfl).c5
  go_wp2_with fail
  clear e0 e1 e2 e3 e4 ef g0 g1 g2 g3 g4 gf
  have S1' := Lib.hid (S1.out.boxSet 1 rfl 1 (.slice U1 d.acts.length n1))
  clear S1
  have S1 := S1'
  clear S1'
  refine (toLinkS_t d.lks _ _ (by exact S1.out.old R2.out) hl2).mono ?_
  rintro e w2 ⟨u2, F2, rfl, o, h, b⟩
  obtain ⟨U2, n2, rfl⟩ := rows_slice (Tr.own_rd _ _ _ o)
  have S2 := Lib.hid (S1.out.new o h b)
  clear S1 o h b
  obtain ⟨e0, e1, e2, e3, e4, ef⟩ := (S2.out.bk 4 rfl).c5
  obtain ⟨g0, g1, g2, g3, g4, gf⟩ := (S2.out.bk 2 rfl).c5
  go_wp2_with fail
  clear e0 e1 e2 e3 e4 ef g0 g1 g2 g3 g4 gf
  have S2' := Lib.hid (S2.out.boxSet 2 rfl 2 (.slice U2 d.lks.length n2))
  clear S2
  have S2 := S2'
  clear S2'
  refine (toResourceS_t d.ress _ _ (by exact S2.out.old R3.out) hl3).mono ?_
  rintro e w3 ⟨u3, F3, rfl, o, h, b⟩
  obtain ⟨U3, n3, rfl⟩ := rows_slice (Tr.own_rd _ _ _ o)
  have S3 := Lib.hid (S2.out.new o h b)
  clear S2 o h b
  obtain ⟨e0, e1, e2, e3, e4, ef⟩ := (S3.out.bk 5 rfl).c5
  obtain ⟨g0, g1, g2, g3, g4, gf⟩ := (S3.out.bk 3 rfl).c5
  go_wp2_with fail
  clear e0 e1 e2 e3 e4 ef g0 g1 g2 g3 g4 gf
  have S3' := Lib.hid (S3.out.boxSet 3 rfl 3 (.slice U3 d.ress.length n3))
  clear S3
  have S3 := S3'
  clear S3'
  refine (toIntS_t d.stk _ _ (by exact S3.out.old R4.out) hl4).mono ?_
  rintro e w4 ⟨u4, F4, rfl, o, h, b⟩
  obtain ⟨U4, n4, rfl⟩ := slice_ints (Tr.own_rd _ _ _ o)
  have S4 := Lib.hid (S3.out.new o h b)
  clear S3 o h b
  obtain ⟨e0, e1, e2, e3, e4, ef⟩ := (S4.out.bk 6 rfl).c5
  obtain ⟨g0, g1, g2, g3, g4, gf⟩ := (S4.out.bk 4 rfl).c5
  obtain ⟨z0, z1, z2, z3, z4, zf⟩ := (S4.out.bk 5 rfl).c5
  go_wp2
  clear e0 e1 e2 e3 e4 ef g0 g1 g2 g3 g4 gf
  have SZ := (((((S4.out.boxSet 4 rfl 4 (.slice U4 d.stk.length n4)).boxSet 5 rfl 0 (.int .i64 d.dl)).boxSet 5 rfl 1 (.slice U1 d.acts.length n1)).boxSet 5 rfl 2 (.slice U2 d.lks.length n2)).boxSet 5 rfl 3 (.slice U3 d.ress.length n3)).boxSet 5 rfl 4 (.slice U4 d.stk.length n4)
  have P := SZ.nil0
  have P := (P.pick 1 rfl).pack
  have P := (P.pick 1 rfl).pack
  have P := (P.pick 1 rfl).pack
  have P := (P.pick 1 rfl).pack
  have P := P.pack1 (.int .i64 d.dl)
  refine bodyPost_ret (v := .agg #[.int .i64 d.dl, .slice U1 d.acts.length n1, .slice U2 d.lks.length n2, .slice U3 d.ress.length n3, .slice U4 d.stk.length n4]) (by simp [results, Tryz.results9, go_sem, z0, z1, z2, z3, z4]) rfl ⟨_, _, rfl, (P.own 0 rfl).1, (P.own 0 rfl).2, P.1⟩

set_option maxRecDepth 100000 in
set_option maxHeartbeats 1000000 in
theorem markProject_t (k B : Nat) (d : Pj) (v : Value) (F : List Nat) (w : World) (hown : (trPj d).own w B v F) (hn : F.Nodup) (h0 : 0 < k) (hk : k + cntO (cellsPj d) ≤ 1000000000) :
    Calls Tryz.prog 21 #[v, .int .i64 k] w fun e w' => ∃ F', e = .returned (.int .i64 (k + cntO (cellsPj d) : Nat)) ∧ (Tr.agg (mkdO k (cellsPj d))).own w' B v F' ∧ F'.Nodup ∧ (∀ x ∈ F', x ∈ F) ∧ Wr F w w' := by
  obtain ⟨A1, c1, A2, c2, A3, c3, A4, c4, rfl, _, _, _, _⟩ := rdProject_t (Tr.own_rd _ _ _ hown)
  have hlt := Tr.own_lt _ _ _ hown
  obtain ⟨vs, hvs, hL⟩ := hown
  obtain rfl : vs = [.int .i64 d.dl, .slice A1 d.acts.length c1, .slice A2 d.lks.length c2, .slice A3 d.ress.length c3, .slice A4 d.stk.length c4] := by
    injection hvs with hvs
    exact (congrArg Array.toList hvs).symm
  clear hvs
  have hC : cntO (cellsPj d) = (trAs d.acts).cnt + ((trLs d.lks).cnt + ((trRs d.ress).cnt + ((trI d.stk).cnt + 0))) := rfl
  have CO := Lib.hid (show k + cntO (cellsPj d) = k + (trAs d.acts).cnt + (trLs d.lks).cnt + (trRs d.ress).cnt + (trI d.stk).cnt from by omega)
  have hk2 : k + (trAs d.acts).cnt + (trLs d.lks).cnt + (trRs d.ress).cnt + (trI d.stk).cnt ≤ 1000000000 := by omega
  clear hC hk
  generalize cntO (cellsPj d) = co at CO ⊢
  obtain ⟨hb0, hk0, hs0⟩ := boxes1 w 36 #[.int .i64 d.dl, .slice A1 d.acts.length c1, .slice A2 d.lks.length c2, .slice A3 d.ress.length c3, .slice A4 d.stk.length c4]
  have L0 := Lib.hid (ownL_keep _ _ _ hL (fun j hj => hb0.block j (hlt j hj).2))
  have N0 := Lib.hid hn
  have LT := Lib.hid hlt
  have W0 := Lib.hid (Wr.of_below (F := F) hb0 (Nat.le_refl _))
  clear hL hn hlt hb0 hs0
  go_enter Tryz.func21, Tryz.ntmps21
  go_wp2_with fail
  generalize w.alloc (.cells #[.int .i64 d.dl, .slice A1 d.acts.length c1, .slice A2 d.lks.length c2, .slice A3 d.ress.length c3, .slice A4 d.stk.length c4] 36) = w0 at hk0 L0 W0 ⊢
  have K0 := Lib.hid hk0
  have SUB0 := Lib.hid (fun x (hx : x ∈ F) => hx)
  clear hk0
  obtain ⟨x1, G1, hx1, ho1, hn1, hs1, back1⟩ := ownL_mark L0.out N0.out (i := 1) rfl
  obtain rfl : .slice A1 d.acts.length c1 = x1 := Option.some.inj hx1
  clear hx1
  have BK1 := Lib.hid back1
  have HS1 := Lib.hid hs1
  have HO1 := Lib.hid ho1
  clear back1 hs1 ho1
  refine (markActivityS_t (k) B d.acts _ G1 _ (by exact HO1.out) hn1 (by omega) (by omega)).mono ?_
  rintro e w1 ⟨G1_, rfl, o, h, hs, hw⟩
  obtain ⟨F1, l, nn, ss, ww⟩ := BK1.out _ _ G1_ o h hs hw
  have L1 := Lib.hid l
  have N1 := Lib.hid nn
  have SUB1 := Lib.hid (fun x hx => SUB0.out x (ss x hx))
  have W1 := Lib.hid (W0.out.trans (ww.sub (fun x hx => SUB0.out x hx)))
  have K1 := Lib.hid (K0.out.wr hw (fun e => by have := (LT.out _ (SUB0.out _ (HS1.out _ e))).2; omega))
  clear l nn ss ww o h hs hw L0 N0 SUB0 W0 K0 BK1 HS1 HO1
  obtain ⟨x2, G2, hx2, ho2, hn2, hs2, back2⟩ := ownL_mark L1.out N1.out (i := 2) rfl
  obtain rfl : .slice A2 d.lks.length c2 = x2 := Option.some.inj hx2
  clear hx2
  have BK2 := Lib.hid back2
  have HS2 := Lib.hid hs2
  have HO2 := Lib.hid ho2
  clear back2 hs2 ho2
  obtain ⟨e0, e1, e2, e3, e4, ef⟩ := K1.out.c5
  go_wp2_with fail
  clear e0 e1 e2 e3 e4 ef
  refine (markLinkS_t (k + (trAs d.acts).cnt) B d.lks _ G2 _ (by exact HO2.out) hn2 (by omega) (by omega)).mono ?_
  rintro e w2 ⟨G2_, rfl, o, h, hs, hw⟩
  obtain ⟨F2, l, nn, ss, ww⟩ := BK2.out _ _ G2_ o h hs hw
  have L2 := Lib.hid l
  have N2 := Lib.hid nn
  have SUB2 := Lib.hid (fun x hx => SUB1.out x (ss x hx))
  have W2 := Lib.hid (W1.out.trans (ww.sub (fun x hx => SUB1.out x hx)))
  have K2 := Lib.hid (K1.out.wr hw (fun e => by have := (LT.out _ (SUB1.out _ (HS2.out _ e))).2; omega))
  clear l nn ss ww o h hs hw L1 N1 SUB1 W1 K1 BK2 HS2 HO2
  obtain ⟨x3, G3, hx3, ho3, hn3, hs3, back3⟩ := ownL_mark L2.out N2.out (i := 3) rfl
  obtain rfl : .slice A3 d.ress.length c3 = x3 := Option.some.inj hx3
  clear hx3
  have BK3 := Lib.hid back3
  have HS3 := Lib.hid hs3
  have HO3 := Lib.hid ho3
  clear back3 hs3 ho3
  obtain ⟨e0, e1, e2, e3, e4, ef⟩ := K2.out.c5
  go_wp2_with fail
  clear e0 e1 e2 e3 e4 ef
  refine (markResourceS_t (k + (trAs d.acts).cnt + (trLs d.lks).cnt) B d.ress _ G3 _ (by exact HO3.out) hn3 (by omega) (by omega)).mono ?_
  rintro e w3 ⟨G3_, rfl, o, h, hs, hw⟩
  obtain ⟨F3, l, nn, ss, ww⟩ := BK3.out _ _ G3_ o h hs hw
  have L3 := Lib.hid l
  have N3 := Lib.hid nn
  have SUB3 := Lib.hid (fun x hx => SUB2.out x (ss x hx))
  have W3 := Lib.hid (W2.out.trans (ww.sub (fun x hx => SUB2.out x hx)))
  have K3 := Lib.hid (K2.out.wr hw (fun e => by have := (LT.out _ (SUB2.out _ (HS3.out _ e))).2; omega))
  clear l nn ss ww o h hs hw L2 N2 SUB2 W2 K2 BK3 HS3 HO3
  obtain ⟨x4, G4, hx4, ho4, hn4, hs4, back4⟩ := ownL_mark L3.out N3.out (i := 4) rfl
  obtain rfl : .slice A4 d.stk.length c4 = x4 := Option.some.inj hx4
  clear hx4
  have BK4 := Lib.hid back4
  have HS4 := Lib.hid hs4
  have HO4 := Lib.hid ho4
  clear back4 hs4 ho4
  obtain ⟨e0, e1, e2, e3, e4, ef⟩ := K3.out.c5
  go_wp2_with fail
  clear e0 e1 e2 e3 e4 ef
  refine (markIntS_t (k + (trAs d.acts).cnt + (trLs d.lks).cnt + (trRs d.ress).cnt) B d.stk _ G4 _ (by exact HO4.out) hn4 (by omega) (by omega)).mono ?_
  rintro e w4 ⟨G4_, rfl, o, h, hs, hw⟩
  obtain ⟨F4, l, nn, ss, ww⟩ := BK4.out _ _ G4_ o h hs hw
  have L4 := Lib.hid l
  have N4 := Lib.hid nn
  have SUB4 := Lib.hid (fun x hx => SUB3.out x (ss x hx))
  have W4 := Lib.hid (W3.out.trans (ww.sub (fun x hx => SUB3.out x hx)))
  have K4 := Lib.hid (K3.out.wr hw (fun e => by have := (LT.out _ (SUB3.out _ (HS4.out _ e))).2; omega))
  clear l nn ss ww o h hs hw L3 N3 SUB3 W3 K3 BK4 HS4 HO4
  go_wp2
  go_ret
  first | exact ⟨ret_numZ (by rw [CO.out]; rfl), F4, ⟨_, rfl, L4.out⟩, N4.out, SUB4.out, W4.out⟩ | exact ⟨F4, ret_numZ (by rw [CO.out]; rfl), ⟨_, rfl, L4.out⟩, N4.out, SUB4.out, W4.out⟩

end Go.Proofs.YtaglfdkeomjpdaaGreat
