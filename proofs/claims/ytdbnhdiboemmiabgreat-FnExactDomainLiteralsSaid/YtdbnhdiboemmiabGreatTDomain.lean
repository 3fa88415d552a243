/- DERIVED. CONTRACTS of the laws' helpers over Domain and slices of it, by trees. -/
import Derived.Test.YtdbnhdiboemmiabGreatDats
import Derived.Test.YtdbnhdiboemmiabGreatTPj
import Derived.Test.YtdbnhdiboemmiabGreatModT
import Derived.Deep.RegionWith
import Derived.Deep.RegionHeld3
namespace Go.Proofs.YtdbnhdiboemmiabGreat
open Go.RowKit
set_option linter.unusedVariables false

theorem thin_DomainL (d : Dm) : thinL (cellsDm d) := ⟨thin_ints _, thin_ints _, thin_IntSS _, trivial⟩
theorem thin_DomainS (xs : List Dm) : (trDms xs).thins := thin_rows cellsDm_len (by omega) thin_DomainL xs

set_option maxRecDepth 100000 in
set_option maxHeartbeats 1000000 in
theorem szDomain_t (d : Dm) (v : Value) (left : Int) (w : World) (hr : (trDm d).rd w v) (hk : (trDm d).ok) (h0 : 0 ≤ left) (h3 : left ≤ 1048576) :
    Calls Tryz.prog 5 #[v, .int .i64 left] w fun e w' => e = .returned (.int .i64 (if left < (trDm d).sz then -1 else left - (trDm d).sz)) ∧ Below w.heap.size w w' := by
  obtain ⟨A0, c0, A1, c1, A2, c2, rfl, r0, r1, r2⟩ := rdDomain_t hr
  clear hr
  obtain ⟨k0, k1, k2, _⟩ := hk
  have R0 := Lib.hid r0
  have K0 := Lib.hid k0
  clear r0 k0
  have R1 := Lib.hid r1
  have K1 := Lib.hid k1
  clear r1 k1
  have R2 := Lib.hid r2
  have K2 := Lib.hid k2
  clear r2 k2
  have HZ := Lib.hid (show (trDm d).sz = (trI d.mn).sz + ((trI d.mx).sz + ((trSu d.md).sz + 0)) from rfl)
  generalize (trDm d).sz = Z at HZ ⊢
  generalize hz0 : (trI d.mn).sz = z0 at HZ
  have Z0 := Lib.hid hz0
  clear hz0
  generalize hz1 : (trI d.mx).sz = z1 at HZ
  have Z1 := Lib.hid hz1
  clear hz1
  generalize hz2 : (trSu d.md).sz = z2 at HZ
  have Z2 := Lib.hid hz2
  clear hz2
  generalize hres : (if left < (Z : Int) then -1 else left - (Z : Int)) = res
  have RES := Lib.hid hres
  clear hres
  have S0 := Lib.hid ((Sn.start w).box 30 [.slice A0 d.mn.length c0, .slice A1 d.mx.length c1, .slice A2 d.md.length c2])
  go_enter Tryz.func5, Tryz.ntmps5
  go_wp2_with fail
  refine (szIntS_t d.mn _ _ _ (by exact S0.out.old R0.out) K0.out (by omega) (by omega)).mono ?_
  rintro e w1 ⟨rfl, b⟩
  rw [Z0.out]
  have S1 := Lib.hid (S0.out.go b)
  clear S0 b
  by_cases hb0 : left < (z0 : Int)
  · rw [if_pos hb0]
    go_wp2
    go_ret
    exact ⟨ret_numZ (by rw [← RES.out, if_pos (by have := HZ.out; omega)]), S1.out.1⟩
  rw [if_neg hb0]
  have hq0 : 0 ≤ left - (z0 : Int) := by omega
  obtain ⟨e0, e1, e2, ef⟩ := (S1.out.bk 0 rfl).c3
  go_wp2_with fail
  clear e0 e1 e2 ef
  refine (szIntS_t d.mx _ _ _ (by exact S1.out.old R1.out) K1.out (by omega) (by omega)).mono ?_
  rintro e w2 ⟨rfl, b⟩
  rw [Z1.out]
  have S2 := Lib.hid (S1.out.go b)
  clear S1 b
  by_cases hb1 : left - (z0 : Int) < (z1 : Int)
  · rw [if_pos hb1]
    go_wp2
    go_ret
    exact ⟨ret_numZ (by rw [← RES.out, if_pos (by have := HZ.out; omega)]), S2.out.1⟩
  rw [if_neg hb1]
  have hq1 : 0 ≤ left - (z0 : Int) - (z1 : Int) := by omega
  obtain ⟨e0, e1, e2, ef⟩ := (S2.out.bk 0 rfl).c3
  go_wp2_with fail
  clear e0 e1 e2 ef
  refine (szIntSS_t d.md _ _ _ (by exact S2.out.old R2.out) K2.out (by omega) (by omega)).mono ?_
  rintro e w3 ⟨rfl, b⟩
  rw [Z2.out]
  have S3 := Lib.hid (S2.out.go b)
  clear S2 b
  by_cases hb2 : left - (z0 : Int) - (z1 : Int) < (z2 : Int)
  · rw [if_pos hb2]
    go_wp2
    go_ret
    exact ⟨ret_numZ (by rw [← RES.out, if_pos (by have := HZ.out; omega)]), S3.out.1⟩
  rw [if_neg hb2]
  have hq2 : 0 ≤ left - (z0 : Int) - (z1 : Int) - (z2 : Int) := by omega
  go_wp2
  go_ret
  exact ⟨ret_numZ (by rw [← RES.out, if_neg (by have := HZ.out; omega)]; have := HZ.out; omega), S3.out.1⟩

set_option maxRecDepth 100000 in
set_option maxHeartbeats 1000000 in
theorem eqDomain_t (d : Dm) (v u : Value) (w : World) (hv : (trDm d).rd w v) (hu : (trDm d).rd w u) :
    Calls Tryz.prog 12 #[v, u] w fun e w' => e = .returned (.bool true) ∧ Below w.heap.size w w' := by
  obtain ⟨A0, c0, A1, c1, A2, c2, rfl, r0, r1, r2⟩ := rdDomain_t hv
  obtain ⟨B0, b0, B1, b1, B2, b2, rfl, s0, s1, s2⟩ := rdDomain_t hu
  clear hv hu
  have R0 := Lib.hid r0
  have Q0 := Lib.hid s0
  clear r0 s0
  have R1 := Lib.hid r1
  have Q1 := Lib.hid s1
  clear r1 s1
  have R2 := Lib.hid r2
  have Q2 := Lib.hid s2
  clear r2 s2
  have S0 := Lib.hid (((Sn.start w).box 41 [.slice A0 d.mn.length c0, .slice A1 d.mx.length c1, .slice A2 d.md.length c2]).box 41 [.slice B0 d.mn.length b0, .slice B1 d.mx.length b1, .slice B2 d.md.length b2])
  simp only [World.size_alloc] at S0
  go_enter Tryz.func12, Tryz.ntmps12
  go_wp2_with fail
  refine (eqIntS_t d.mn _ _ _ (by exact S0.out.old R0.out) (by exact S0.out.old Q0.out)).mono ?_
  rintro e w1 ⟨rfl, b⟩
  have S1 := Lib.hid (S0.out.go b)
  clear S0 b
  obtain ⟨e0, e1, e2, ef⟩ := (S1.out.bk 1 rfl).c3
  obtain ⟨g0, g1, g2, gf⟩ := (S1.out.bk 0 rfl).c3
  go_wp2_with fail
  clear e0 e1 e2 ef g0 g1 g2 gf
  refine (eqIntS_t d.mx _ _ _ (by exact S1.out.old R1.out) (by exact S1.out.old Q1.out)).mono ?_
  rintro e w2 ⟨rfl, b⟩
  have S2 := Lib.hid (S1.out.go b)
  clear S1 b
  obtain ⟨e0, e1, e2, ef⟩ := (S2.out.bk 1 rfl).c3
  obtain ⟨g0, g1, g2, gf⟩ := (S2.out.bk 0 rfl).c3
  go_wp2_with fail
  clear e0 e1 e2 ef g0 g1 g2 gf
  refine (eqIntSS_t d.md _ _ _ (by exact S2.out.old R2.out) (by exact S2.out.old Q2.out)).mono ?_
  rintro e w3 ⟨rfl, b⟩
  have S3 := Lib.hid (S2.out.go b)
  clear S2 b
  go_wp2
  go_ret
  exact ⟨rfl, S3.out.1⟩

set_option maxRecDepth 100000 in
set_option maxHeartbeats 1000000 in
theorem toDomain_t (d : Dm) (v : Value) (w : World) (hv : (trDm d).rd w v) (hl : (trDm d).sz ≤ 1073741824) :
    Calls Tryz.prog 8 #[v] w fun e w' => ∃ u F, e = .returned u ∧ (trDm d).own w' w.heap.size u F ∧ F.Nodup ∧ Below w.heap.size w w' := by
  obtain ⟨A0, c0, A1, c1, A2, c2, rfl, r0, r1, r2⟩ := rdDomain_t hv
  clear hv
  have R0 := Lib.hid r0
  clear r0
  have R1 := Lib.hid r1
  clear r1
  have R2 := Lib.hid r2
  clear r2
  have hz : (trDm d).sz = (trI d.mn).sz + ((trI d.mx).sz + ((trSu d.md).sz + 0)) := rfl
  have hl0 : (trI d.mn).sz ≤ 1073741824 := by omega
  have hl1 : (trI d.mx).sz ≤ 1073741824 := by omega
  have hl2 : (trSu d.md).sz ≤ 1073741824 := by omega
  clear hz hl
  have S0 := Lib.hid ((((Sn.start w).box 30 [.slice A0 d.mn.length c0, .slice A1 d.mx.length c1, .slice A2 d.md.length c2]).box 41 [.slice none 0 0, .slice none 0 0, .slice none 0 0]).box 41 [.slice none 0 0, .slice none 0 0, .slice none 0 0])
  simp only [World.size_alloc] at S0
  go_enter Tryz.func8, Tryz.ntmps8
  go_wp2_with fail
  refine (toIntS_t d.mn _ _ (by exact S0.out.old R0.out) hl0).mono ?_
  rintro e w1 ⟨u0, F0, rfl, o, h, b⟩
  obtain ⟨U0, n0, rfl⟩ := slice_ints (Tr.own_rd _ _ _ o)
  have S1 := Lib.hid (S0.out.new o h b)
  clear S0 o h b
  obtain ⟨e0, e1, e2, ef⟩ := (S1.out.bk 3 rfl).c3
  obtain ⟨g0, g1, g2, gf⟩ := (S1.out.bk 1 rfl).c3
  go_wp2_with fail
  clear e0 e1 e2 ef g0 g1 g2 gf
  have S1' := Lib.hid (S1.out.boxSet 1 rfl 0 (.slice U0 d.mn.length n0))
  clear S1
  have S1 := S1'
  clear S1'
  refine (toIntS_t d.mx _ _ (by exact S1.out.old R1.out) hl1).mono ?_
  rintro e w2 ⟨u1, F1, rfl, o, h, b⟩
  obtain ⟨U1, n1, rfl⟩ := slice_ints (Tr.own_rd _ _ _ o)
  have S2 := Lib.hid (S1.out.new o h b)
  clear S1 o h b
  obtain ⟨e0, e1, e2, ef⟩ := (S2.out.bk 4 rfl).c3
  obtain ⟨g0, g1, g2, gf⟩ := (S2.out.bk 2 rfl).c3
  go_wp2_with fail
  clear e0 e1 e2 ef g0 g1 g2 gf
  have S2' := Lib.hid (S2.out.boxSet 2 rfl 1 (.slice U1 d.mx.length n1))
  clear S2
  have S2 := S2'
  clear S2'
  refine (toIntSS_t d.md _ _ (by exact S2.out.old R2.out) hl2).mono ?_
  rintro e w3 ⟨u2, F2, rfl, o, h, b⟩
  obtain ⟨U2, n2, rfl⟩ := rows_slice (Tr.own_rd _ _ _ o)
  have S3 := Lib.hid (S2.out.new o h b)
  clear S2 o h b
  obtain ⟨e0, e1, e2, ef⟩ := (S3.out.bk 5 rfl).c3
  obtain ⟨g0, g1, g2, gf⟩ := (S3.out.bk 3 rfl).c3
  obtain ⟨z0, z1, z2, zf⟩ := (S3.out.bk 4 rfl).c3
  go_wp2
  clear e0 e1 e2 ef g0 g1 g2 gf
  have SZ := (((S3.out.boxSet 3 rfl 2 (.slice U2 d.md.length n2)).boxSet 4 rfl 0 (.slice U0 d.mn.length n0)).boxSet 4 rfl 1 (.slice U1 d.mx.length n1)).boxSet 4 rfl 2 (.slice U2 d.md.length n2)
  have P := SZ.nil0
  have P := (P.pick 1 rfl).pack
  have P := (P.pick 1 rfl).pack
  have P := (P.pick 1 rfl).pack
  refine bodyPost_ret (v := .agg #[.slice U0 d.mn.length n0, .slice U1 d.mx.length n1, .slice U2 d.md.length n2]) (by simp [results, Tryz.results8, go_sem, z0, z1, z2]) rfl ⟨_, _, rfl, (P.own 0 rfl).1, (P.own 0 rfl).2, P.1⟩

theorem infoDomain_t : (Tryz.prog.info? 41).map (fun i => (i.zero, i.size, i.bytes)) = some (some (.agg #[.slice none 0 0, .slice none 0 0, .slice none 0 0]), 3, 72) := by kernel_rfl

set_option maxRecDepth 100000 in
set_option maxHeartbeats 1000000 in
theorem markDomain_t (k B : Nat) (d : Dm) (v : Value) (F : List Nat) (w : World) (hown : (trDm d).own w B v F) (hn : F.Nodup) (h0 : 0 < k) (hk : k + cntO (cellsDm d) ≤ 1000000000) :
    Calls Tryz.prog 14 #[v, .int .i64 k] w fun e w' => ∃ F', e = .returned (.int .i64 (k + cntO (cellsDm d) : Nat)) ∧ (Tr.agg (mkdO k (cellsDm d))).own w' B v F' ∧ F'.Nodup ∧ (∀ x ∈ F', x ∈ F) ∧ Wr F w w' := by
  obtain ⟨A0, c0, A1, c1, A2, c2, rfl, _, _, _⟩ := rdDomain_t (Tr.own_rd _ _ _ hown)
  have hlt := Tr.own_lt _ _ _ hown
  obtain ⟨vs, hvs, hL⟩ := hown
  obtain rfl : vs = [.slice A0 d.mn.length c0, .slice A1 d.mx.length c1, .slice A2 d.md.length c2] := by
    injection hvs with hvs
    exact (congrArg Array.toList hvs).symm
  clear hvs
  have hC : cntO (cellsDm d) = (trI d.mn).cnt + ((trI d.mx).cnt + ((trSu d.md).cnt + 0)) := rfl
  have CO := Lib.hid (show k + cntO (cellsDm d) = k + (trI d.mn).cnt + (trI d.mx).cnt + (trSu d.md).cnt from by omega)
  have hk2 : k + (trI d.mn).cnt + (trI d.mx).cnt + (trSu d.md).cnt ≤ 1000000000 := by omega
  clear hC hk
  generalize cntO (cellsDm d) = co at CO ⊢
  obtain ⟨hb0, hk0, hs0⟩ := boxes1 w 41 #[.slice A0 d.mn.length c0, .slice A1 d.mx.length c1, .slice A2 d.md.length c2]
  have L0 := Lib.hid (ownL_keep _ _ _ hL (fun j hj => hb0.block j (hlt j hj).2))
  have N0 := Lib.hid hn
  have LT := Lib.hid hlt
  have W0 := Lib.hid (Wr.of_below (F := F) hb0 (Nat.le_refl _))
  clear hL hn hlt hb0 hs0
  go_enter Tryz.func14, Tryz.ntmps14
  go_wp2_with fail
  generalize w.alloc (.cells #[.slice A0 d.mn.length c0, .slice A1 d.mx.length c1, .slice A2 d.md.length c2] 41) = w0 at hk0 L0 W0 ⊢
  have K0 := Lib.hid hk0
  have SUB0 := Lib.hid (fun x (hx : x ∈ F) => hx)
  clear hk0
  obtain ⟨x0, G0, hx0, ho0, hn0, hs0, back0⟩ := ownL_mark L0.out N0.out (i := 0) rfl
  obtain rfl : .slice A0 d.mn.length c0 = x0 := Option.some.inj hx0
  clear hx0
  have BK0 := Lib.hid back0
  have HS0 := Lib.hid hs0
  have HO0 := Lib.hid ho0
  clear back0 hs0 ho0
  refine (markIntS_t (k) B d.mn _ G0 _ (by exact HO0.out) hn0 (by omega) (by omega)).mono ?_
  rintro e w1 ⟨G0_, rfl, o, h, hs, hw⟩
  obtain ⟨F1, l, nn, ss, ww⟩ := BK0.out _ _ G0_ o h hs hw
  have L1 := Lib.hid l
  have N1 := Lib.hid nn
  have SUB1 := Lib.hid (fun x hx => SUB0.out x (ss x hx))
  have W1 := Lib.hid (W0.out.trans (ww.sub (fun x hx => SUB0.out x hx)))
  have K1 := Lib.hid (K0.out.wr hw (fun e => by have := (LT.out _ (SUB0.out _ (HS0.out _ e))).2; omega))
  clear l nn ss ww o h hs hw L0 N0 SUB0 W0 K0 BK0 HS0 HO0
  obtain ⟨x1, G1, hx1, ho1, hn1, hs1, back1⟩ := ownL_mark L1.out N1.out (i := 1) rfl
  obtain rfl : .slice A1 d.mx.length c1 = x1 := Option.some.inj hx1
  clear hx1
  have BK1 := Lib.hid back1
  have HS1 := Lib.hid hs1
  have HO1 := Lib.hid ho1
  clear back1 hs1 ho1
  obtain ⟨e0, e1, e2, ef⟩ := K1.out.c3
  go_wp2_with fail
  clear e0 e1 e2 ef
  refine (markIntS_t (k + (trI d.mn).cnt) B d.mx _ G1 _ (by exact HO1.out) hn1 (by omega) (by omega)).mono ?_
  rintro e w2 ⟨G1_, rfl, o, h, hs, hw⟩
  obtain ⟨F2, l, nn, ss, ww⟩ := BK1.out _ _ G1_ o h hs hw
  have L2 := Lib.hid l
  have N2 := Lib.hid nn
  have SUB2 := Lib.hid (fun x hx => SUB1.out x (ss x hx))
  have W2 := Lib.hid (W1.out.trans (ww.sub (fun x hx => SUB1.out x hx)))
  have K2 := Lib.hid (K1.out.wr hw (fun e => by have := (LT.out _ (SUB1.out _ (HS1.out _ e))).2; omega))
  clear l nn ss ww o h hs hw L1 N1 SUB1 W1 K1 BK1 HS1 HO1
  obtain ⟨x2, G2, hx2, ho2, hn2, hs2, back2⟩ := ownL_mark L2.out N2.out (i := 2) rfl
  obtain rfl : .slice A2 d.md.length c2 = x2 := Option.some.inj hx2
  clear hx2
  have BK2 := Lib.hid back2
  have HS2 := Lib.hid hs2
  have HO2 := Lib.hid ho2
  clear back2 hs2 ho2
  obtain ⟨e0, e1, e2, ef⟩ := K2.out.c3
  go_wp2_with fail
  clear e0 e1 e2 ef
  refine (markIntSS_t (k + (trI d.mn).cnt + (trI d.mx).cnt) B d.md _ G2 _ (by exact HO2.out) hn2 (by omega) (by omega)).mono ?_
  rintro e w3 ⟨G2_, rfl, o, h, hs, hw⟩
  obtain ⟨F3, l, nn, ss, ww⟩ := BK2.out _ _ G2_ o h hs hw
  have L3 := Lib.hid l
  have N3 := Lib.hid nn
  have SUB3 := Lib.hid (fun x hx => SUB2.out x (ss x hx))
  have W3 := Lib.hid (W2.out.trans (ww.sub (fun x hx => SUB2.out x hx)))
  have K3 := Lib.hid (K2.out.wr hw (fun e => by have := (LT.out _ (SUB2.out _ (HS2.out _ e))).2; omega))
  clear l nn ss ww o h hs hw L2 N2 SUB2 W2 K2 BK2 HS2 HO2
  go_wp2
  go_ret
  first | exact ⟨ret_numZ (by rw [CO.out]; rfl), F3, ⟨_, rfl, L3.out⟩, N3.out, SUB3.out, W3.out⟩ | exact ⟨F3, ret_numZ (by rw [CO.out]; rfl), ⟨_, rfl, L3.out⟩, N3.out, SUB3.out, W3.out⟩

end Go.Proofs.YtdbnhdiboemmiabGreat
