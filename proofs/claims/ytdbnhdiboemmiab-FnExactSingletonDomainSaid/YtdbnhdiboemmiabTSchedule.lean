/- DERIVED. CONTRACTS of the laws' helpers over Schedule and slices of it, by trees. -/
import Derived.Test.YtdbnhdiboemmiabDats
import Derived.Test.YtdbnhdiboemmiabModT
import Derived.Deep.RegionWith
import Derived.Deep.RegionHeld3
namespace Go.Proofs.Ytdbnhdiboemmiab
open Go.RowKit
set_option linter.unusedVariables false

theorem thin_ScheduleL (d : Sc) : thinL (cellsSc d) := ⟨thin_ints _, thin_ints _, trivial⟩
theorem thin_ScheduleS (xs : List Sc) : (trScs xs).thins := thin_rows cellsSc_len (by omega) thin_ScheduleL xs

set_option maxRecDepth 100000 in
set_option maxHeartbeats 1000000 in
theorem szSchedule_t (d : Sc) (v : Value) (left : Int) (w : World) (hr : (trSc d).rd w v) (hk : (trSc d).ok) (h0 : 0 ≤ left) (h3 : left ≤ 1048576) :
    Calls Try.prog 13 #[v, .int .i64 left] w fun e w' => e = .returned (.int .i64 (if left < (trSc d).sz then -1 else left - (trSc d).sz)) ∧ Below w.heap.size w w' := by
  obtain ⟨A0, c0, A1, c1, rfl, r0, r1⟩ := rdSchedule_t hr
  clear hr
  obtain ⟨k0, k1, _⟩ := hk
  have R0 := Lib.hid r0
  have K0 := Lib.hid k0
  clear r0 k0
  have R1 := Lib.hid r1
  have K1 := Lib.hid k1
  clear r1 k1
  have HZ := Lib.hid (show (trSc d).sz = (trI d.st).sz + ((trI d.mo).sz + 0) from rfl)
  generalize (trSc d).sz = Z at HZ ⊢
  generalize hz0 : (trI d.st).sz = z0 at HZ
  have Z0 := Lib.hid hz0
  clear hz0
  generalize hz1 : (trI d.mo).sz = z1 at HZ
  have Z1 := Lib.hid hz1
  clear hz1
  generalize hres : (if left < (Z : Int) then -1 else left - (Z : Int)) = res
  have RES := Lib.hid hres
  clear hres
  have S0 := Lib.hid ((Sn.start w).box 37 [.slice A0 d.st.length c0, .slice A1 d.mo.length c1])
  go_enter Try.func13, Try.ntmps13
  go_wp2_with fail
  refine (szIntS_t d.st _ _ _ (by exact S0.out.old R0.out) K0.out (by omega) (by omega)).mono ?_
  rintro e w1 ⟨rfl, b⟩
  rw [Z0.out]
  have S1 := Lib.hid (S0.out.go b)
  clear S0 b
  by_cases hb0 : left < (z0 : Int)
  · rw [if_pos hb0]
    go_wp2
    go_ret
    exact ⟨ret_numZ (by rw [← RES.out, if_pos (by have := HZ.out; omega)]), S1.out.1⟩
  rw [if_neg hb0]
  have hq0 : 0 ≤ left - (z0 : Int) := by omega
  obtain ⟨e0, e1, ef⟩ := (S1.out.bk 0 rfl).c2
  go_wp2_with fail
  clear e0 e1 ef
  refine (szIntS_t d.mo _ _ _ (by exact S1.out.old R1.out) K1.out (by omega) (by omega)).mono ?_
  rintro e w2 ⟨rfl, b⟩
  rw [Z1.out]
  have S2 := Lib.hid (S1.out.go b)
  clear S1 b
  by_cases hb1 : left - (z0 : Int) < (z1 : Int)
  · rw [if_pos hb1]
    go_wp2
    go_ret
    exact ⟨ret_numZ (by rw [← RES.out, if_pos (by have := HZ.out; omega)]), S2.out.1⟩
  rw [if_neg hb1]
  have hq1 : 0 ≤ left - (z0 : Int) - (z1 : Int) := by omega
  go_wp2
  go_ret
  exact ⟨ret_numZ (by rw [← RES.out, if_neg (by have := HZ.out; omega)]; have := HZ.out; omega), S2.out.1⟩

set_option maxRecDepth 100000 in
set_option maxHeartbeats 1000000 in
theorem eqSchedule_t (d : Sc) (v u : Value) (w : World) (hv : (trSc d).rd w v) (hu : (trSc d).rd w u) :
    Calls Try.prog 17 #[v, u] w fun e w' => e = .returned (.bool true) ∧ Below w.heap.size w w' := by
  obtain ⟨A0, c0, A1, c1, rfl, r0, r1⟩ := rdSchedule_t hv
  obtain ⟨B0, b0, B1, b1, rfl, s0, s1⟩ := rdSchedule_t hu
  clear hv hu
  have R0 := Lib.hid r0
  have Q0 := Lib.hid s0
  clear r0 s0
  have R1 := Lib.hid r1
  have Q1 := Lib.hid s1
  clear r1 s1
  have S0 := Lib.hid (((Sn.start w).box 40 [.slice A0 d.st.length c0, .slice A1 d.mo.length c1]).box 40 [.slice B0 d.st.length b0, .slice B1 d.mo.length b1])
  simp only [World.size_alloc] at S0
  go_enter Try.func17, Try.ntmps17
  go_wp2_with fail
  refine (eqIntS_t d.st _ _ _ (by exact S0.out.old R0.out) (by exact S0.out.old Q0.out)).mono ?_
  rintro e w1 ⟨rfl, b⟩
  have S1 := Lib.hid (S0.out.go b)
  clear S0 b
  obtain ⟨e0, e1, ef⟩ := (S1.out.bk 1 rfl).c2
  obtain ⟨g0, g1, gf⟩ := (S1.out.bk 0 rfl).c2
  go_wp2_with fail
  clear e0 e1 ef g0 g1 gf
  refine (eqIntS_t d.mo _ _ _ (by exact S1.out.old R1.out) (by exact S1.out.old Q1.out)).mono ?_
  rintro e w2 ⟨rfl, b⟩
  have S2 := Lib.hid (S1.out.go b)
  clear S1 b
  go_wp2
  go_ret
  exact ⟨rfl, S2.out.1⟩

set_option maxRecDepth 100000 in
set_option maxHeartbeats 1000000 in
theorem toSchedule_t (d : Sc) (v : Value) (w : World) (hv : (trSc d).rd w v) (hl : (trSc d).sz ≤ 1073741824) :
    Calls Try.prog 15 #[v] w fun e w' => ∃ u F, e = .returned u ∧ (trSc d).own w' w.heap.size u F ∧ F.Nodup ∧ Below w.heap.size w w' := by
  obtain ⟨A0, c0, A1, c1, rfl, r0, r1⟩ := rdSchedule_t hv
  clear hv
  have R0 := Lib.hid r0
  clear r0
  have R1 := Lib.hid r1
  clear r1
  have hz : (trSc d).sz = (trI d.st).sz + ((trI d.mo).sz + 0) := rfl
  have hl0 : (trI d.st).sz ≤ 1073741824 := by omega
  have hl1 : (trI d.mo).sz ≤ 1073741824 := by omega
  clear hz hl
  have S0 := Lib.hid ((((Sn.start w).box 37 [.slice A0 d.st.length c0, .slice A1 d.mo.length c1]).box 40 [.slice none 0 0, .slice none 0 0]).box 40 [.slice none 0 0, .slice none 0 0])
  simp only [World.size_alloc] at S0
  go_enter Try.func15, Try.ntmps15
  go_wp2_with fail
  refine (toIntS_t d.st _ _ (by exact S0.out.old R0.out) hl0).mono ?_
  rintro e w1 ⟨u0, F0, rfl, o, h, b⟩
  obtain ⟨U0, n0, rfl⟩ := slice_ints (Tr.own_rd _ _ _ o)
  have S1 := Lib.hid (S0.out.new o h b)
  clear S0 o h b
  obtain ⟨e0, e1, ef⟩ := (S1.out.bk 3 rfl).c2
  obtain ⟨g0, g1, gf⟩ := (S1.out.bk 1 rfl).c2
  go_wp2_with fail
  clear e0 e1 ef g0 g1 gf
  have S1' := Lib.hid (S1.out.boxSet 1 rfl 0 (.slice U0 d.st.length n0))
  clear S1
  have S1 := S1'
  clear S1'
  refine (toIntS_t d.mo _ _ (by exact S1.out.old R1.out) hl1).mono ?_
  rintro e w2 ⟨u1, F1, rfl, o, h, b⟩
  obtain ⟨U1, n1, rfl⟩ := slice_ints (Tr.own_rd _ _ _ o)
  have S2 := Lib.hid (S1.out.new o h b)
  clear S1 o h b
  obtain ⟨e0, e1, ef⟩ := (S2.out.bk 4 rfl).c2
  obtain ⟨g0, g1, gf⟩ := (S2.out.bk 2 rfl).c2
  obtain ⟨z0, z1, zf⟩ := (S2.out.bk 3 rfl).c2
  go_wp2
  clear e0 e1 ef g0 g1 gf
  have SZ := ((S2.out.boxSet 2 rfl 1 (.slice U1 d.mo.length n1)).boxSet 3 rfl 0 (.slice U0 d.st.length n0)).boxSet 3 rfl 1 (.slice U1 d.mo.length n1)
  have P := SZ.nil0
  have P := (P.pick 1 rfl).pack
  have P := (P.pick 1 rfl).pack
  refine bodyPost_ret (v := .agg #[.slice U0 d.st.length n0, .slice U1 d.mo.length n1]) (by simp [results, Try.results15, go_sem, z0, z1]) rfl ⟨_, _, rfl, (P.own 0 rfl).1, (P.own 0 rfl).2, P.1⟩

theorem infoSchedule_t : (Try.prog.info? 40).map (fun i => (i.zero, i.size, i.bytes)) = some (some (.agg #[.slice none 0 0, .slice none 0 0]), 2, 48) := by kernel_rfl

set_option maxRecDepth 100000 in
set_option maxHeartbeats 1000000 in
theorem markSchedule_t (k B : Nat) (d : Sc) (v : Value) (F : List Nat) (w : World) (hown : (trSc d).own w B v F) (hn : F.Nodup) (h0 : 0 < k) (hk : k + cntO (cellsSc d) ≤ 1000000000) :
    Calls Try.prog 18 #[v, .int .i64 k] w fun e w' => ∃ F', e = .returned (.int .i64 (k + cntO (cellsSc d) : Nat)) ∧ (Tr.agg (mkdO k (cellsSc d))).own w' B v F' ∧ F'.Nodup ∧ (∀ x ∈ F', x ∈ F) ∧ Wr F w w' := by
  obtain ⟨A0, c0, A1, c1, rfl, _, _⟩ := rdSchedule_t (Tr.own_rd _ _ _ hown)
  have hlt := Tr.own_lt _ _ _ hown
  obtain ⟨vs, hvs, hL⟩ := hown
  obtain rfl : vs = [.slice A0 d.st.length c0, .slice A1 d.mo.length c1] := by
    injection hvs with hvs
    exact (congrArg Array.toList hvs).symm
  clear hvs
  have hC : cntO (cellsSc d) = (trI d.st).cnt + ((trI d.mo).cnt + 0) := rfl
  have CO := Lib.hid (show k + cntO (cellsSc d) = k + (trI d.st).cnt + (trI d.mo).cnt from by omega)
  have hk2 : k + (trI d.st).cnt + (trI d.mo).cnt ≤ 1000000000 := by omega
  clear hC hk
  generalize cntO (cellsSc d) = co at CO ⊢
  obtain ⟨hb0, hk0, hs0⟩ := boxes1 w 40 #[.slice A0 d.st.length c0, .slice A1 d.mo.length c1]
  have L0 := Lib.hid (ownL_keep _ _ _ hL (fun j hj => hb0.block j (hlt j hj).2))
  have N0 := Lib.hid hn
  have LT := Lib.hid hlt
  have W0 := Lib.hid (Wr.of_below (F := F) hb0 (Nat.le_refl _))
  clear hL hn hlt hb0 hs0
  go_enter Try.func18, Try.ntmps18
  go_wp2_with fail
  generalize w.alloc (.cells #[.slice A0 d.st.length c0, .slice A1 d.mo.length c1] 40) = w0 at hk0 L0 W0 ⊢
  have K0 := Lib.hid hk0
  have SUB0 := Lib.hid (fun x (hx : x ∈ F) => hx)
  clear hk0
  obtain ⟨x0, G0, hx0, ho0, hn0, hs0, back0⟩ := ownL_mark L0.out N0.out (i := 0) rfl
  obtain rfl : .slice A0 d.st.length c0 = x0 := Option.some.inj hx0
  clear hx0
  have BK0 := Lib.hid back0
  have HS0 := Lib.hid hs0
  have HO0 := Lib.hid ho0
  clear back0 hs0 ho0
  refine (markIntS_t (k) B d.st _ G0 _ (by exact HO0.out) hn0 (by omega) (by omega)).mono ?_
  rintro e w1 ⟨G0_, rfl, o, h, hs, hw⟩
  obtain ⟨F1, l, nn, ss, ww⟩ := BK0.out _ _ G0_ o h hs hw
  have L1 := Lib.hid l
  have N1 := Lib.hid nn
  have SUB1 := Lib.hid (fun x hx => SUB0.out x (ss x hx))
  have W1 := Lib.hid (W0.out.trans (ww.sub (fun x hx => SUB0.out x hx)))
  have K1 := Lib.hid (K0.out.wr hw (fun e => by have := (LT.out _ (SUB0.out _ (HS0.out _ e))).2; omega))
  clear l nn ss ww o h hs hw L0 N0 SUB0 W0 K0 BK0 HS0 HO0
  obtain ⟨x1, G1, hx1, ho1, hn1, hs1, back1⟩ := ownL_mark L1.out N1.out (i := 1) rfl
  obtain rfl : .slice A1 d.mo.length c1 = x1 := Option.some.inj hx1
  clear hx1
  have BK1 := Lib.hid back1
  have HS1 := Lib.hid hs1
  have HO1 := Lib.hid ho1
  clear back1 hs1 ho1
  obtain ⟨e0, e1, ef⟩ := K1.out.c2
  go_wp2_with fail
  clear e0 e1 ef
  refine (markIntS_t (k + (trI d.st).cnt) B d.mo _ G1 _ (by exact HO1.out) hn1 (by omega) (by omega)).mono ?_
  rintro e w2 ⟨G1_, rfl, o, h, hs, hw⟩
  obtain ⟨F2, l, nn, ss, ww⟩ := BK1.out _ _ G1_ o h hs hw
  have L2 := Lib.hid l
  have N2 := Lib.hid nn
  have SUB2 := Lib.hid (fun x hx => SUB1.out x (ss x hx))
  have W2 := Lib.hid (W1.out.trans (ww.sub (fun x hx => SUB1.out x hx)))
  have K2 := Lib.hid (K1.out.wr hw (fun e => by have := (LT.out _ (SUB1.out _ (HS1.out _ e))).2; omega))
  clear l nn ss ww o h hs hw L1 N1 SUB1 W1 K1 BK1 HS1 HO1
  go_wp2
  go_ret
  first | exact ⟨ret_numZ (by rw [CO.out]; rfl), F2, ⟨_, rfl, L2.out⟩, N2.out, SUB2.out, W2.out⟩ | exact ⟨F2, ret_numZ (by rw [CO.out]; rfl), ⟨_, rfl, L2.out⟩, N2.out, SUB2.out, W2.out⟩

end Go.Proofs.Ytdbnhdiboemmiab
