/- DERIVED. CONTRACTS: the program's search for a cycle: leaves, sumOf, canFollow. -/
import Derived.Test.YtoggakfkpeloiaaGreatLkD
import Derived.BigQuiet
import Derived.Deep.RegionHeld3
import Derived.Deep.CutRange
namespace Go.Proofs.YtoggakfkpeloiaaGreat
open Go.RowKit Go.Shelf
set_option linter.unusedVariables false

theorem cast_pred {c m l : Nat} (h : l + 1 = c) (hl : l = m + 1) : (c : Int) - 1 = (m : Int) + 1 := by omega
theorem cast_ne {c m l : Nat} (h : ¬ l + 1 = c) (hl : l = m + 1) : ¬ ((m : Int) + 1 = (c : Int) - 1) := by omega
theorem cell3 {W : World} {g : Nat} (h : g < W.heap.size) (o1 o2 o3 : Obj) (i : Nat) : (((W.alloc o1).alloc o2).alloc o3).cell? ⟨g, i, none⟩ = W.cell? ⟨g, i, none⟩ := by
  rw [World.cell?_alloc_lt _ _ _ (by simp; omega), World.cell?_alloc_lt _ _ _ (by simp; omega), World.cell?_alloc_lt _ _ _ h]
theorem rdUp {w : World} {v : Value} {C : List Nat} (h : Rd w v ((up C).map (.int .i64))) :
    C.length ≤ maxLen ∧ ∃ A c, v = .slice A C.length c ∧ ∀ k, k < C.length → ∃ b o, A = some ⟨b, o, none⟩ ∧ b < w.heap.size ∧ ∀ j, (h : j < C.length) → w.cell? ⟨b, o + j, none⟩ = some (.int .i64 (C[j] : Int)) := by
  obtain ⟨hl, A, c, he, g⟩ := rdI h
  rw [up_len] at hl he
  refine ⟨hl, A, c, he, fun k hk => ?_⟩
  obtain ⟨b, o, hA, hb, hc⟩ := g k (by rw [up_len]; exact hk)
  refine ⟨b, o, hA, hb, fun j hj => ?_⟩
  rw [hc j (by rw [up_len]; exact hj), up_at hj]


set_option maxRecDepth 100000 in
set_option maxHeartbeats 4000000 in
theorem implLeaves_any (p : Pj) (C : List Nat) (y : Int) (v u : Value) (w : World) (hv : (trPj p).rd w v) (hu : Rd w u ((up C).map (.int .i64))) (hC : ∀ x ∈ C, x < p.lks.length) :
    Calls Tryz.prog 143 #[v, u, .int .i64 y] w fun e w' => e = .returned (.bool (leavesB p.lks C y)) ∧ Below w.heap.size w w' := by
  have HV := Lib.hid hv
  obtain ⟨A1, c1, A2, c2, A3, c3, A4, c4, rfl, r1, r2, r3, r4⟩ := rdProject_t hv
  obtain ⟨hl2, B2, d2, he, g2⟩ := rdLinkS_t r2
  injection he with he _ he2
  subst he he2
  have G2 := Lib.hid g2
  clear hv r1 r2 r3 r4 g2
  obtain ⟨hcl, AC, cC, hce, gc⟩ := rdUp hu
  subst hce
  have GC := Lib.hid gc
  clear gc hu
  unfold maxLen at hcl
  have HC := Lib.hid hC
  clear hC
  have S0 := Lib.hid ((Sn.start w).box 35 [.int .i64 p.dl, .slice A1 p.acts.length c1, .slice A2 p.lks.length c2, .slice A3 p.ress.length c3, .slice A4 p.stk.length c4])
  go_enter Tryz.func143, Tryz.ntmps143
  obtain ⟨e0, e1, e2, e3, e4, ef⟩ := (S0.out.bk 0 rfl).c5
  go_wp2
  clear e0 e1 e2 e3 e4 ef
  go_loopw [11] (fun i wr => ∃ k : Nat, k ≤ C.length ∧ i = .int .i64 k ∧ (∀ j, (hj : j < C.length) → j < k → frA p.lks C[j] ≠ y) ∧ Sn w wr [boxI w.heap.size 35 [.int .i64 p.dl, .slice A1 p.acts.length c1, .slice A2 p.lks.length c2, .slice A3 p.ress.length c3, .slice A4 p.stk.length c4]]) (fun i _ => C.length - (intOf i).toNat)
  case atStart => exact ⟨0, Nat.zero_le _, rfl, fun j _ h => absurd h (by omega), S0.out⟩
  case round =>
    obtain ⟨k, hkl, rfl, hall, hS⟩ := hrel
    have S1 := Lib.hid hS
    have HALL := Lib.hid hall
    clear hS S0 hall
    by_cases hlt : k < C.length
    · have hlt' : (k : Int) < (C.length : Int) := by omega
      obtain ⟨b1, o1, rfl, hb1, hc1⟩ := GC.out k hlt
      have hz0 := (S1.out.1.cell (p := ⟨b1, o1 + k, none⟩) hb1).trans (hc1 k hlt)
      have hx := HC.out _ (List.getElem_mem hlt)
      have LY := Lib.hid (fun h => leaves_yes (y := y) (ls := p.lks) hlt h)
      have ALL := Lib.hid (fun (h : frA p.lks C[k] ≠ y) j (hj : j < C.length) (hjk : j < k + 1) => (if e : j < k then HALL.out j hj e else by obtain rfl : j = k := (by omega); exact h : frA p.lks C[j] ≠ y))
      clear hc1 HALL
      generalize C[k] = x at hz0 hx LY ALL
      have hx' : (x : Int) < (p.lks.length : Int) := by omega
      obtain ⟨b, o, rfl, hb, hc⟩ := G2.out x hx
      obtain ⟨y0, y1, y2, y3⟩ := hc x hx
      have hy0 := (S1.out.1.cell (p := ⟨b, o + x * 4, none⟩) hb).trans y0
      rw [← frA_yes hx] at hy0
      clear hc y0 y1 y2 y3 hx
      generalize frA p.lks x = f at hy0 LY ALL
      obtain ⟨e0, e1, e2, e3, e4, ef⟩ := (S1.out.bk 0 rfl).c5
      by_cases hf : f = y
      · have HL := Lib.hid (LY.out hf)
        clear LY ALL
        subst hf
        go_wp2
        go_ret
        exact ⟨by rw [HL.out] <;> rfl, S1.out.1⟩
      · have HA := Lib.hid (ALL.out hf)
        clear LY ALL
        go_wp2
        clear e0 e1 e2 e3 e4 ef
        go_roundw
        case rel => exact ⟨k + 1, by omega, by go_num, HA.out, S1.out⟩
        case measure => simp [intOf]; omega
    · have hge : ¬ (k : Int) < (C.length : Int) := by omega
      obtain rfl : k = C.length := by omega
      have HL := Lib.hid (leaves_no (fun j hj => HALL.out j hj hj))
      go_wp2
      go_ret
      exact ⟨by rw [HL.out] <;> rfl, S1.out.1⟩


set_option maxRecDepth 100000 in
set_option maxHeartbeats 4000000 in
theorem implSumOf_any (G : List Int) (C : List Nat) (ug u : Value) (w : World) (hg : Rd w ug (G.map (.int .i64))) (hu : Rd w u ((up C).map (.int .i64))) (hC : ∀ x ∈ C, x < G.length) :
    Calls Tryz.prog 131 #[ug, u] w fun e w' => e = .returned (.int .i64 (sumG G C)) ∧ Below w.heap.size w w' := by
  obtain ⟨hgl, AG, cG, hge, gg⟩ := rdI hg
  subst hge
  have GG := Lib.hid gg
  clear gg hg
  unfold maxLen at hgl
  obtain ⟨hcl, AC, cC, hce, gc⟩ := rdUp hu
  subst hce
  have GC := Lib.hid gc
  clear gc hu
  unfold maxLen at hcl
  have HC := Lib.hid hC
  clear hC
  go_enter Tryz.func131, Tryz.ntmps131
  go_wp2
  go_loopw [5, 10] (fun s i wr => ∃ k : Nat, k ≤ C.length ∧ i = .int .i64 k ∧ s = .int .i64 (sumG G (C.take k)) ∧ Below w.heap.size w wr) (fun _ i _ => C.length - (intOf i).toNat)
  case atStart => exact ⟨0, Nat.zero_le _, rfl, rfl, Below.refl _ _⟩
  case round =>
    obtain ⟨k, hkl, rfl, rfl, hB⟩ := hrel
    have HB := Lib.hid hB
    clear hB
    by_cases hlt : k < C.length
    · have hlt' : (k : Int) < (C.length : Int) := by omega
      obtain ⟨b1, o1, rfl, hb1, hc1⟩ := GC.out k hlt
      have hz0 := (HB.out.cell (p := ⟨b1, o1 + k, none⟩) hb1).trans (hc1 k hlt)
      have hx := HC.out _ (List.getElem_mem hlt)
      have NX := Lib.hid (sumG_take (G := G) hlt)
      clear hc1
      generalize C[k] = x at hz0 hx NX
      have hx' : (x : Int) < (G.length : Int) := by omega
      obtain ⟨b, o, rfl, hb, hc⟩ := GG.out x hx
      have hy0 := (HB.out.cell (p := ⟨b, o + x, none⟩) hb).trans (hc x hx)
      have NX2 := Lib.hid (NX.out.trans (by rw [List.getD_eq_getElem?_getD, List.getElem?_eq_getElem hx]; rfl : _ = wrap64 (sumG G (C.take k) + G[x])))
      clear hc NX
      generalize G[x] = y at hy0 NX2
      generalize sumG G (C.take k) = s at NX2 ⊢
      go_wp2
      go_roundw
      case rel => exact ⟨k + 1, by omega, by go_num, by rw [NX2.out], HB.out⟩
      case measure => simp [intOf]; omega
    · have hge : ¬ (k : Int) < (C.length : Int) := by omega
      obtain rfl : k = C.length := by omega
      have HT := Lib.hid (show sumG G (C.take C.length) = sumG G C by rw [List.take_length])
      rw [HT.out]
      go_wp2
      go_ret
      exact ⟨rfl, HB.out⟩


set_option maxRecDepth 100000 in
set_option maxHeartbeats 8000000 in
theorem implCanFollow_any (p : Pj) (c : Nat) (C : List Nat) (k : Nat) (v u : Value) (w : World) (hv : (trPj p).rd w v) (hu : Rd w u ((up C).map (.int .i64))) (hC : ∀ x ∈ C, x < p.lks.length) (hk : k < p.lks.length) (hc6 : c ≤ 6) (hcl : C.length < c) :
    Calls Tryz.prog 130 #[v, u, .int .i64 (k : Int), .int .i64 (c : Int)] w fun e w' => e = .returned (.bool (folB p.lks c C k)) ∧ Below w.heap.size w w' := by
  have HV := Lib.hid hv
  obtain ⟨A1, c1, A2, c2, A3, c3, A4, c4, rfl, r1, r2, r3, r4⟩ := rdProject_t hv
  obtain ⟨hl2, B2, d2, he, g2⟩ := rdLinkS_t r2
  injection he with he _ he2
  subst he he2
  have G2 := Lib.hid g2
  clear hv r1 r2 r3 r4 g2
  have HUR := Lib.hid hu
  obtain ⟨hul, AC, cC, hce, gc⟩ := rdUp hu
  subst hce
  have GC := Lib.hid gc
  clear gc hu
  unfold maxLen at hul
  have HC := Lib.hid hC
  clear hC
  have S0 := Lib.hid ((Sn.start w).box 35 [.int .i64 p.dl, .slice A1 p.acts.length c1, .slice A2 p.lks.length c2, .slice A3 p.ress.length c3, .slice A4 p.stk.length c4])
  rcases Nat.eq_zero_or_pos C.length with h0 | h0
  · have HF := Lib.hid (show folB p.lks c C k = true by rw [List.length_eq_zero_iff.1 h0]; rfl)
    rw [h0]
    obtain ⟨e0, e1, e2, e3, e4, ef⟩ := (S0.out.bk 0 rfl).c5
    go_enter Tryz.func130, Tryz.ntmps130
    go_wp2
    go_ret
    exact ⟨by rw [HF.out] <;> rfl, S0.out.1⟩
  have FA := Lib.hid (folB_at (ls := p.lks) (c := c) (k := k) h0)
  obtain ⟨b1, o1, rfl, hb1, hc1⟩ := GC.out 0 h0
  have hz0 := hc1 0 h0
  have hz1 := hc1 (C.length - 1) (by omega)
  have hx0 := HC.out _ (List.getElem_mem (l := C) (n := 0) h0)
  have hx1 := HC.out _ (List.getElem_mem (l := C) (n := C.length - 1) (by omega))
  rw [Nat.add_zero] at hz0
  clear hc1 GC
  obtain ⟨m, hm⟩ : ∃ m, C.length = m + 1 := ⟨C.length - 1, by omega⟩
  have HM := Lib.hid hm
  generalize hq0 : C[0] = x0 at hz0 hx0 FA
  generalize hq1 : C[C.length - 1]'(by omega) = x1 at hz1 hx1 FA
  clear hq0 hq1
  have HLV := Lib.hid (fun (y : Int) (W : World) (hb : Below w.heap.size w W) => implLeaves_any p C y _ _ W ((Tr.rd_below hb (Nat.le_refl _) _ _ HV.out)) (HUR.out.below hb (Nat.le_refl _)) HC.out)
  rw [hm] at hz1 ⊢ hcl HLV
  simp only [Nat.add_sub_cancel] at hz1
  clear h0 hm HUR
  obtain ⟨b, o, rfl, hb, hc⟩ := G2.out k hk
  obtain ⟨y0, y1, y2, y3⟩ := hc k hk
  obtain ⟨z0, z1, z2, z3⟩ := hc x0 hx0
  obtain ⟨t0, t1, t2, t3⟩ := hc x1 hx1
  rw [frA_yes hk, toA_yes hk, toA_yes hx1, frA_yes hx0] at FA
  have hk' : (k : Int) < (p.lks.length : Int) := by omega
  have hx0' : (x0 : Int) < (p.lks.length : Int) := by omega
  have hx1' : (x1 : Int) < (p.lks.length : Int) := by omega
  clear hc G2
  generalize p.lks[k] = l at y0 y1 y2 y3 FA
  generalize p.lks[x0] = l0 at z0 z1 z2 z3 FA
  generalize p.lks[x1] = l1 at t0 t1 t2 t3 FA
  clear hk hx0 hx1
  have hb1' := hb1
  obtain ⟨e0, e1, e2, e3, e4, ef⟩ := (S0.out.bk 0 rfl).c5
  go_enter Tryz.func130, Tryz.ntmps130
  go_wp2_with fail
  clear e0 e1 e2 e3 e4 ef
  have S1 := Lib.hid S0.out
  clear S0
  generalize World.alloc w _ = wv at S1 ⊢
  obtain ⟨e0, e1, e2, e3, e4, ef⟩ := (S1.out.bk 0 rfl).c5
  have hvl := (S1.out.bk 0 rfl).lt
  have vu0 := (S1.out.1.cell (p := ⟨b1, o1, none⟩) hb1).trans hz0
  have vu1 := (S1.out.1.cell (p := ⟨b1, o1 + m, none⟩) hb1).trans hz1
  have vy0 := (S1.out.1.cell (p := ⟨b, o + k * 4, none⟩) hb).trans y0
  have vy1 := (S1.out.1.cell (p := ⟨b, o + k * 4 + 1, none⟩) hb).trans y1
  have vy2 := (S1.out.1.cell (p := ⟨b, o + k * 4 + 2, none⟩) hb).trans y2
  have vy3 := (S1.out.1.cell (p := ⟨b, o + k * 4 + 3, none⟩) hb).trans y3
  have vz0 := (S1.out.1.cell (p := ⟨b, o + x0 * 4, none⟩) hb).trans z0
  have vz1 := (S1.out.1.cell (p := ⟨b, o + x0 * 4 + 1, none⟩) hb).trans z1
  have vz2 := (S1.out.1.cell (p := ⟨b, o + x0 * 4 + 2, none⟩) hb).trans z2
  have vz3 := (S1.out.1.cell (p := ⟨b, o + x0 * 4 + 3, none⟩) hb).trans z3
  have vt0 := (S1.out.1.cell (p := ⟨b, o + x1 * 4, none⟩) hb).trans t0
  have vt1 := (S1.out.1.cell (p := ⟨b, o + x1 * 4 + 1, none⟩) hb).trans t1
  have vt2 := (S1.out.1.cell (p := ⟨b, o + x1 * 4 + 2, none⟩) hb).trans t2
  have vt3 := (S1.out.1.cell (p := ⟨b, o + x1 * 4 + 3, none⟩) hb).trans t3
  clear hz0 hz1 y0 y1 y2 y3 z0 z1 z2 z3 t0 t1 t2 t3
  have hm6 : (m : Int) < 6 := by omega
  have hm0 : (0 : Int) ≤ (m : Int) := by omega
  have hwm : IntKind.i64.wrap (m : Int) = (m : Int) := by rw [IntWalk.i64_left]; unfold wrap64; omega
  have hmb : (m : Int) < (m : Int) + 1 := by omega
  have hmb2 : (m : Int) < ((m + 1 : Nat) : Int) := by omega
  have hw1 : IntKind.i64.wrap ((m : Int) + 1 - 1) = (m : Int) := by rw [IntWalk.i64_left]; unfold wrap64; omega
  have hw2 : wrap64 ((m : Int) + 1 - 1) = (m : Int) := by unfold wrap64; omega
  have hw3 : wrap64 (m : Int) = (m : Int) := by unfold wrap64; omega
  have hbv : b < wv.heap.size := Nat.lt_of_lt_of_le hb S1.out.1.size
  have hb1v : b1 < wv.heap.size := Nat.lt_of_lt_of_le hb1 S1.out.1.size
  have CE := Lib.hid (fun (W : World) (hb : Below wv.heap.size wv W) => (⟨Lib.hid hb, (hb.cell (p := ⟨w.heap.size, 2, none⟩) hvl).trans e2, (hb.cell (p := ⟨b1, o1, none⟩) hb1v).trans vu0, (hb.cell (p := ⟨b1, o1 + m, none⟩) hb1v).trans vu1, (hb.cell (p := ⟨b, o + k * 4, none⟩) hbv).trans vy0, (hb.cell (p := ⟨b, o + k * 4 + 1, none⟩) hbv).trans vy1, (hb.cell (p := ⟨b, o + k * 4 + 2, none⟩) hbv).trans vy2, (hb.cell (p := ⟨b, o + k * 4 + 3, none⟩) hbv).trans vy3, (hb.cell (p := ⟨b, o + x0 * 4, none⟩) hbv).trans vz0, (hb.cell (p := ⟨b, o + x0 * 4 + 1, none⟩) hbv).trans vz1, (hb.cell (p := ⟨b, o + x0 * 4 + 2, none⟩) hbv).trans vz2, (hb.cell (p := ⟨b, o + x0 * 4 + 3, none⟩) hbv).trans vz3, (hb.cell (p := ⟨b, o + x1 * 4, none⟩) hbv).trans vt0, (hb.cell (p := ⟨b, o + x1 * 4 + 1, none⟩) hbv).trans vt1, (hb.cell (p := ⟨b, o + x1 * 4 + 2, none⟩) hbv).trans vt2, (hb.cell (p := ⟨b, o + x1 * 4 + 3, none⟩) hbv).trans vt3⟩ : Hid (Below wv.heap.size wv W) ∧ W.cell? ⟨w.heap.size, 2, none⟩ = some (.slice (some ⟨b, o, none⟩) p.lks.length c2) ∧ W.cell? ⟨b1, o1, none⟩ = some (.int .i64 (x0 : Int)) ∧ W.cell? ⟨b1, o1 + m, none⟩ = some (.int .i64 (x1 : Int)) ∧ W.cell? ⟨b, o + k * 4, none⟩ = some (.int .i64 l.fr) ∧ W.cell? ⟨b, o + k * 4 + 1, none⟩ = some (.int .i64 l.to) ∧ W.cell? ⟨b, o + k * 4 + 2, none⟩ = some (.bool l.fe) ∧ W.cell? ⟨b, o + k * 4 + 3, none⟩ = some (.int .i64 l.lag) ∧ W.cell? ⟨b, o + x0 * 4, none⟩ = some (.int .i64 l0.fr) ∧ W.cell? ⟨b, o + x0 * 4 + 1, none⟩ = some (.int .i64 l0.to) ∧ W.cell? ⟨b, o + x0 * 4 + 2, none⟩ = some (.bool l0.fe) ∧ W.cell? ⟨b, o + x0 * 4 + 3, none⟩ = some (.int .i64 l0.lag) ∧ W.cell? ⟨b, o + x1 * 4, none⟩ = some (.int .i64 l1.fr) ∧ W.cell? ⟨b, o + x1 * 4 + 1, none⟩ = some (.int .i64 l1.to) ∧ W.cell? ⟨b, o + x1 * 4 + 2, none⟩ = some (.bool l1.fe) ∧ W.cell? ⟨b, o + x1 * 4 + 3, none⟩ = some (.int .i64 l1.lag)))
  have INIT := Lib.hid (CE.out wv.drew (Below.refl _ _).drew)
  have KB := Lib.hid (fun (W W2 : World) (h : Hid (Below wv.heap.size wv W) ∧ W.cell? ⟨w.heap.size, 2, none⟩ = some (.slice (some ⟨b, o, none⟩) p.lks.length c2) ∧ W.cell? ⟨b1, o1, none⟩ = some (.int .i64 (x0 : Int)) ∧ W.cell? ⟨b1, o1 + m, none⟩ = some (.int .i64 (x1 : Int)) ∧ W.cell? ⟨b, o + k * 4, none⟩ = some (.int .i64 l.fr) ∧ W.cell? ⟨b, o + k * 4 + 1, none⟩ = some (.int .i64 l.to) ∧ W.cell? ⟨b, o + k * 4 + 2, none⟩ = some (.bool l.fe) ∧ W.cell? ⟨b, o + k * 4 + 3, none⟩ = some (.int .i64 l.lag) ∧ W.cell? ⟨b, o + x0 * 4, none⟩ = some (.int .i64 l0.fr) ∧ W.cell? ⟨b, o + x0 * 4 + 1, none⟩ = some (.int .i64 l0.to) ∧ W.cell? ⟨b, o + x0 * 4 + 2, none⟩ = some (.bool l0.fe) ∧ W.cell? ⟨b, o + x0 * 4 + 3, none⟩ = some (.int .i64 l0.lag) ∧ W.cell? ⟨b, o + x1 * 4, none⟩ = some (.int .i64 l1.fr) ∧ W.cell? ⟨b, o + x1 * 4 + 1, none⟩ = some (.int .i64 l1.to) ∧ W.cell? ⟨b, o + x1 * 4 + 2, none⟩ = some (.bool l1.fe) ∧ W.cell? ⟨b, o + x1 * 4 + 3, none⟩ = some (.int .i64 l1.lag)) (hb : Below wv.heap.size W W2) => CE.out W2 (h.1.out.trans hb))
  clear vu0 vu1 vy0 vy1 vy2 vy3 vz0 vz1 vz2 vz3 vt0 vt1 vt2 vt3
  go_cut [9, 10, 11] from 15 to 36 (fun s9 s10 s11 W => ∃ g9 g10 g11 : Nat, s9 = .pointer (some ⟨g9, 0, none⟩) ∧ s10 = .pointer (some ⟨g10, 0, none⟩) ∧ s11 = .pointer (some ⟨g11, 0, none⟩) ∧ W.cell? ⟨g9, 0, none⟩ = some (.int .i64 l0.fr) ∧ W.cell? ⟨g10, 1, none⟩ = some (.int .i64 l1.to) ∧ W.cell? ⟨g11, 0, none⟩ = some (.int .i64 l.fr) ∧ W.cell? ⟨g11, 1, none⟩ = some (.int .i64 l.to) ∧ Below wv.heap.size wv W)
  case first =>
    go_region_held3 (fun W => Hid (Below wv.heap.size wv W) ∧ W.cell? ⟨w.heap.size, 2, none⟩ = some (.slice (some ⟨b, o, none⟩) p.lks.length c2) ∧ W.cell? ⟨b1, o1, none⟩ = some (.int .i64 (x0 : Int)) ∧ W.cell? ⟨b1, o1 + m, none⟩ = some (.int .i64 (x1 : Int)) ∧ W.cell? ⟨b, o + k * 4, none⟩ = some (.int .i64 l.fr) ∧ W.cell? ⟨b, o + k * 4 + 1, none⟩ = some (.int .i64 l.to) ∧ W.cell? ⟨b, o + k * 4 + 2, none⟩ = some (.bool l.fe) ∧ W.cell? ⟨b, o + k * 4 + 3, none⟩ = some (.int .i64 l.lag) ∧ W.cell? ⟨b, o + x0 * 4, none⟩ = some (.int .i64 l0.fr) ∧ W.cell? ⟨b, o + x0 * 4 + 1, none⟩ = some (.int .i64 l0.to) ∧ W.cell? ⟨b, o + x0 * 4 + 2, none⟩ = some (.bool l0.fe) ∧ W.cell? ⟨b, o + x0 * 4 + 3, none⟩ = some (.int .i64 l0.lag) ∧ W.cell? ⟨b, o + x1 * 4, none⟩ = some (.int .i64 l1.fr) ∧ W.cell? ⟨b, o + x1 * 4 + 1, none⟩ = some (.int .i64 l1.to) ∧ W.cell? ⟨b, o + x1 * 4 + 2, none⟩ = some (.bool l1.fe) ∧ W.cell? ⟨b, o + x1 * 4 + 3, none⟩ = some (.int .i64 l1.lag))
      (first | exact INIT.out | (refine CE.out _ ?_; repeat (first | exact Below.refl _ _ | refine Below.drew ?_ | refine Below.setCell ?_ (by first | (simp; done) | (simp; omega)) _ | refine Below.alloc ?_ (by first | (simp; done) | (simp; omega)) _)) | go_keep)
      (first | (fail))
    all_goals
      go_wp2_with fail
      go_meet
      case rel =>
        refine ⟨_, _, _, rfl, rfl, rfl, ?_, ?_, ?_, ?_, ?_⟩
        · go_simp
        · go_simp
        · go_simp
        · go_simp
        · repeat (first | exact Below.refl _ _ | refine Below.drew ?_ | refine Below.setCell ?_ (by first | (simp; done) | (simp; omega)) _ | refine Below.alloc ?_ (by first | (simp; done) | (simp; omega)) _)
  case rest =>
    obtain ⟨g9, g10, g11, rfl, rfl, rfl, q9, q10, q11, q12, hbw⟩ := hcut
    have BW := Lib.hid (S1.out.1.trans (hbw.mono S1.out.1.size))
    have S2 := Lib.hid (S1.out.go hbw)
    clear hbw e0 e1 e2 e3 e4 ef
    obtain ⟨d0, d1, d2, d3, d4, df⟩ := (S2.out.bk 0 rfl).c5
    clear hul hmb hmb2 hw1 hw2 hw3 hwm INIT KB CE hbv hb1v
    by_cases hne : l.fr = l1.to
    · by_cases hcc : C.length + 1 = c
      · have HF := Lib.hid (show folB p.lks c C k = decide (l.to = l0.fr) by rw [FA.out, decide_eq_true hne, if_pos hcc, Bool.true_and])
        have hce : (c : Int) - 1 = (m : Int) + 1 := cast_pred hcc HM.out
        clear hcc
        go_wp2
        go_ret
        exact ⟨by rw [HF.out]; by_cases hq : l.to = l0.fr <;> simp [hq], BW.out⟩
      · have HF := Lib.hid (show folB p.lks c C k = !(leavesB p.lks C l.to) by rw [FA.out, decide_eq_true hne, if_neg hcc, Bool.true_and])
        have hce : ¬ ((m : Int) + 1 = (c : Int) - 1) := cast_ne hcc HM.out
        clear hcc
        go_wp2_with fail
        refine (HLV.out l.to _ BW.out).mono ?_
        rintro e w9 ⟨rfl, b9⟩
        have B9 := Lib.hid (BW.out.trans (b9.mono BW.out.size))
        clear b9
        go_wp2
        go_ret
        exact ⟨by rw [HF.out] <;> rfl, B9.out⟩
    · have HF := Lib.hid (show folB p.lks c C k = false by rw [FA.out, decide_eq_false hne, Bool.false_and])
      go_wp2
      go_ret
      exact ⟨by rw [HF.out] <;> rfl, BW.out⟩


end Go.Proofs.YtoggakfkpeloiaaGreat
