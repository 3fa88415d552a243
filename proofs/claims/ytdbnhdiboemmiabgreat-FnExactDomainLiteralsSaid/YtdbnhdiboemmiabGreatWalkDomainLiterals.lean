/- DERIVED. The walk of the law FnExactDomainLiterals, by contracts. -/
import Derived.Test.YtdbnhdiboemmiabGreatDmL
import Derived.Test.YtdbnhdiboemmiabGreatDmN
import Derived.Test.YtdbnhdiboemmiabGreatTPj
import Derived.Test.YtdbnhdiboemmiabGreatTDomain
import Derived.Test.YtdbnhdiboemmiabGreatTLiteral
import Derived.Deep.CutRange
import Derived.Deep.RegionWith
import Derived.Deep.RegionHeld3
namespace Go.Proofs.YtdbnhdiboemmiabGreat
open Go.RowKit
set_option linter.unusedVariables false
set_option maxRecDepth 100000 in
set_option maxHeartbeats 16000000 in
theorem walkFnExactDomainLiterals (v0 : Value) (d0 : Pj) (v1 : Value) (d1 : Dm) (w : World) (hr0 : (trPj d0).rd w v0) (hk0 : (trPj d0).ok) (hr1 : (trDm d1).rd w v1) (hk1 : (trDm d1).ok) :
    Calls Tryz.prog 3 #[v0, v1] w fun e w' => e = .returned (.bool true) ∧ Below w.heap.size w w' := by
  have HK0 := Lib.hid hk0
  have HR0 := Lib.hid hr0
  obtain ⟨U0_1, u0_1, U0_2, u0_2, U0_3, u0_3, U0_4, u0_4, rfl, _, _, _, _⟩ := rdProject_t hr0
  clear hk0 hr0
  have HK1 := Lib.hid hk1
  have HR1 := Lib.hid hr1
  obtain ⟨U1_0, u1_0, U1_1, u1_1, U1_2, u1_2, rfl, _, _, _⟩ := rdDomain_t hr1
  clear hk1 hr1
  have S0 := Lib.hid (Sn.start w)
  have S1 := Lib.hid (S0.out.box 27 [.int .i64 d0.dl, .slice U0_1 d0.acts.length u0_1, .slice U0_2 d0.lks.length u0_2, .slice U0_3 d0.ress.length u0_3, .slice U0_4 d0.stk.length u0_4])
  clear S0
  have S2 := Lib.hid (S1.out.box 30 [.slice U1_0 d1.mn.length u1_0, .slice U1_1 d1.mx.length u1_1, .slice U1_2 d1.md.length u1_2])
  clear S1
  simp only [World.size_alloc] at S2
  go_enter Tryz.func3, Tryz.ntmps3
  have hn0 : (trLts (litsD d0 d1)).sz ≤ 30 := lits_sz _ _
  go_wp2_with fail
  refine (szProject_t d0 _ (1048576) _ (by exact S2.out.old HR0.out) HK0.out (by omega) (by omega)).mono ?_
  rintro e w3 ⟨rfl, b⟩
  have S3 := Lib.hid (S2.out.go b)
  clear S2 b
  generalize hz0 : (trPj d0).sz = z0
  have HZ0 := Lib.hid hz0
  clear hz0
  by_cases hbig0 : (1048576 : Int) < (z0 : Int)
  · rw [if_pos hbig0]
    go_wp2
    go_ret
    exact ⟨rfl, S3.out.1⟩
  rw [if_neg hbig0]
  have hq0 : 0 ≤ (1048576 - (z0 : Int) : Int) := by omega
  have hb0 : z0 ≤ 1048576 := by omega
  obtain ⟨c0, c1, c2, cf⟩ := (S3.out.bk 0 rfl).c3
  go_wp2_with fail
  clear c0 c1 c2 cf
  refine (szDomain_t d1 _ (1048576 - (z0 : Int)) _ (by exact S3.out.old HR1.out) HK1.out (by omega) (by omega)).mono ?_
  rintro e w4 ⟨rfl, b⟩
  have S4 := Lib.hid (S3.out.go b)
  clear S3 b
  generalize hz1 : (trDm d1).sz = z1
  have HZ1 := Lib.hid hz1
  clear hz1
  by_cases hbig1 : (1048576 - (z0 : Int) : Int) < (z1 : Int)
  · rw [if_pos hbig1]
    go_wp2
    go_ret
    exact ⟨rfl, S4.out.1⟩
  rw [if_neg hbig1]
  have hq1 : 0 ≤ (1048576 - (z0 : Int) - (z1 : Int) : Int) := by omega
  have hb1 : z1 ≤ 1048576 := by omega
  obtain ⟨c0, c1, c2, c3, c4, cf⟩ := (S4.out.bk 1 rfl).c5
  obtain ⟨g0, g1, g2, gf⟩ := (S4.out.bk 0 rfl).c3
  go_wp2_with fail
  go_cut [6] from 24 to 28 (fun s wx => ∃ (F0 : List Nat) (v : Value) (F : List Nat) (v' : Value) (F' : List Nat), Sn w wx [⟨trLts (litsD d0 d1), s, F0⟩, ⟨trDm d1, v', F'⟩, ⟨trPj d0, v, F⟩, boxI (w.heap.size + 1) 30 [.slice U1_0 d1.mn.length u1_0, .slice U1_1 d1.mx.length u1_1, .slice U1_2 d1.md.length u1_2], boxI w.heap.size 27 [.int .i64 d0.dl, .slice U0_1 d0.acts.length u0_1, .slice U0_2 d0.lks.length u0_2, .slice U0_3 d0.ress.length u0_3, .slice U0_4 d0.stk.length u0_4]])
  case first =>
    have S5 := Lib.hid (S4.out.drew1)
    clear S4
    go_region_with (first
      | (go_at_call_of 7 (Value.agg #[Value.int IntKind.i64 d0.dl, Value.slice U0_1 d0.acts.length u0_1, Value.slice U0_2 d0.lks.length u0_2, Value.slice U0_3 d0.ress.length u0_3, Value.slice U0_4 d0.stk.length u0_4]); refine (toProject_t d0 _ _ (by exact S5.out.old HR0.out) (by have := HZ0.out; omega)).mono ?_; rintro e wa ⟨va, Fa, rfl, o, h, b⟩; have S6 := Lib.hid (S5.out.new o h b); obtain ⟨e0, e1, e2, ef⟩ := (S6.out.bk 1 rfl).c3; clear S5 o h b)
      | (go_at_call_of 8 (Value.agg #[Value.slice U1_0 d1.mn.length u1_0, Value.slice U1_1 d1.mx.length u1_1, Value.slice U1_2 d1.md.length u1_2]); refine (toDomain_t d1 _ _ (by exact S6.out.old HR1.out) (by have := HZ1.out; omega)).mono ?_; rintro e wb ⟨vb, Fb, rfl, o, h, b⟩; have S7 := Lib.hid (S6.out.new o h b); clear S6 o h b)
      | (go_at_call 6; refine (specDomainLiterals_any d0 d1 _ _ _ (by exact S7.out.rd 1 rfl) HK0.out (by exact S7.out.rd 0 rfl)).mono ?_; rintro e wc ⟨vr, Fr, rfl, o, h, b⟩; have S8 := Lib.hid (S7.out.new o h b); clear S7 o h b))
    all_goals
      go_wp2_with fail
      go_meet
      case rel => exact ⟨_, _, _, _, _, S8.out⟩
  case rest =>
    obtain ⟨Fr, va, Fa, vb, Fb, hS⟩ := hcut
    have S9 := Lib.hid hS
    clear hS S4 c0 c1 c2 c3 c4 cf g0 g1 g2 gf
    rename_i vr _
    obtain ⟨c0, c1, c2, c3, c4, cf⟩ := (S9.out.bk 4 rfl).c5
    go_wp2_with fail
    clear c0 c1 c2 c3 c4 cf
    refine (toProject_t d0 _ _ (by exact S9.out.old HR0.out) (by have := HZ0.out; omega)).mono ?_
    rintro e w10 ⟨v10_, F10, rfl, o, h, b⟩
    obtain ⟨X10_1, x10_1, X10_2, x10_2, X10_3, x10_3, X10_4, x10_4, rfl, _, _, _, _⟩ := rdProject_t (Tr.own_rd _ _ _ o)
    have S10 := Lib.hid ((S9.out.new o h b).box 39 [.int .i64 d0.dl, .slice X10_1 d0.acts.length x10_1, .slice X10_2 d0.lks.length x10_2, .slice X10_3 d0.ress.length x10_3, .slice X10_4 d0.stk.length x10_4])
    clear S9 o h b
    obtain ⟨c0, c1, c2, cf⟩ := (S10.out.bk 5 rfl).c3
    go_wp2_with fail
    clear c0 c1 c2 cf
    refine (toDomain_t d1 _ _ (by exact S10.out.old HR1.out) (by have := HZ1.out; omega)).mono ?_
    rintro e w11 ⟨v11_, F11, rfl, o, h, b⟩
    obtain ⟨X11_0, x11_0, X11_1, x11_1, X11_2, x11_2, rfl, _, _, _⟩ := rdDomain_t (Tr.own_rd _ _ _ o)
    have S11 := Lib.hid ((S10.out.new o h b).box 41 [.slice X11_0 d1.mn.length x11_0, .slice X11_1 d1.mx.length x11_1, .slice X11_2 d1.md.length x11_2])
    clear S10 o h b
    obtain ⟨x0, x1, x2, x3, x4, xf⟩ := (S11.out.bk 2 rfl).c5
    obtain ⟨y0, y1, y2, yf⟩ := (S11.out.bk 0 rfl).c3
    go_wp2_with fail
    clear x0 x1 x2 x3 x4 xf y0 y1 y2 yf
    refine (implDomainLiterals_any d0 d1 _ _ _ (by exact S11.out.rd 3 rfl) HK0.out (by exact (S11.out.own 1 rfl).1) (by have := HZ1.out; omega)).mono ?_
    rintro e w12 ⟨v12_, F12, rfl, o, h, b⟩
    have S12 := Lib.hid (S11.out.new o h b)
    clear S11 o h b
    go_wp2_with fail
    refine (eqLiteralS_t (litsD d0 d1) _ _ _ (by exact S12.out.rd 0 rfl) (by exact S12.out.rd 5 rfl)).mono ?_
    rintro e w13 ⟨rfl, b⟩
    have S13 := Lib.hid (S12.out.go b)
    clear S12 b
    obtain ⟨c0, c1, c2, c3, c4, cf⟩ := (S13.out.bk 3 rfl).c5
    obtain ⟨g0, g1, g2, g3, g4, gf⟩ := (S13.out.bk 9 rfl).c5
    have hlc := (S13.out.bk 3 rfl).lt
    have hlg := (S13.out.bk 9 rfl).lt
    have S14 := Lib.hid (S13.out.drew1)
    clear S13
    go_wp2_with fail
    have CE := Lib.hid (fun (W : World) (h : Wr [] w13.drew W) => show Hid (Wr [] w13.drew W) ∧ W.cell? ⟨w10.heap.size, 0, none⟩ = some (.int .i64 d0.dl) ∧ W.cell? ⟨w10.heap.size, 1, none⟩ = some (.slice X10_1 d0.acts.length x10_1) ∧ W.cell? ⟨w10.heap.size, 2, none⟩ = some (.slice X10_2 d0.lks.length x10_2) ∧ W.cell? ⟨w10.heap.size, 3, none⟩ = some (.slice X10_3 d0.ress.length x10_3) ∧ W.cell? ⟨w10.heap.size, 4, none⟩ = some (.slice X10_4 d0.stk.length x10_4) ∧ W.cell? ⟨w.heap.size, 0, none⟩ = some (.int .i64 d0.dl) ∧ W.cell? ⟨w.heap.size, 1, none⟩ = some (.slice U0_1 d0.acts.length u0_1) ∧ W.cell? ⟨w.heap.size, 2, none⟩ = some (.slice U0_2 d0.lks.length u0_2) ∧ W.cell? ⟨w.heap.size, 3, none⟩ = some (.slice U0_3 d0.ress.length u0_3) ∧ W.cell? ⟨w.heap.size, 4, none⟩ = some (.slice U0_4 d0.stk.length u0_4) from ⟨Lib.hid h, (wr_cell h (p := ⟨w10.heap.size, 0, none⟩) hlc (by simp)).trans (by simpa using c0), (wr_cell h (p := ⟨w10.heap.size, 1, none⟩) hlc (by simp)).trans (by simpa using c1), (wr_cell h (p := ⟨w10.heap.size, 2, none⟩) hlc (by simp)).trans (by simpa using c2), (wr_cell h (p := ⟨w10.heap.size, 3, none⟩) hlc (by simp)).trans (by simpa using c3), (wr_cell h (p := ⟨w10.heap.size, 4, none⟩) hlc (by simp)).trans (by simpa using c4), (wr_cell h (p := ⟨w.heap.size, 0, none⟩) hlg (by simp)).trans (by simpa using g0), (wr_cell h (p := ⟨w.heap.size, 1, none⟩) hlg (by simp)).trans (by simpa using g1), (wr_cell h (p := ⟨w.heap.size, 2, none⟩) hlg (by simp)).trans (by simpa using g2), (wr_cell h (p := ⟨w.heap.size, 3, none⟩) hlg (by simp)).trans (by simpa using g3), (wr_cell h (p := ⟨w.heap.size, 4, none⟩) hlg (by simp)).trans (by simpa using g4)⟩)
    have INIT := Lib.hid (CE.out _ (Wr.refl _ _))
    have KW := Lib.hid (fun (W2 W : World) (hb : Below W.heap.size W W2) (h : Hid (Wr [] w13.drew W) ∧ W.cell? ⟨w10.heap.size, 0, none⟩ = some (.int .i64 d0.dl) ∧ W.cell? ⟨w10.heap.size, 1, none⟩ = some (.slice X10_1 d0.acts.length x10_1) ∧ W.cell? ⟨w10.heap.size, 2, none⟩ = some (.slice X10_2 d0.lks.length x10_2) ∧ W.cell? ⟨w10.heap.size, 3, none⟩ = some (.slice X10_3 d0.ress.length x10_3) ∧ W.cell? ⟨w10.heap.size, 4, none⟩ = some (.slice X10_4 d0.stk.length x10_4) ∧ W.cell? ⟨w.heap.size, 0, none⟩ = some (.int .i64 d0.dl) ∧ W.cell? ⟨w.heap.size, 1, none⟩ = some (.slice U0_1 d0.acts.length u0_1) ∧ W.cell? ⟨w.heap.size, 2, none⟩ = some (.slice U0_2 d0.lks.length u0_2) ∧ W.cell? ⟨w.heap.size, 3, none⟩ = some (.slice U0_3 d0.ress.length u0_3) ∧ W.cell? ⟨w.heap.size, 4, none⟩ = some (.slice U0_4 d0.stk.length u0_4)) => CE.out W2 (h.1.out.trans (Wr.of_below hb (Nat.le_refl _))))
    clear c0 c1 c2 c3 c4 cf g0 g1 g2 g3 g4 gf hlc hlg
    go_region_held3 (fun W => Hid (Wr [] w13.drew W) ∧ W.cell? ⟨w10.heap.size, 0, none⟩ = some (.int .i64 d0.dl) ∧ W.cell? ⟨w10.heap.size, 1, none⟩ = some (.slice X10_1 d0.acts.length x10_1) ∧ W.cell? ⟨w10.heap.size, 2, none⟩ = some (.slice X10_2 d0.lks.length x10_2) ∧ W.cell? ⟨w10.heap.size, 3, none⟩ = some (.slice X10_3 d0.ress.length x10_3) ∧ W.cell? ⟨w10.heap.size, 4, none⟩ = some (.slice X10_4 d0.stk.length x10_4) ∧ W.cell? ⟨w.heap.size, 0, none⟩ = some (.int .i64 d0.dl) ∧ W.cell? ⟨w.heap.size, 1, none⟩ = some (.slice U0_1 d0.acts.length u0_1) ∧ W.cell? ⟨w.heap.size, 2, none⟩ = some (.slice U0_2 d0.lks.length u0_2) ∧ W.cell? ⟨w.heap.size, 3, none⟩ = some (.slice U0_3 d0.ress.length u0_3) ∧ W.cell? ⟨w.heap.size, 4, none⟩ = some (.slice U0_4 d0.stk.length u0_4)) (first | exact INIT.out | exact KW.out _ _ (by assumption) (by assumption))
      (first
      | (go_at_call 7; refine (toProject_t d0 _ _ (by exact S14.out.old HR0.out) (by have := HZ0.out; omega)).mono ?_; rintro e w15 ⟨v15_, F15, rfl, o, h, bb1⟩; have S15 := Lib.hid (S14.out.new o h bb1); clear S14 o h)
      | (go_at_call 11; refine (eqProject_t d0 _ _ _ (by exact S15.out.rd 5 rfl) (by exact S15.out.rd 0 rfl)).mono ?_; rintro e w16 ⟨rfl, bb2⟩; have S16 := Lib.hid (S15.out.go bb2); clear S15))
    rename_i hHeld
    clear hHeld CE INIT KW bb1 bb2
    obtain ⟨c0, c1, c2, cf⟩ := (S16.out.bk 2 rfl).c3
    obtain ⟨g0, g1, g2, gf⟩ := (S16.out.bk 9 rfl).c3
    have hlc := (S16.out.bk 2 rfl).lt
    have hlg := (S16.out.bk 9 rfl).lt
    have S17 := Lib.hid (S16.out.drew1)
    clear S16
    go_wp2_with fail
    have CE := Lib.hid (fun (W : World) (h : Wr [] w16.drew W) => show Hid (Wr [] w16.drew W) ∧ W.cell? ⟨w11.heap.size, 0, none⟩ = some (.slice X11_0 d1.mn.length x11_0) ∧ W.cell? ⟨w11.heap.size, 1, none⟩ = some (.slice X11_1 d1.mx.length x11_1) ∧ W.cell? ⟨w11.heap.size, 2, none⟩ = some (.slice X11_2 d1.md.length x11_2) ∧ W.cell? ⟨w.heap.size + 1, 0, none⟩ = some (.slice U1_0 d1.mn.length u1_0) ∧ W.cell? ⟨w.heap.size + 1, 1, none⟩ = some (.slice U1_1 d1.mx.length u1_1) ∧ W.cell? ⟨w.heap.size + 1, 2, none⟩ = some (.slice U1_2 d1.md.length u1_2) from ⟨Lib.hid h, (wr_cell h (p := ⟨w11.heap.size, 0, none⟩) hlc (by simp)).trans (by simpa using c0), (wr_cell h (p := ⟨w11.heap.size, 1, none⟩) hlc (by simp)).trans (by simpa using c1), (wr_cell h (p := ⟨w11.heap.size, 2, none⟩) hlc (by simp)).trans (by simpa using c2), (wr_cell h (p := ⟨w.heap.size + 1, 0, none⟩) hlg (by simp)).trans (by simpa using g0), (wr_cell h (p := ⟨w.heap.size + 1, 1, none⟩) hlg (by simp)).trans (by simpa using g1), (wr_cell h (p := ⟨w.heap.size + 1, 2, none⟩) hlg (by simp)).trans (by simpa using g2)⟩)
    have INIT := Lib.hid (CE.out _ (Wr.refl _ _))
    have KW := Lib.hid (fun (W2 W : World) (hb : Below W.heap.size W W2) (h : Hid (Wr [] w16.drew W) ∧ W.cell? ⟨w11.heap.size, 0, none⟩ = some (.slice X11_0 d1.mn.length x11_0) ∧ W.cell? ⟨w11.heap.size, 1, none⟩ = some (.slice X11_1 d1.mx.length x11_1) ∧ W.cell? ⟨w11.heap.size, 2, none⟩ = some (.slice X11_2 d1.md.length x11_2) ∧ W.cell? ⟨w.heap.size + 1, 0, none⟩ = some (.slice U1_0 d1.mn.length u1_0) ∧ W.cell? ⟨w.heap.size + 1, 1, none⟩ = some (.slice U1_1 d1.mx.length u1_1) ∧ W.cell? ⟨w.heap.size + 1, 2, none⟩ = some (.slice U1_2 d1.md.length u1_2)) => CE.out W2 (h.1.out.trans (Wr.of_below hb (Nat.le_refl _))))
    clear c0 c1 c2 cf g0 g1 g2 gf hlc hlg
    go_region_held3 (fun W => Hid (Wr [] w16.drew W) ∧ W.cell? ⟨w11.heap.size, 0, none⟩ = some (.slice X11_0 d1.mn.length x11_0) ∧ W.cell? ⟨w11.heap.size, 1, none⟩ = some (.slice X11_1 d1.mx.length x11_1) ∧ W.cell? ⟨w11.heap.size, 2, none⟩ = some (.slice X11_2 d1.md.length x11_2) ∧ W.cell? ⟨w.heap.size + 1, 0, none⟩ = some (.slice U1_0 d1.mn.length u1_0) ∧ W.cell? ⟨w.heap.size + 1, 1, none⟩ = some (.slice U1_1 d1.mx.length u1_1) ∧ W.cell? ⟨w.heap.size + 1, 2, none⟩ = some (.slice U1_2 d1.md.length u1_2)) (first | exact INIT.out | exact KW.out _ _ (by assumption) (by assumption))
      (first
      | (go_at_call 8; refine (toDomain_t d1 _ _ (by exact S17.out.old HR1.out) (by have := HZ1.out; omega)).mono ?_; rintro e w18 ⟨v18_, F18, rfl, o, h, bb1⟩; have S18 := Lib.hid (S17.out.new o h bb1); clear S17 o h)
      | (go_at_call 12; refine (eqDomain_t d1 _ _ _ (by exact S18.out.rd 4 rfl) (by exact S18.out.rd 0 rfl)).mono ?_; rintro e w19 ⟨rfl, bb2⟩; have S19 := Lib.hid (S18.out.go bb2); clear S18))
    rename_i hHeld
    clear hHeld CE INIT KW bb1 bb2
    have hcnt0 : cntO (cellsPj d0) ≤ 8388608 := by
      have h1 := cntO_le (cellsPj d0) (thin_ProjectL d0)
      have h2 : (trPj d0).sz = szL (cellsPj d0) := rfl
      have h3 : (trPj d0).sz ≤ 1048576 := by have := HZ0.out; omega
      omega
    have hcnt1 : cntO (cellsDm d1) ≤ 8388608 := by
      have h1 := cntO_le (cellsDm d1) (thin_DomainL d1)
      have h2 : (trDm d1).sz = szL (cellsDm d1) := rfl
      have h3 : (trDm d1).sz ≤ 1048576 := by have := HZ1.out; omega
      omega
    obtain ⟨c0, c1, c2, c3, c4, cf⟩ := (S19.out.bk 5 rfl).c5
    go_wp2_with fail
    clear c0 c1 c2 c3 c4 cf
    refine (markProject_t (1) _ (d0) _ _ _ (by exact (S19.out.own 6 rfl).1) (by exact (S19.out.own 6 rfl).2) (by omega) (by omega)).mono ?_
    rintro e w20 ⟨F20, rfl, o, h, hs, g⟩
    have S20 := Lib.hid (S19.out.mark 6 rfl o h hs g)
    clear S19 o h hs g
    obtain ⟨c0, c1, c2, cf⟩ := (S20.out.bk 3 rfl).c3
    go_wp2_with fail
    clear c0 c1 c2 cf
    refine (markDomain_t (1 + cntO (cellsPj d0)) _ (d1) _ _ _ (by exact (S20.out.own 4 rfl).1) (by exact (S20.out.own 4 rfl).2) (by omega) (by omega)).mono ?_
    rintro e w21 ⟨F21, rfl, o, h, hs, g⟩
    have S21 := Lib.hid (S20.out.mark 4 rfl o h hs g)
    clear S20 o h hs g
    go_wp2_with fail
    refine (eqLiteralS_t (litsD d0 d1) _ _ _ (by exact S21.out.rd 2 rfl) (by exact S21.out.rd 7 rfl)).mono ?_
    rintro e w22 ⟨rfl, b⟩
    have S22 := Lib.hid (S21.out.go b)
    clear S21 b
    have hcr0 : (trLts (litsD d0 d1)).cnt ≤ 8388608 := by
      have h1 : (trLts (litsD d0 d1)).cnt ≤ 8 * (trLts (litsD d0 d1)).sz := row_cnt_le (thin_LiteralS (litsD d0 d1))
      have h3 : (trLts (litsD d0 d1)).sz ≤ 1048576 := by have := hn0; have := HZ0.out; have := HZ1.out; omega
      exact Nat.le_trans h1 (by omega)
    go_wp2_with fail
    refine (markLiteralS_t (1) _ (litsD d0 d1) _ _ _ (by exact (S22.out.own 2 rfl).1) (by exact (S22.out.own 2 rfl).2) (by omega) (by omega)).mono ?_
    rintro e w23 ⟨F23, rfl, o, h, hs, g⟩
    have S23 := Lib.hid (S22.out.mark 2 rfl o h hs g)
    clear S22 o h hs g
    go_wp2_with fail
    refine (heldLiteralS_t (1) (litsD d0 d1) _ _ (by exact S23.out.rd 2 rfl) (by omega) (by omega)).mono ?_
    rintro e w24 ⟨rfl, b⟩
    have S24 := Lib.hid (S23.out.go b)
    clear S23 b
    obtain ⟨c0, c1, c2, c3, c4, cf⟩ := (S24.out.bk 11 rfl).c5
    obtain ⟨g0, g1, g2, gf⟩ := (S24.out.bk 10 rfl).c3
    go_wp2_with fail
    obtain ⟨LL, hS, hLL⟩ := (show ∀ X : List Item, Sn w w24 X → ∃ LL, Sn w w24 LL ∧ LL = X from fun X h => ⟨X, h, rfl⟩) _ S24.out
    have BJ := Lib.hid (S24.out.bk 10 rfl)
    have S25 := Lib.hid hS
    have HLL := Lib.hid hLL
    clear hS hLL S24
    go_cut [13] from 75 to 79 (fun s wx => ∃ (F0 : List Nat) (v : Value) (F : List Nat) (v' : Value) (F' : List Nat), Sn w wx (⟨trLts (litsD d0 d1), s, F0⟩ :: ⟨trDm d1, v', F'⟩ :: ⟨trPj d0, v, F⟩ :: LL))
    case first =>
      have S26 := Lib.hid (S25.out.drew1)
      have BJ2 := Lib.hid (BJ.out.below (Below.refl _ _).drew (Nat.le_refl _))
      clear S25
      go_region_with (first
        | (go_at_call_of 7 (Value.agg #[Value.int IntKind.i64 d0.dl, Value.slice U0_1 d0.acts.length u0_1, Value.slice U0_2 d0.lks.length u0_2, Value.slice U0_3 d0.ress.length u0_3, Value.slice U0_4 d0.stk.length u0_4]); refine (toProject_t d0 _ _ (by exact S26.out.old HR0.out) (by have := HZ0.out; omega)).mono ?_; rintro e wa ⟨va2, Fa2, rfl, o, h, b⟩; obtain ⟨e0, e1, e2, ef⟩ := (BJ2.out.below b (Nat.le_refl _)).c3; have S27 := Lib.hid (S26.out.new o h b); clear S26 o h b)
        | (go_at_call_of 8 (Value.agg #[Value.slice U1_0 d1.mn.length u1_0, Value.slice U1_1 d1.mx.length u1_1, Value.slice U1_2 d1.md.length u1_2]); refine (toDomain_t d1 _ _ (by exact S27.out.old HR1.out) (by have := HZ1.out; omega)).mono ?_; rintro e wb ⟨vb2, Fb2, rfl, o, h, b⟩; have S28 := Lib.hid (S27.out.new o h b); clear S27 o h b)
        | (go_at_call 9; refine (implDomainLiterals_any d0 d1 _ _ _ (by exact S28.out.rd 1 rfl) HK0.out (by exact (S28.out.own 0 rfl).1) (by have := HZ1.out; omega)).mono ?_; rintro e wc ⟨vr2, Fr2, rfl, o, h, b⟩; have S29 := Lib.hid (S28.out.new o h b); clear S28 o h b))
      all_goals
        go_wp2_with fail
        go_meet
        case rel => exact ⟨_, _, _, _, _, S29.out⟩
    case rest =>
      obtain ⟨Fr2, va2, Fa2, vb2, Fb2, hS⟩ := hcut
      rename_i vr2 _
      obtain rfl := HLL.out
      have S30 := Lib.hid hS
      clear hS S25 BJ c0 c1 c2 c3 c4 cf g0 g1 g2 gf
      go_wp2_with fail
      refine (eqLiteralS_t (litsD d0 d1) _ _ _ (by exact S30.out.rd 0 rfl) (by exact S30.out.rd 10 rfl)).mono ?_
      rintro e w31 ⟨rfl, b⟩
      have S31 := Lib.hid (S30.out.go b)
      clear S30 b
      go_wp2_with fail
      refine (heldLiteralS_t (1) (litsD d0 d1) _ _ (by exact S31.out.rd 5 rfl) (by omega) (by omega)).mono ?_
      rintro e w32 ⟨rfl, b⟩
      have S32 := Lib.hid (S31.out.go b)
      clear S31 b
      go_wp2
      go_ret
      exact ⟨rfl, S32.out.1⟩
end Go.Proofs.YtdbnhdiboemmiabGreat
