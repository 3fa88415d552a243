/- DERIVED. The walk of the law FnExactDomainSubset, by contracts. -/
import Derived.Test.YtdbnhdiboemmiabDmT
import Derived.Test.YtdbnhdiboemmiabTDomain
import Derived.Deep.CutRange
import Derived.Deep.RegionWith
import Derived.Deep.RegionHeld3
namespace Go.Proofs.Ytdbnhdiboemmiab
open Go.RowKit
set_option linter.unusedVariables false
set_option maxRecDepth 100000 in
set_option maxHeartbeats 4000000 in
theorem walkFnExactDomainSubset (v0 : Value) (d0 : Dm) (v1 : Value) (d1 : Dm) (w : World) (hr0 : (trDm d0).rd w v0) (hk0 : (trDm d0).ok) (hr1 : (trDm d1).rd w v1) (hk1 : (trDm d1).ok) :
    Calls Try.prog 5 #[v0, v1] w fun e w' => e = .returned (.bool true) ∧ Below w.heap.size w w' := by
  have HK0 := Lib.hid hk0
  have HR0 := Lib.hid hr0
  obtain ⟨U0_0, u0_0, U0_1, u0_1, U0_2, u0_2, rfl, _, _, _⟩ := rdDomain_t hr0
  clear hk0 hr0
  have HK1 := Lib.hid hk1
  have HR1 := Lib.hid hr1
  obtain ⟨U1_0, u1_0, U1_1, u1_1, U1_2, u1_2, rfl, _, _, _⟩ := rdDomain_t hr1
  clear hk1 hr1
  have S0 := Lib.hid (Sn.start w)
  have S1 := Lib.hid (S0.out.box 25 [.slice U0_0 d0.mn.length u0_0, .slice U0_1 d0.mx.length u0_1, .slice U0_2 d0.md.length u0_2])
  clear S0
  have S2 := Lib.hid (S1.out.box 25 [.slice U1_0 d1.mn.length u1_0, .slice U1_1 d1.mx.length u1_1, .slice U1_2 d1.md.length u1_2])
  clear S1
  simp only [World.size_alloc] at S2
  go_enter Try.func5, Try.ntmps5
  go_wp2_with fail
  refine (szDomain_t d0 _ (1048576) _ (by exact S2.out.old HR0.out) HK0.out (by omega) (by omega)).mono ?_
  rintro e w3 ⟨rfl, b⟩
  have S3 := Lib.hid (S2.out.go b)
  clear S2 b
  generalize hz0 : (trDm d0).sz = z0
  have HZ0 := Lib.hid hz0
  clear hz0
  by_cases hbig0 : (1048576 : Int) < (z0 : Int)
  · rw [if_pos hbig0]
    go_wp2
    go_ret
    exact ⟨rfl, S3.out.1⟩
  rw [if_neg hbig0]
  have hq0 : 0 ≤ (1048576 - (z0 : Int) : Int) := by omega
  have hb0 : z0 ≤ 1048576 := by omega
  obtain ⟨c0, c1, c2, cf⟩ := (S3.out.bk 0 rfl).c3
  go_wp2_with fail
  clear c0 c1 c2 cf
  refine (szDomain_t d1 _ (1048576 - (z0 : Int)) _ (by exact S3.out.old HR1.out) HK1.out (by omega) (by omega)).mono ?_
  rintro e w4 ⟨rfl, b⟩
  have S4 := Lib.hid (S3.out.go b)
  clear S3 b
  generalize hz1 : (trDm d1).sz = z1
  have HZ1 := Lib.hid hz1
  clear hz1
  by_cases hbig1 : (1048576 - (z0 : Int) : Int) < (z1 : Int)
  · rw [if_pos hbig1]
    go_wp2
    go_ret
    exact ⟨rfl, S4.out.1⟩
  rw [if_neg hbig1]
  have hq1 : 0 ≤ (1048576 - (z0 : Int) - (z1 : Int) : Int) := by omega
  have hb1 : z1 ≤ 1048576 := by omega
  obtain ⟨c0, c1, c2, cf⟩ := (S4.out.bk 1 rfl).c3
  obtain ⟨g0, g1, g2, gf⟩ := (S4.out.bk 0 rfl).c3
  go_wp2_with fail
  go_cut [6] from 20 to 24 (fun s wx => s = .bool (subD d0 d1) ∧ ∃ (v : Value) (F : List Nat) (v' : Value) (F' : List Nat), Sn w wx [⟨trDm d1, v', F'⟩, ⟨trDm d0, v, F⟩, boxI (w.heap.size + 1) 25 [.slice U1_0 d1.mn.length u1_0, .slice U1_1 d1.mx.length u1_1, .slice U1_2 d1.md.length u1_2], boxI w.heap.size 25 [.slice U0_0 d0.mn.length u0_0, .slice U0_1 d0.mx.length u0_1, .slice U0_2 d0.md.length u0_2]])
  case first =>
    have S5 := Lib.hid (S4.out.drew1)
    clear S4
    go_region_with (first
      | (go_at_call_of 9 (Value.agg #[Value.slice U0_0 d0.mn.length u0_0, Value.slice U0_1 d0.mx.length u0_1, Value.slice U0_2 d0.md.length u0_2]); refine (toDomain_t d0 _ _ (by exact S5.out.old HR0.out) (by have := HZ0.out; omega)).mono ?_; rintro e wa ⟨va, Fa, rfl, o, h, b⟩; have S6 := Lib.hid (S5.out.new o h b); obtain ⟨e0, e1, e2, ef⟩ := (S6.out.bk 1 rfl).c3; clear S5 o h b)
      | (go_at_call_of 9 (Value.agg #[Value.slice U1_0 d1.mn.length u1_0, Value.slice U1_1 d1.mx.length u1_1, Value.slice U1_2 d1.md.length u1_2]); refine (toDomain_t d1 _ _ (by exact S6.out.old HR1.out) (by have := HZ1.out; omega)).mono ?_; rintro e wb ⟨vb, Fb, rfl, o, h, b⟩; have S7 := Lib.hid (S6.out.new o h b); clear S6 o h b)
      | (go_at_call 21; refine (specDomainSubset_any d0 d1 _ _ _ (by exact S7.out.rd 1 rfl) (by exact S7.out.rd 0 rfl)).mono ?_; rintro e wc ⟨rfl, b⟩; have S8 := Lib.hid (S7.out.go b); clear S7 b))
    all_goals
      go_wp2_with fail
      go_meet
      case rel => exact ⟨rfl, _, _, _, _, S8.out⟩
  case rest =>
    obtain ⟨rfl, va, Fa, vb, Fb, hS⟩ := hcut
    have S9 := Lib.hid hS
    clear hS S4 c0 c1 c2 cf g0 g1 g2 gf
    obtain ⟨c0, c1, c2, cf⟩ := (S9.out.bk 3 rfl).c3
    go_wp2_with fail
    clear c0 c1 c2 cf
    refine (toDomain_t d0 _ _ (by exact S9.out.old HR0.out) (by have := HZ0.out; omega)).mono ?_
    rintro e w10 ⟨v10_, F10, rfl, o, h, b⟩
    obtain ⟨X10_0, x10_0, X10_1, x10_1, X10_2, x10_2, rfl, _, _, _⟩ := rdDomain_t (Tr.own_rd _ _ _ o)
    have S10 := Lib.hid ((S9.out.new o h b).box 30 [.slice X10_0 d0.mn.length x10_0, .slice X10_1 d0.mx.length x10_1, .slice X10_2 d0.md.length x10_2])
    clear S9 o h b
    obtain ⟨c0, c1, c2, cf⟩ := (S10.out.bk 4 rfl).c3
    go_wp2_with fail
    clear c0 c1 c2 cf
    refine (toDomain_t d1 _ _ (by exact S10.out.old HR1.out) (by have := HZ1.out; omega)).mono ?_
    rintro e w11 ⟨v11_, F11, rfl, o, h, b⟩
    obtain ⟨X11_0, x11_0, X11_1, x11_1, X11_2, x11_2, rfl, _, _, _⟩ := rdDomain_t (Tr.own_rd _ _ _ o)
    have S11 := Lib.hid ((S10.out.new o h b).box 30 [.slice X11_0 d1.mn.length x11_0, .slice X11_1 d1.mx.length x11_1, .slice X11_2 d1.md.length x11_2])
    clear S10 o h b
    obtain ⟨x0, x1, x2, xf⟩ := (S11.out.bk 2 rfl).c3
    obtain ⟨y0, y1, y2, yf⟩ := (S11.out.bk 0 rfl).c3
    go_wp2_with fail
    clear x0 x1 x2 xf y0 y1 y2 yf
    refine (implDomainSubset_any d0 d1 _ _ _ (by exact (S11.out.own 3 rfl).1) (by exact (S11.out.own 1 rfl).1) (by have := HZ0.out; omega) (by have := HZ1.out; omega)).mono ?_
    rintro e w12 ⟨rfl, b⟩
    have S12 := Lib.hid (S11.out.go b)
    clear S11 b
    obtain ⟨c0, c1, c2, cf⟩ := (S12.out.bk 2 rfl).c3
    obtain ⟨g0, g1, g2, gf⟩ := (S12.out.bk 7 rfl).c3
    have hlc := (S12.out.bk 2 rfl).lt
    have hlg := (S12.out.bk 7 rfl).lt
    have S13 := Lib.hid (S12.out.drew1)
    clear S12
    go_wp2_with fail
    have CE := Lib.hid (fun (W : World) (h : Wr [] w12.drew W) => show Hid (Wr [] w12.drew W) ∧ W.cell? ⟨w10.heap.size, 0, none⟩ = some (.slice X10_0 d0.mn.length x10_0) ∧ W.cell? ⟨w10.heap.size, 1, none⟩ = some (.slice X10_1 d0.mx.length x10_1) ∧ W.cell? ⟨w10.heap.size, 2, none⟩ = some (.slice X10_2 d0.md.length x10_2) ∧ W.cell? ⟨w.heap.size, 0, none⟩ = some (.slice U0_0 d0.mn.length u0_0) ∧ W.cell? ⟨w.heap.size, 1, none⟩ = some (.slice U0_1 d0.mx.length u0_1) ∧ W.cell? ⟨w.heap.size, 2, none⟩ = some (.slice U0_2 d0.md.length u0_2) from ⟨Lib.hid h, (wr_cell h (p := ⟨w10.heap.size, 0, none⟩) hlc (by simp)).trans (by simpa using c0), (wr_cell h (p := ⟨w10.heap.size, 1, none⟩) hlc (by simp)).trans (by simpa using c1), (wr_cell h (p := ⟨w10.heap.size, 2, none⟩) hlc (by simp)).trans (by simpa using c2), (wr_cell h (p := ⟨w.heap.size, 0, none⟩) hlg (by simp)).trans (by simpa using g0), (wr_cell h (p := ⟨w.heap.size, 1, none⟩) hlg (by simp)).trans (by simpa using g1), (wr_cell h (p := ⟨w.heap.size, 2, none⟩) hlg (by simp)).trans (by simpa using g2)⟩)
    have INIT := Lib.hid (CE.out _ (Wr.refl _ _))
    have KW := Lib.hid (fun (W2 W : World) (hb : Below W.heap.size W W2) (h : Hid (Wr [] w12.drew W) ∧ W.cell? ⟨w10.heap.size, 0, none⟩ = some (.slice X10_0 d0.mn.length x10_0) ∧ W.cell? ⟨w10.heap.size, 1, none⟩ = some (.slice X10_1 d0.mx.length x10_1) ∧ W.cell? ⟨w10.heap.size, 2, none⟩ = some (.slice X10_2 d0.md.length x10_2) ∧ W.cell? ⟨w.heap.size, 0, none⟩ = some (.slice U0_0 d0.mn.length u0_0) ∧ W.cell? ⟨w.heap.size, 1, none⟩ = some (.slice U0_1 d0.mx.length u0_1) ∧ W.cell? ⟨w.heap.size, 2, none⟩ = some (.slice U0_2 d0.md.length u0_2)) => CE.out W2 (h.1.out.trans (Wr.of_below hb (Nat.le_refl _))))
    clear c0 c1 c2 cf g0 g1 g2 gf hlc hlg
    go_region_held3 (fun W => Hid (Wr [] w12.drew W) ∧ W.cell? ⟨w10.heap.size, 0, none⟩ = some (.slice X10_0 d0.mn.length x10_0) ∧ W.cell? ⟨w10.heap.size, 1, none⟩ = some (.slice X10_1 d0.mx.length x10_1) ∧ W.cell? ⟨w10.heap.size, 2, none⟩ = some (.slice X10_2 d0.md.length x10_2) ∧ W.cell? ⟨w.heap.size, 0, none⟩ = some (.slice U0_0 d0.mn.length u0_0) ∧ W.cell? ⟨w.heap.size, 1, none⟩ = some (.slice U0_1 d0.mx.length u0_1) ∧ W.cell? ⟨w.heap.size, 2, none⟩ = some (.slice U0_2 d0.md.length u0_2)) (first | exact INIT.out | exact KW.out _ _ (by assumption) (by assumption))
      (first
      | (go_at_call 9; refine (toDomain_t d0 _ _ (by exact S13.out.old HR0.out) (by have := HZ0.out; omega)).mono ?_; rintro e w14 ⟨v14_, F14, rfl, o, h, bb1⟩; have S14 := Lib.hid (S13.out.new o h bb1); clear S13 o h)
      | (go_at_call 12; refine (eqDomain_t d0 _ _ _ (by exact S14.out.rd 4 rfl) (by exact S14.out.rd 0 rfl)).mono ?_; rintro e w15 ⟨rfl, bb2⟩; have S15 := Lib.hid (S14.out.go bb2); clear S14))
    rename_i hHeld
    clear hHeld CE INIT KW bb1 bb2
    obtain ⟨c0, c1, c2, cf⟩ := (S15.out.bk 1 rfl).c3
    obtain ⟨g0, g1, g2, gf⟩ := (S15.out.bk 7 rfl).c3
    have hlc := (S15.out.bk 1 rfl).lt
    have hlg := (S15.out.bk 7 rfl).lt
    have S16 := Lib.hid (S15.out.drew1)
    clear S15
    go_wp2_with fail
    have CE := Lib.hid (fun (W : World) (h : Wr [] w15.drew W) => show Hid (Wr [] w15.drew W) ∧ W.cell? ⟨w11.heap.size, 0, none⟩ = some (.slice X11_0 d1.mn.length x11_0) ∧ W.cell? ⟨w11.heap.size, 1, none⟩ = some (.slice X11_1 d1.mx.length x11_1) ∧ W.cell? ⟨w11.heap.size, 2, none⟩ = some (.slice X11_2 d1.md.length x11_2) ∧ W.cell? ⟨w.heap.size + 1, 0, none⟩ = some (.slice U1_0 d1.mn.length u1_0) ∧ W.cell? ⟨w.heap.size + 1, 1, none⟩ = some (.slice U1_1 d1.mx.length u1_1) ∧ W.cell? ⟨w.heap.size + 1, 2, none⟩ = some (.slice U1_2 d1.md.length u1_2) from ⟨Lib.hid h, (wr_cell h (p := ⟨w11.heap.size, 0, none⟩) hlc (by simp)).trans (by simpa using c0), (wr_cell h (p := ⟨w11.heap.size, 1, none⟩) hlc (by simp)).trans (by simpa using c1), (wr_cell h (p := ⟨w11.heap.size, 2, none⟩) hlc (by simp)).trans (by simpa using c2), (wr_cell h (p := ⟨w.heap.size + 1, 0, none⟩) hlg (by simp)).trans (by simpa using g0), (wr_cell h (p := ⟨w.heap.size + 1, 1, none⟩) hlg (by simp)).trans (by simpa using g1), (wr_cell h (p := ⟨w.heap.size + 1, 2, none⟩) hlg (by simp)).trans (by simpa using g2)⟩)
    have INIT := Lib.hid (CE.out _ (Wr.refl _ _))
    have KW := Lib.hid (fun (W2 W : World) (hb : Below W.heap.size W W2) (h : Hid (Wr [] w15.drew W) ∧ W.cell? ⟨w11.heap.size, 0, none⟩ = some (.slice X11_0 d1.mn.length x11_0) ∧ W.cell? ⟨w11.heap.size, 1, none⟩ = some (.slice X11_1 d1.mx.length x11_1) ∧ W.cell? ⟨w11.heap.size, 2, none⟩ = some (.slice X11_2 d1.md.length x11_2) ∧ W.cell? ⟨w.heap.size + 1, 0, none⟩ = some (.slice U1_0 d1.mn.length u1_0) ∧ W.cell? ⟨w.heap.size + 1, 1, none⟩ = some (.slice U1_1 d1.mx.length u1_1) ∧ W.cell? ⟨w.heap.size + 1, 2, none⟩ = some (.slice U1_2 d1.md.length u1_2)) => CE.out W2 (h.1.out.trans (Wr.of_below hb (Nat.le_refl _))))
    clear c0 c1 c2 cf g0 g1 g2 gf hlc hlg
    go_region_held3 (fun W => Hid (Wr [] w15.drew W) ∧ W.cell? ⟨w11.heap.size, 0, none⟩ = some (.slice X11_0 d1.mn.length x11_0) ∧ W.cell? ⟨w11.heap.size, 1, none⟩ = some (.slice X11_1 d1.mx.length x11_1) ∧ W.cell? ⟨w11.heap.size, 2, none⟩ = some (.slice X11_2 d1.md.length x11_2) ∧ W.cell? ⟨w.heap.size + 1, 0, none⟩ = some (.slice U1_0 d1.mn.length u1_0) ∧ W.cell? ⟨w.heap.size + 1, 1, none⟩ = some (.slice U1_1 d1.mx.length u1_1) ∧ W.cell? ⟨w.heap.size + 1, 2, none⟩ = some (.slice U1_2 d1.md.length u1_2)) (first | exact INIT.out | exact KW.out _ _ (by assumption) (by assumption))
      (first
      | (go_at_call 9; refine (toDomain_t d1 _ _ (by exact S16.out.old HR1.out) (by have := HZ1.out; omega)).mono ?_; rintro e w17 ⟨v17_, F17, rfl, o, h, bb1⟩; have S17 := Lib.hid (S16.out.new o h bb1); clear S16 o h)
      | (go_at_call 12; refine (eqDomain_t d1 _ _ _ (by exact S17.out.rd 3 rfl) (by exact S17.out.rd 0 rfl)).mono ?_; rintro e w18 ⟨rfl, bb2⟩; have S18 := Lib.hid (S17.out.go bb2); clear S17))
    rename_i hHeld
    clear hHeld CE INIT KW bb1 bb2
    go_wp2
    go_ret
    exact ⟨rfl, S18.out.1⟩
end Go.Proofs.Ytdbnhdiboemmiab
