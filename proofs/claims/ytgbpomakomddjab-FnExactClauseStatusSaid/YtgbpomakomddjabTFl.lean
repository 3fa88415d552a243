/- DERIVED. CONTRACTS of the laws' helpers over Schedule and slices of it, by trees. -/
import Derived.Test.YtgbpomakomddjabDats
import Derived.Test.YtgbpomakomddjabTPj
import Derived.Test.YtgbpomakomddjabModT
import Derived.Deep.RegionWith
import Derived.Deep.RegionHeld3

section
namespace Go.Proofs.Ytgbpomakomddjab
open Go.RowKit
set_option linter.unusedVariables false

theorem thin_DomainL (d : Dm) : thinL (cellsDm d) := ⟨thin_ints _, thin_ints _, thin_IntSS _, trivial⟩
theorem thin_DomainS (xs : List Dm) : (trDms xs).thins := thin_rows cellsDm_len (by omega) thin_DomainL xs

set_option maxRecDepth 100000 in
set_option maxHeartbeats 1000000 in
theorem szDomain_t (d : Dm) (v : Value) (left : Int) (w : World) (hr : (trDm d).rd w v) (hk : (trDm d).ok) (h0 : 0 ≤ left) (h3 : left ≤ 1048576) :
    Calls Try.prog 4 #[v, .int .i64 left] w fun e w' => e = .returned (.int .i64 (if left < (trDm d).sz then -1 else left - (trDm d).sz)) ∧ Below w.heap.size w w' := by
  obtain ⟨A0, c0, A1, c1, A2, c2, rfl, r0, r1, r2⟩ := rdDomain_t hr
  clear hr
  obtain ⟨k0, k1, k2, _⟩ := hk
  have R0 := Lib.hid r0
  have K0 := Lib.hid k0
  clear r0 k0
  have R1 := Lib.hid r1
  have K1 := Lib.hid k1
  clear r1 k1
  have R2 := Lib.hid r2
  have K2 := Lib.hid k2
  clear r2 k2
  have HZ := Lib.hid (show (trDm d).sz = (trI d.mn).sz + ((trI d.mx).sz + ((trSu d.md).sz + 0)) from rfl)
  generalize (trDm d).sz = Z at HZ ⊢
  generalize hz0 : (trI d.mn).sz = z0 at HZ
  have Z0 := Lib.hid hz0
  clear hz0
  generalize hz1 : (trI d.mx).sz = z1 at HZ
  have Z1 := Lib.hid hz1
  clear hz1
  generalize hz2 : (trSu d.md).sz = z2 at HZ
  have Z2 := Lib.hid hz2
  clear hz2
  generalize hres : (if left < (Z : Int) then -1 else left - (Z : Int)) = res
  have RES := Lib.hid hres
  clear hres
  have S0 := Lib.hid ((Sn.start w).box 25 [.slice A0 d.mn.length c0, .slice A1 d.mx.length c1, .slice A2 d.md.length c2])
  go_enter Try.func4, Try.ntmps4
  go_wp2_with fail
  refine (szIntS_t d.mn _ _ _ (by exact S0.out.old R0.out) K0.out (by omega) (by omega)).mono ?_
  rintro e w1 ⟨rfl, b⟩
  rw [Z0.out]
  have S1 := Lib.hid (S0.out.go b)
  clear S0 b
  by_cases hb0 : left < (z0 : Int)
  · rw [if_pos hb0]
    go_wp2
    go_ret
    exact ⟨ret_numZ (by rw [← RES.out, if_pos (by have := HZ.out; omega)]), S1.out.1⟩
  rw [if_neg hb0]
  have hq0 : 0 ≤ left - (z0 : Int) := by omega
  obtain ⟨e0, e1, e2, ef⟩ := (S1.out.bk 0 rfl).c3
  go_wp2_with fail
  clear e0 e1 e2 ef
  refine (szIntS_t d.mx _ _ _ (by exact S1.out.old R1.out) K1.out (by omega) (by omega)).mono ?_
  rintro e w2 ⟨rfl, b⟩
  rw [Z1.out]
  have S2 := Lib.hid (S1.out.go b)
  clear S1 b
  by_cases hb1 : left - (z0 : Int) < (z1 : Int)
  · rw [if_pos hb1]
    go_wp2
    go_ret
    exact ⟨ret_numZ (by rw [← RES.out, if_pos (by have := HZ.out; omega)]), S2.out.1⟩
  rw [if_neg hb1]
  have hq1 : 0 ≤ left - (z0 : Int) - (z1 : Int) := by omega
  obtain ⟨e0, e1, e2, ef⟩ := (S2.out.bk 0 rfl).c3
  go_wp2_with fail
  clear e0 e1 e2 ef
  refine (szIntSS_t d.md _ _ _ (by exact S2.out.old R2.out) K2.out (by omega) (by omega)).mono ?_
  rintro e w3 ⟨rfl, b⟩
  rw [Z2.out]
  have S3 := Lib.hid (S2.out.go b)
  clear S2 b
  by_cases hb2 : left - (z0 : Int) - (z1 : Int) < (z2 : Int)
  · rw [if_pos hb2]
    go_wp2
    go_ret
    exact ⟨ret_numZ (by rw [← RES.out, if_pos (by have := HZ.out; omega)]), S3.out.1⟩
  rw [if_neg hb2]
  have hq2 : 0 ≤ left - (z0 : Int) - (z1 : Int) - (z2 : Int) := by omega
  go_wp2
  go_ret
  exact ⟨ret_numZ (by rw [← RES.out, if_neg (by have := HZ.out; omega)]; have := HZ.out; omega), S3.out.1⟩

set_option maxRecDepth 100000 in
set_option maxHeartbeats 1000000 in
theorem eqDomain_t (d : Dm) (v u : Value) (w : World) (hv : (trDm d).rd w v) (hu : (trDm d).rd w u) :
    Calls Try.prog 11 #[v, u] w fun e w' => e = .returned (.bool true) ∧ Below w.heap.size w w' := by
  obtain ⟨A0, c0, A1, c1, A2, c2, rfl, r0, r1, r2⟩ := rdDomain_t hv
  obtain ⟨B0, b0, B1, b1, B2, b2, rfl, s0, s1, s2⟩ := rdDomain_t hu
  clear hv hu
  have R0 := Lib.hid r0
  have Q0 := Lib.hid s0
  clear r0 s0
  have R1 := Lib.hid r1
  have Q1 := Lib.hid s1
  clear r1 s1
  have R2 := Lib.hid r2
  have Q2 := Lib.hid s2
  clear r2 s2
  have S0 := Lib.hid (((Sn.start w).box 33 [.slice A0 d.mn.length c0, .slice A1 d.mx.length c1, .slice A2 d.md.length c2]).box 33 [.slice B0 d.mn.length b0, .slice B1 d.mx.length b1, .slice B2 d.md.length b2])
  simp only [World.size_alloc] at S0
  go_enter Try.func11, Try.ntmps11
  go_wp2_with fail
  refine (eqIntS_t d.mn _ _ _ (by exact S0.out.old R0.out) (by exact S0.out.old Q0.out)).mono ?_
  rintro e w1 ⟨rfl, b⟩
  have S1 := Lib.hid (S0.out.go b)
  clear S0 b
  obtain ⟨e0, e1, e2, ef⟩ := (S1.out.bk 1 rfl).c3
  obtain ⟨g0, g1, g2, gf⟩ := (S1.out.bk 0 rfl).c3
  go_wp2_with fail
  clear e0 e1 e2 ef g0 g1 g2 gf
  refine (eqIntS_t d.mx _ _ _ (by exact S1.out.old R1.out) (by exact S1.out.old Q1.out)).mono ?_
  rintro e w2 ⟨rfl, b⟩
  have S2 := Lib.hid (S1.out.go b)
  clear S1 b
  obtain ⟨e0, e1, e2, ef⟩ := (S2.out.bk 1 rfl).c3
  obtain ⟨g0, g1, g2, gf⟩ := (S2.out.bk 0 rfl).c3
  go_wp2_with fail
  clear e0 e1 e2 ef g0 g1 g2 gf
  refine (eqIntSS_t d.md _ _ _ (by exact S2.out.old R2.out) (by exact S2.out.old Q2.out)).mono ?_
  rintro e w3 ⟨rfl, b⟩
  have S3 := Lib.hid (S2.out.go b)
  clear S2 b
  go_wp2
  go_ret
  exact ⟨rfl, S3.out.1⟩

set_option maxRecDepth 100000 in
set_option maxHeartbeats 1000000 in
theorem toDomain_t (d : Dm) (v : Value) (w : World) (hv : (trDm d).rd w v) (hl : (trDm d).sz ≤ 1073741824) :
    Calls Try.prog 7 #[v] w fun e w' => ∃ u F, e = .returned u ∧ (trDm d).own w' w.heap.size u F ∧ F.Nodup ∧ Below w.heap.size w w' := by
  obtain ⟨A0, c0, A1, c1, A2, c2, rfl, r0, r1, r2⟩ := rdDomain_t hv
  clear hv
  have R0 := Lib.hid r0
  clear r0
  have R1 := Lib.hid r1
  clear r1
  have R2 := Lib.hid r2
  clear r2
  have hz : (trDm d).sz = (trI d.mn).sz + ((trI d.mx).sz + ((trSu d.md).sz + 0)) := rfl
  have hl0 : (trI d.mn).sz ≤ 1073741824 := by omega
  have hl1 : (trI d.mx).sz ≤ 1073741824 := by omega
  have hl2 : (trSu d.md).sz ≤ 1073741824 := by omega
  clear hz hl
  have S0 := Lib.hid ((((Sn.start w).box 25 [.slice A0 d.mn.length c0, .slice A1 d.mx.length c1, .slice A2 d.md.length c2]).box 33 [.slice none 0 0, .slice none 0 0, .slice none 0 0]).box 33 [.slice none 0 0, .slice none 0 0, .slice none 0 0])
  simp only [World.size_alloc] at S0
  go_enter Try.func7, Try.ntmps7
  go_wp2_with fail
  refine (toIntS_t d.mn _ _ (by exact S0.out.old R0.out) hl0).mono ?_
  rintro e w1 ⟨u0, F0, rfl, o, h, b⟩
  obtain ⟨U0, n0, rfl⟩ := slice_ints (Tr.own_rd _ _ _ o)
  have S1 := Lib.hid (S0.out.new o h b)
  clear S0 o h b
  obtain ⟨e0, e1, e2, ef⟩ := (S1.out.bk 3 rfl).c3
  obtain ⟨g0, g1, g2, gf⟩ := (S1.out.bk 1 rfl).c3
  go_wp2_with fail
  clear e0 e1 e2 ef g0 g1 g2 gf
  have S1' := Lib.hid (S1.out.boxSet 1 rfl 0 (.slice U0 d.mn.length n0))
  clear S1
  have S1 := S1'
  clear S1'
  refine (toIntS_t d.mx _ _ (by exact S1.out.old R1.out) hl1).mono ?_
  rintro e w2 ⟨u1, F1, rfl, o, h, b⟩
  obtain ⟨U1, n1, rfl⟩ := slice_ints (Tr.own_rd _ _ _ o)
  have S2 := Lib.hid (S1.out.new o h b)
  clear S1 o h b
  obtain ⟨e0, e1, e2, ef⟩ := (S2.out.bk 4 rfl).c3
  obtain ⟨g0, g1, g2, gf⟩ := (S2.out.bk 2 rfl).c3
  go_wp2_with fail
  clear e0 e1 e2 ef g0 g1 g2 gf
  have S2' := Lib.hid (S2.out.boxSet 2 rfl 1 (.slice U1 d.mx.length n1))
  clear S2
  have S2 := S2'
  clear S2'
  refine (toIntSS_t d.md _ _ (by exact S2.out.old R2.out) hl2).mono ?_
  rintro e w3 ⟨u2, F2, rfl, o, h, b⟩
  obtain ⟨U2, n2, rfl⟩ := rows_slice (Tr.own_rd _ _ _ o)
  have S3 := Lib.hid (S2.out.new o h b)
  clear S2 o h b
  obtain ⟨e0, e1, e2, ef⟩ := (S3.out.bk 5 rfl).c3
  obtain ⟨g0, g1, g2, gf⟩ := (S3.out.bk 3 rfl).c3
  obtain ⟨z0, z1, z2, zf⟩ := (S3.out.bk 4 rfl).c3
  go_wp2
  clear e0 e1 e2 ef g0 g1 g2 gf
  have SZ := (((S3.out.boxSet 3 rfl 2 (.slice U2 d.md.length n2)).boxSet 4 rfl 0 (.slice U0 d.mn.length n0)).boxSet 4 rfl 1 (.slice U1 d.mx.length n1)).boxSet 4 rfl 2 (.slice U2 d.md.length n2)
  have P := SZ.nil0
  have P := (P.pick 1 rfl).pack
  have P := (P.pick 1 rfl).pack
  have P := (P.pick 1 rfl).pack
  refine bodyPost_ret (v := .agg #[.slice U0 d.mn.length n0, .slice U1 d.mx.length n1, .slice U2 d.md.length n2]) (by simp [results, Try.results7, go_sem, z0, z1, z2]) rfl ⟨_, _, rfl, (P.own 0 rfl).1, (P.own 0 rfl).2, P.1⟩

theorem infoDomain_t : (Try.prog.info? 33).map (fun i => (i.zero, i.size, i.bytes)) = some (some (.agg #[.slice none 0 0, .slice none 0 0, .slice none 0 0]), 3, 72) := by kernel_rfl

end Go.Proofs.Ytgbpomakomddjab
end

section
namespace Go.Proofs.Ytgbpomakomddjab
open Go.RowKit
set_option linter.unusedVariables false

theorem thin_LiteralL (d : Lt) : thinL (cellsLt d) := ⟨trivial, trivial, trivial, trivial⟩
theorem thin_LiteralS (xs : List Lt) : (trLts xs).thins := thin_rows cellsLt_len (by omega) thin_LiteralL xs
theorem szL_Literal0 : ∀ xs : List Lt, szL (xs.flatMap cellsLt) = 0
  | [] => rfl
  | x :: xs => by rw [List.flatMap_cons, szL_app, szL_Literal0 xs]; rfl

set_option maxRecDepth 100000 in
set_option maxHeartbeats 1000000 in
theorem szLiteralS_t (xs : List Lt) (v : Value) (left : Int) (w : World) (hr : (trLts xs).rd w v) (hk : (trLts xs).ok) (h0 : 0 ≤ left) (h3 : left ≤ 1048576) :
    Calls Try.prog 5 #[v, .int .i64 left] w fun e w' => e = .returned (.int .i64 (if left < (trLts xs).sz then -1 else left - (trLts xs).sz)) ∧ Below w.heap.size w w' := by
  obtain ⟨hl, A, c, rfl, ga⟩ := rdLiteralS_t hr
  have GA := Lib.hid ga
  clear ga hr
  have HZ := Lib.hid (show (trLts xs).sz = xs.length + szL (xs.flatMap cellsLt) from rfl)
  generalize (trLts xs).sz = Z at HZ ⊢
  generalize hres : (if left < (Z : Int) then -1 else left - (Z : Int)) = res
  have RES := Lib.hid hres
  clear hres
  have hflat : szL (xs.flatMap cellsLt) = 0 := szL_Literal0 xs
  by_cases hn : left < (xs.length : Int)
  · have hn' : left - (xs.length : Int) < 0 := by omega
    go_enter Try.func5, Try.ntmps5
    go_wp2
    go_ret
    exact ⟨ret_numZ (by rw [← RES.out, if_pos (by have := HZ.out; omega)]), Below.refl _ _⟩
  · have hn' : ¬ left - (xs.length : Int) < 0 := by omega
    go_enter Try.func5, Try.ntmps5
    go_wp2
    go_ret
    exact ⟨ret_numZ (by rw [← RES.out, if_neg (by have := HZ.out; omega)]; have := HZ.out; omega), Below.refl _ _⟩

set_option maxRecDepth 100000 in
set_option maxHeartbeats 1000000 in
theorem eqLiteral_t (d : Lt) (v u : Value) (w : World) (hv : (trLt d).rd w v) (hu : (trLt d).rd w u) :
    Calls Try.prog 10 #[v, u] w fun e w' => e = .returned (.bool true) ∧ Below w.heap.size w w' := by
  obtain rfl := rdLiteral_t hv
  obtain rfl := rdLiteral_t hu
  clear hv hu
  have S0 := Lib.hid (((Sn.start w).box 30 [.int .i64 d.ki, .int .i64 d.ac, .int .i64 d.va]).box 30 [.int .i64 d.ki, .int .i64 d.ac, .int .i64 d.va])
  simp only [World.size_alloc] at S0
  go_enter Try.func10, Try.ntmps10
  go_wp2
  go_ret
  exact ⟨rfl, S0.out.1⟩

set_option maxRecDepth 100000 in
set_option maxHeartbeats 1000000 in
theorem eqLiteralS_t (xs : List Lt) (v u : Value) (w : World) (hv : (trLts xs).rd w v) (hu : (trLts xs).rd w u) :
    Calls Try.prog 12 #[v, u] w fun e w' => e = .returned (.bool true) ∧ Below w.heap.size w w' := by
  obtain ⟨hl, A, c, rfl, ga⟩ := rdLiteralS_t hv
  obtain ⟨_, B, c2, rfl, gb⟩ := rdLiteralS_t hu
  have GA := Lib.hid ga
  have GB := Lib.hid gb
  clear ga gb hv hu
  go_enter Try.func12, Try.ntmps12
  go_wp2
  go_loopw [5] (fun i wr => ∃ k : Nat, k ≤ xs.length ∧ i = .int .i64 k ∧ Below w.heap.size w wr) (fun i _ => xs.length - (intOf i).toNat)
  case atStart => exact ⟨0, Nat.zero_le _, rfl, Below.refl _ _⟩
  case round =>
    obtain ⟨k, hk, rfl, hbel⟩ := hrel
    by_cases hlt : k < xs.length
    · have hlt' : (k : Int) < (xs.length : Int) := by omega
      obtain ⟨b1, o1, rfl, hb1, hc⟩ := GA.out k hlt
      obtain ⟨b2, o2, rfl, hb2, hd⟩ := GB.out k hlt
      obtain ⟨hc0, hc1, hc2⟩ := hc k hlt
      obtain ⟨hd0, hd1, hd2⟩ := hd k hlt
      have hx0 := (hbel.cell (p := ⟨b1, o1 + k * 3, none⟩) hb1).trans hc0
      have hx1 := (hbel.cell (p := ⟨b1, o1 + k * 3 + 1, none⟩) hb1).trans hc1
      have hx2 := (hbel.cell (p := ⟨b1, o1 + k * 3 + 2, none⟩) hb1).trans hc2
      have hy0 := (hbel.cell (p := ⟨b2, o2 + k * 3, none⟩) hb2).trans hd0
      have hy1 := (hbel.cell (p := ⟨b2, o2 + k * 3 + 1, none⟩) hb2).trans hd1
      have hy2 := (hbel.cell (p := ⟨b2, o2 + k * 3 + 2, none⟩) hb2).trans hd2
      have HM := Lib.hid (mk_rdLiteral_t (w := wr.drew) (d := xs[k]) )
      have HN := Lib.hid (mk_rdLiteral_t (w := wr.drew) (d := xs[k]) )
      clear hc hd hc0 hd0 hc1 hd1 hc2 hd2 
      have HB := Lib.hid hbel
      clear hbel
      generalize xs[k] = m at hx0 hy0 hx1 hy1 hx2 hy2 HM HN
      go_wp2
      go_region_with (go_at_call 10; refine (eqLiteral_t m _ _ _ (by exact HM.out) (by exact HN.out)).mono ?_; rintro e w1 ⟨rfl, hb3⟩)
      all_goals
        go_wp2
        go_roundw
        case rel => exact ⟨k + 1, by omega, by go_num, HB.out.drew.trans (hb3.mono HB.out.size)⟩
        case measure => simp [intOf]; omega
    · have hge : ¬ (k : Int) < (xs.length : Int) := by omega
      have HB := Lib.hid hbel
      clear hbel
      go_wp2
      go_ret
      exact ⟨rfl, HB.out⟩

set_option maxRecDepth 100000 in
set_option maxHeartbeats 1000000 in
theorem toLiteral_t (d : Lt) (v : Value) (w : World) (hv : (trLt d).rd w v) (hl : (trLt d).sz ≤ 1073741824) :
    Calls Try.prog 18 #[v] w fun e w' => ∃ u F, e = .returned u ∧ (trLt d).own w' w.heap.size u F ∧ F.Nodup ∧ Below w.heap.size w w' := by
  obtain rfl := rdLiteral_t hv
  clear hv hl
  go_enter Try.func18, Try.ntmps18
  go_wp2
  refine bodyPost_ret (v := .agg #[.int .i64 d.ki, .int .i64 d.ac, .int .i64 d.va]) (by simp [results, Try.results18, go_sem]) rfl ⟨_, [], rfl, ⟨_, rfl, ownL_ones (xs := [.int .i64 d.ki, .int .i64 d.ac, .int .i64 d.va]) |>.2 ⟨rfl, rfl⟩⟩, by simp, ?_⟩
  repeat (first | exact Below.refl _ _ | refine Below.setCell ?_ (by simp) _ | refine Below.alloc ?_ (by first | (simp; done) | (simp; omega)) _)

theorem infoLiteral_t : (Try.prog.info? 30).map (fun i => (i.zero, i.size, i.bytes)) = some (some (.agg #[.int .i64 0, .int .i64 0, .int .i64 0]), 3, 24) := by kernel_rfl

set_option maxRecDepth 100000 in
set_option maxHeartbeats 1000000 in
theorem toLiteralS_t (xs : List Lt) (v : Value) (w : World) (hv : (trLts xs).rd w v) (hl : (trLts xs).sz ≤ 1073741824) :
    Calls Try.prog 8 #[v] w fun e w' => ∃ u F, e = .returned u ∧ (trLts xs).own w' w.heap.size u F ∧ F.Nodup ∧ Below w.heap.size w w' := by
  obtain ⟨hla, A, c, rfl, ga⟩ := rdLiteralS_t hv
  have GA := Lib.hid ga
  clear ga hv
  have hsz : (trLts xs).sz = xs.length + szL (xs.flatMap cellsLt) := rfl
  rw [hsz] at hl
  clear hsz
  obtain ⟨i0, hi, hz0, hz1, hz2⟩ := info_parts infoLiteral_t
  go_enter Try.func8, Try.ntmps8
  go_wp2_with (at_make; refine wpList_make_full _ rfl _ _ 35 rfl w.heap.size 30 i0 (.agg #[.int .i64 0, .int .i64 0, .int .i64 0]) 3 Try.underlying35 hi hz0 hz1 .i64 .i64 _ _ xs.length rfl rfl rfl rfl (by rw [hz2]; omega) (by unfold maxLen; omega) (Nat.le_refl _) ?_; intro w1 hown1 hgrow1)
  have hbel1 : Below w.heap.size w w1 := (Below.refl _ _).grown hgrow1 (Nat.le_refl _) (by simp)
  have hm := hown1.1
  generalize hms : (madeCells _ (xs.length * 3)).toList = raw at hown1 hm
  have HM := Lib.hid hm
  have HO := Lib.hid hown1
  clear hm hms hgrow1 hown1
  go_loopw [4] (fun i wr => ∃ k : Nat, k ≤ xs.length ∧ i = .int .i64 k ∧ (∃ F, RowAt wr w.heap.size 30 3 xs.length w.heap.size xs.length (mixR cellsLt 3 raw xs k) F) ∧ Below w.heap.size w wr) (fun i _ => xs.length - (intOf i).toNat)
  case atStart => exact ⟨0, Nat.zero_le _, rfl, ⟨_, by rw [mixR_zero]; exact row_made HO.out⟩, hbel1⟩
  case round =>
    obtain ⟨k, hk, rfl, ⟨F, how⟩, hbel⟩ := hrel
    by_cases hlt : k < xs.length
    · have hlt' : (k : Int) < (xs.length : Int) := by omega
      obtain ⟨b, o, rfl, hb, hc⟩ := GA.out k hlt
      obtain ⟨hc0, hc1, hc2⟩ := hc k hlt
      have hx0 := (hbel.cell (p := ⟨b, o + k * 3, none⟩) hb).trans hc0
      have hx1 := (hbel.cell (p := ⟨b, o + k * 3 + 1, none⟩) hb).trans hc1
      have hx2 := (hbel.cell (p := ⟨b, o + k * 3 + 2, none⟩) hb).trans hc2
      have hse := szL_flat_at (f := cellsLt) hlt
      have HRD := Lib.hid (mk_rdLiteral_t (w := wr) (d := xs[k]) )
      have hle : (trLt xs[k]).sz ≤ 1073741824 := by
        have : (trLt xs[k]).sz = szL (cellsLt xs[k]) := rfl
        omega
      have HST := Lib.hid (mixR_set cellsLt_len HM.out hlt)
      have HLEN := Lib.hid (mixR_len cellsLt_len HM.out hk)
      clear hc hse hc0 hc1 hc2 
      generalize xs[k] = m at hx0 hx1 hx2 HRD HST hle
      have HB := Lib.hid hbel
      have HW := Lib.hid how
      clear hbel how
      go_wp2_with fail
      refine (toLiteral_t m _ _ HRD.out hle).mono ?_
      rintro e w2 ⟨u, H, rfl, ho, hn, hb2⟩
      obtain rfl := rdLiteral_t (Tr.own_rd _ _ _ ho)
      have how2 := HW.out.below hb2 (Nat.le_refl _)
      have hcl : (mixR cellsLt 3 raw xs k).length = xs.length * 3 := HLEN.out
      obtain ⟨y0, hy0⟩ := how2.some (i := k * 3) (by omega)
      obtain ⟨y1, hy1⟩ := how2.some (i := k * 3 + 1) (by omega)
      obtain ⟨y2, hy2⟩ := how2.some (i := k * 3 + 2) (by omega)
      have hf := how2.frozen
      have hgw := how2.lt.2
      have hw0 := HW.out.lt.2
      obtain ⟨vs, hvs, hoL⟩ := ho
      obtain rfl : vs = [.int .i64 m.ki, .int .i64 m.ac, .int .i64 m.va] := by
        injection hvs with hvs
        exact (congrArg Array.toList hvs).symm
      obtain ⟨F', hp, _⟩ := RowAt.putL (K := wr.heap.size) HB.out.size hw0 (cellsLt m) _ w2 _ F H (k * 3) how2 (by rw [cellsLt_len]; omega) hoL hn (fun j hj hj2 => by
        have h1 := (ownL_lt _ _ _ hoL j hj).1
        have h2 := (HW.out.allLt j hj2).2
        omega)
      rw [HST.out] at hp
      have HP := Lib.hid hp
      have HBZ := Lib.hid (setL_below (Nat.le_refl _) [.int .i64 m.ki, .int .i64 m.ac, .int .i64 m.va] w2 (k * 3) (HB.out.trans (hb2.mono HB.out.size)))
      clear hp hoL how2 hb2 hn hcl hvs
      go_wp2
      go_roundw
      case rel => exact ⟨k + 1, by omega, by go_num, ⟨F', HP.out⟩, HBZ.out⟩
      case measure => simp [intOf]; omega
    · have hge : ¬ (k : Int) < (xs.length : Int) := by omega
      obtain rfl : k = xs.length := by omega
      rw [mixR_full HM.out] at how
      have HW := Lib.hid how
      have HB := Lib.hid hbel
      clear how hbel
      go_wp2
      go_ret
      exact ⟨_, rfl, F, HW.out.1, HW.out.2, HB.out⟩

end Go.Proofs.Ytgbpomakomddjab
end

section
namespace Go.Proofs.Ytgbpomakomddjab
open Go.RowKit
set_option linter.unusedVariables false

theorem thin_ScheduleL (d : Sc) : thinL (cellsSc d) := ⟨thin_ints _, thin_ints _, trivial⟩
end Go.Proofs.Ytgbpomakomddjab
end
