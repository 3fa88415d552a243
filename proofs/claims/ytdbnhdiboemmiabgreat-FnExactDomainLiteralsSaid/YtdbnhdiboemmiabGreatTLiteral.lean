/- DERIVED. CONTRACTS of the laws' helpers over Literal and slices of it, by trees. -/
import Derived.Test.YtdbnhdiboemmiabGreatDats
import Derived.Test.YtdbnhdiboemmiabGreatModT
import Derived.Deep.RegionWith
import Derived.Deep.RegionHeld3
namespace Go.Proofs.YtdbnhdiboemmiabGreat
open Go.RowKit
set_option linter.unusedVariables false

theorem thin_LiteralL (d : Lt) : thinL (cellsLt d) := ⟨trivial, trivial, trivial, trivial⟩
theorem thin_LiteralS (xs : List Lt) : (trLts xs).thins := thin_rows cellsLt_len (by omega) thin_LiteralL xs
theorem szL_Literal0 : ∀ xs : List Lt, szL (xs.flatMap cellsLt) = 0
  | [] => rfl
  | x :: xs => by rw [List.flatMap_cons, szL_app, szL_Literal0 xs]; rfl

set_option maxRecDepth 100000 in
set_option maxHeartbeats 1000000 in
theorem eqLiteral_t (d : Lt) (v u : Value) (w : World) (hv : (trLt d).rd w v) (hu : (trLt d).rd w u) :
    Calls Tryz.prog 33 #[v, u] w fun e w' => e = .returned (.bool true) ∧ Below w.heap.size w w' := by
  obtain rfl := rdLiteral_t hv
  obtain rfl := rdLiteral_t hu
  clear hv hu
  have S0 := Lib.hid (((Sn.start w).box 60 [.int .i64 d.ki, .int .i64 d.ac, .int .i64 d.va]).box 60 [.int .i64 d.ki, .int .i64 d.ac, .int .i64 d.va])
  simp only [World.size_alloc] at S0
  go_enter Tryz.func33, Tryz.ntmps33
  go_wp2
  go_ret
  exact ⟨rfl, S0.out.1⟩

set_option maxRecDepth 100000 in
set_option maxHeartbeats 1000000 in
theorem eqLiteralS_t (xs : List Lt) (v u : Value) (w : World) (hv : (trLts xs).rd w v) (hu : (trLts xs).rd w u) :
    Calls Tryz.prog 10 #[v, u] w fun e w' => e = .returned (.bool true) ∧ Below w.heap.size w w' := by
  obtain ⟨hl, A, c, rfl, ga⟩ := rdLiteralS_t hv
  obtain ⟨_, B, c2, rfl, gb⟩ := rdLiteralS_t hu
  have GA := Lib.hid ga
  have GB := Lib.hid gb
  clear ga gb hv hu
  go_enter Tryz.func10, Tryz.ntmps10
  go_wp2
  go_loopw [5] (fun i wr => ∃ k : Nat, k ≤ xs.length ∧ i = .int .i64 k ∧ Below w.heap.size w wr) (fun i _ => xs.length - (intOf i).toNat)
  case atStart => exact ⟨0, Nat.zero_le _, rfl, Below.refl _ _⟩
  case round =>
    obtain ⟨k, hk, rfl, hbel⟩ := hrel
    by_cases hlt : k < xs.length
    · have hlt' : (k : Int) < (xs.length : Int) := by omega
      obtain ⟨b1, o1, rfl, hb1, hc⟩ := GA.out k hlt
      obtain ⟨b2, o2, rfl, hb2, hd⟩ := GB.out k hlt
      obtain ⟨hc0, hc1, hc2⟩ := hc k hlt
      obtain ⟨hd0, hd1, hd2⟩ := hd k hlt
      have hx0 := (hbel.cell (p := ⟨b1, o1 + k * 3, none⟩) hb1).trans hc0
      have hx1 := (hbel.cell (p := ⟨b1, o1 + k * 3 + 1, none⟩) hb1).trans hc1
      have hx2 := (hbel.cell (p := ⟨b1, o1 + k * 3 + 2, none⟩) hb1).trans hc2
      have hy0 := (hbel.cell (p := ⟨b2, o2 + k * 3, none⟩) hb2).trans hd0
      have hy1 := (hbel.cell (p := ⟨b2, o2 + k * 3 + 1, none⟩) hb2).trans hd1
      have hy2 := (hbel.cell (p := ⟨b2, o2 + k * 3 + 2, none⟩) hb2).trans hd2
      have HM := Lib.hid (mk_rdLiteral_t (w := wr.drew) (d := xs[k]) )
      have HN := Lib.hid (mk_rdLiteral_t (w := wr.drew) (d := xs[k]) )
      clear hc hd hc0 hd0 hc1 hd1 hc2 hd2 
      have HB := Lib.hid hbel
      clear hbel
      generalize xs[k] = m at hx0 hy0 hx1 hy1 hx2 hy2 HM HN
      go_wp2
      go_region_with (go_at_call 33; refine (eqLiteral_t m _ _ _ (by exact HM.out) (by exact HN.out)).mono ?_; rintro e w1 ⟨rfl, hb3⟩)
      all_goals
        go_wp2
        go_roundw
        case rel => exact ⟨k + 1, by omega, by go_num, HB.out.drew.trans (hb3.mono HB.out.size)⟩
        case measure => simp [intOf]; omega
    · have hge : ¬ (k : Int) < (xs.length : Int) := by omega
      have HB := Lib.hid hbel
      clear hbel
      go_wp2
      go_ret
      exact ⟨rfl, HB.out⟩

theorem infoLiteral_t : (Tryz.prog.info? 60).map (fun i => (i.zero, i.size, i.bytes)) = some (some (.agg #[.int .i64 0, .int .i64 0, .int .i64 0]), 3, 24) := by kernel_rfl

set_option maxRecDepth 100000 in
set_option maxHeartbeats 2000000 in
theorem markLiteralS_t (k B : Nat) (xs : List Lt) (v : Value) (F : List Nat) (w : World) (hown : (trLts xs).own w B v F) (hn : F.Nodup) (h0 : 0 < k) (hk : k + (trLts xs).cnt ≤ 1000000000) :
    Calls Tryz.prog 15 #[v, .int .i64 k] w fun e w' => ∃ F', e = .returned (.int .i64 (k + (trLts xs).cnt : Nat)) ∧ ((trLts xs).mkd k).own w' B v F' ∧ F'.Nodup ∧ (∀ x ∈ F', x ∈ F) ∧ Wr F w w' := by
  rcases own_form hown with ⟨rfl, hl⟩ | ⟨g, cap, rfl, hcap, hmx⟩
  · obtain rfl : xs = [] := List.eq_nil_of_length_eq_zero hl
    have HO := Lib.hid hown
    have HN := Lib.hid hn
    clear hown hn hl
    go_enter Tryz.func15, Tryz.ntmps15
    go_wp2
    refine wp_loop_rounds 1 ?_
    rw [rounds_succ]
    go_wp2
    go_ret
    first | exact ⟨rfl, F, HO.out, HN.out, fun _ h => h, Wr.refl _ _⟩ | exact ⟨F, rfl, HO.out, HN.out, fun _ h => h, Wr.refl _ _⟩
  have HO := Lib.hid (show RowAt w B 60 3 xs.length g cap (xs.flatMap cellsLt) F from ⟨hown, hn⟩)
  clear hown hn
  have hC : (trLts xs).cnt = cntL (xs.flatMap cellsLt) := rfl
  rw [hC] at hk ⊢
  clear hC
  go_enter Tryz.func15, Tryz.ntmps15
  go_wp2
  go_loopw [1, 5] (fun q i wr => ∃ j : Nat, j ≤ xs.length ∧ i = .int .i64 j ∧ q = .int .i64 (k + cntL ((xs.flatMap cellsLt).take (j * 3)) : Nat) ∧ (∃ F', RowAt wr B 60 3 xs.length g cap (mixC k (xs.flatMap cellsLt) (j * 3)) F' ∧ ∀ x ∈ F', x ∈ F) ∧ Wr F w wr) (fun _ i _ => xs.length - (intOf i).toNat)
  case atStart => exact ⟨0, Nat.zero_le _, rfl, by simp [cntL], ⟨F, by rw [Nat.zero_mul]; rw [mixC_zero]; exact HO.out, fun _ h => h⟩, Wr.refl _ _⟩
  case round =>
    obtain ⟨j, hj, rfl, rfl, ⟨F1, how, hsub⟩, hwr⟩ := hrel
    by_cases hlt : j < xs.length
    · have hlt' : (j : Int) < (xs.length : Int) := by omega
      have t0 : (xs.flatMap cellsLt)[j * 3]? = some (.one (.int .i64 xs[j].ki)) := by simpa [cellsLt] using flatMap_get cellsLt_len xs j hlt 0 (by omega)
      have a0 : cntL ((xs.flatMap cellsLt).take (j * 3 + 1)) = cntL ((xs.flatMap cellsLt).take (j * 3)) + 1 := cntL_take t0
      have t1 : (xs.flatMap cellsLt)[j * 3 + 1]? = some (.one (.int .i64 xs[j].ac)) := by simpa [cellsLt] using flatMap_get cellsLt_len xs j hlt 1 (by omega)
      have a1 : cntL ((xs.flatMap cellsLt).take (j * 3 + 2)) = cntL ((xs.flatMap cellsLt).take (j * 3 + 1)) + 1 := cntL_take t1
      have t2 : (xs.flatMap cellsLt)[j * 3 + 2]? = some (.one (.int .i64 xs[j].va)) := by simpa [cellsLt] using flatMap_get cellsLt_len xs j hlt 2 (by omega)
      have a2 : cntL ((xs.flatMap cellsLt).take (j * 3 + 3)) = cntL ((xs.flatMap cellsLt).take (j * 3 + 2)) + 1 := cntL_take t2
      have hle := cntL_le (xs.flatMap cellsLt) (j * 3 + 3)
      generalize hQ : k + cntL ((xs.flatMap cellsLt).take (j * 3)) = Q
      have e0 : k + cntL ((xs.flatMap cellsLt).take (j * 3)) = Q := by omega
      have e1 : k + cntL ((xs.flatMap cellsLt).take (j * 3 + 1)) = Q + 1 := by omega
      have e2 : k + cntL ((xs.flatMap cellsLt).take (j * 3 + 2)) = Q + 1 + 1 := by omega
      have e3 : k + cntL ((xs.flatMap cellsLt).take (j * 3 + 3)) = Q + 1 + 1 + 1 := by omega
      have hbd : Q + 1 + 1 + 1 ≤ 1000000000 := by omega
      have hQ0 : 0 < Q := by omega
      clear hle a0 a1 a2
      have T0 := Lib.hid t0
      clear t0
      have T1 := Lib.hid t1
      clear t1
      have T2 := Lib.hid t2
      clear t2
      have E0 := Lib.hid e0
      clear e0
      have E1 := Lib.hid e1
      clear e1
      have E2 := Lib.hid e2
      clear e2
      have E3 := Lib.hid e3
      clear e3
      have HQ := Lib.hid hQ
      clear hQ
      have hlen := how.len
      rw [mixC_len] at hlen
      have hjs : j * 3 + 3 ≤ xs.length * 3 := by omega
      have HN_ := Lib.hid (show ((j + 1) * 3 = j * 3 + 3) from by omega)
      have HOW0 := Lib.hid how
      have HSUB0 := Lib.hid hsub
      have HWR0 := Lib.hid hwr
      clear how hsub hwr
      obtain ⟨z0, hz0⟩ := HOW0.out.some (i := j * 3) (by rw [mixC_len]; omega)
      obtain ⟨z1, hz1⟩ := HOW0.out.some (i := j * 3 + 1) (by rw [mixC_len]; omega)
      obtain ⟨z2, hz2⟩ := HOW0.out.some (i := j * 3 + 2) (by rw [mixC_len]; omega)
      have hf := HOW0.out.frozen
      have hgw := HOW0.out.lt.2
      obtain ⟨G0, m0, ms0, mw0⟩ := rowAt_mark1 HOW0.out T0.out (y := .int .i64 ((Q : Nat) : Int)) (by show Value.int .i64 ((k + cntL _ : Nat) : Int) = _; rw [E0.out])
      have HOW1 := Lib.hid m0
      have HSUB1 := Lib.hid (fun x hx => HSUB0.out x (ms0 x hx))
      have HWR1 := Lib.hid (HWR0.out.trans (mw0.sub (fun x hx => HSUB0.out x hx)))
      clear m0 ms0 mw0 HOW0 HSUB0 HWR0
      obtain ⟨G1, m1, ms1, mw1⟩ := rowAt_mark1 HOW1.out T1.out (y := .int .i64 ((Q + 1 : Nat) : Int)) (by show Value.int .i64 ((k + cntL _ : Nat) : Int) = _; rw [E1.out])
      have HOW2 := Lib.hid m1
      have HSUB2 := Lib.hid (fun x hx => HSUB1.out x (ms1 x hx))
      have HWR2 := Lib.hid (HWR1.out.trans (mw1.sub (fun x hx => HSUB1.out x hx)))
      clear m1 ms1 mw1 HOW1 HSUB1 HWR1
      obtain ⟨G2, m2, ms2, mw2⟩ := rowAt_mark1 HOW2.out T2.out (y := .int .i64 ((Q + 1 + 1 : Nat) : Int)) (by show Value.int .i64 ((k + cntL _ : Nat) : Int) = _; rw [E2.out])
      have HOW3 := Lib.hid m2
      have HSUB3 := Lib.hid (fun x hx => HSUB2.out x (ms2 x hx))
      have HWR3 := Lib.hid (HWR2.out.trans (mw2.sub (fun x hx => HSUB2.out x hx)))
      clear m2 ms2 mw2 HOW2 HSUB2 HWR2
      have HF := Lib.hid (show RowAt _ B 60 3 xs.length g cap (mixC k (xs.flatMap cellsLt) ((j + 1) * 3)) _ from by rw [HN_.out]; exact HOW3.out)
      have HC := Lib.hid (show k + cntL ((xs.flatMap cellsLt).take ((j + 1) * 3)) = Q + 1 + 1 + 1 from by rw [HN_.out]; exact E3.out)
      go_wp2
      go_roundw
      case rel => exact ⟨j + 1, by omega, by go_num, by rw [HC.out]; rfl, ⟨_, HF.out, HSUB3.out⟩, HWR3.out⟩
      case measure => simp [intOf]; omega
    · have hge : ¬ (j : Int) < (xs.length : Int) := by omega
      obtain rfl : j = xs.length := by omega
      have hfl := flatMap_len cellsLt_len xs
      rw [mixC_full k _ (by omega)] at how
      rw [List.take_of_length_le (by omega)]
      have HW := Lib.hid how
      have HB := Lib.hid hwr
      have HS := Lib.hid hsub
      clear how hwr hsub hfl
      go_wp2
      go_ret
      first | exact ⟨rfl, F1, HW.out.1, HW.out.2, HS.out, HB.out⟩ | exact ⟨F1, rfl, HW.out.1, HW.out.2, HS.out, HB.out⟩

set_option maxRecDepth 100000 in
set_option maxHeartbeats 2000000 in
theorem heldLiteralS_t (k : Nat) (xs : List Lt) (v : Value) (w : World) (hr : ((trLts xs).mkd k).rd w v) (h0 : 0 < k) (hk : k + (trLts xs).cnt ≤ 1000000000) :
    Calls Tryz.prog 16 #[v, .int .i64 k] w fun e w' => e = .returned (.int .i64 (k + (trLts xs).cnt : Nat)) ∧ Below w.heap.size w w' := by
  obtain ⟨hl, _, A, c, rfl, ga⟩ := rd_cells hr
  have GA := Lib.hid ga
  clear ga hr
  have hC : (trLts xs).cnt = cntL (xs.flatMap cellsLt) := rfl
  rw [hC] at hk ⊢
  clear hC
  go_enter Tryz.func16, Tryz.ntmps16
  go_wp2
  go_loopw [1, 5] (fun q i wr => ∃ j : Nat, j ≤ xs.length ∧ i = .int .i64 j ∧ q = .int .i64 (k + cntL ((xs.flatMap cellsLt).take (j * 3)) : Nat) ∧ Below w.heap.size w wr) (fun _ i _ => xs.length - (intOf i).toNat)
  case atStart => exact ⟨0, Nat.zero_le _, rfl, by simp [cntL], Below.refl _ _⟩
  case round =>
    obtain ⟨j, hj, rfl, rfl, hbel⟩ := hrel
    by_cases hlt : j < xs.length
    · have hlt' : (j : Int) < (xs.length : Int) := by omega
      have hfl := flatMap_len cellsLt_len xs
      obtain ⟨b, o, rfl, hb, hc⟩ := GA.out (j * 3) (by rw [mkdL_len, hfl]; omega)
      clear hfl
      have t0 : (xs.flatMap cellsLt)[j * 3]? = some (.one (.int .i64 xs[j].ki)) := by simpa [cellsLt] using flatMap_get cellsLt_len xs j hlt 0 (by omega)
      have a0 : cntL ((xs.flatMap cellsLt).take (j * 3 + 1)) = cntL ((xs.flatMap cellsLt).take (j * 3)) + 1 := cntL_take t0
      have t1 : (xs.flatMap cellsLt)[j * 3 + 1]? = some (.one (.int .i64 xs[j].ac)) := by simpa [cellsLt] using flatMap_get cellsLt_len xs j hlt 1 (by omega)
      have a1 : cntL ((xs.flatMap cellsLt).take (j * 3 + 2)) = cntL ((xs.flatMap cellsLt).take (j * 3 + 1)) + 1 := cntL_take t1
      have t2 : (xs.flatMap cellsLt)[j * 3 + 2]? = some (.one (.int .i64 xs[j].va)) := by simpa [cellsLt] using flatMap_get cellsLt_len xs j hlt 2 (by omega)
      have a2 : cntL ((xs.flatMap cellsLt).take (j * 3 + 3)) = cntL ((xs.flatMap cellsLt).take (j * 3 + 2)) + 1 := cntL_take t2
      have hle := cntL_le (xs.flatMap cellsLt) (j * 3 + 3)
      generalize hQ : k + cntL ((xs.flatMap cellsLt).take (j * 3)) = Q
      have e0 : k + cntL ((xs.flatMap cellsLt).take (j * 3)) = Q := by omega
      have e1 : k + cntL ((xs.flatMap cellsLt).take (j * 3 + 1)) = Q + 1 := by omega
      have e2 : k + cntL ((xs.flatMap cellsLt).take (j * 3 + 2)) = Q + 1 + 1 := by omega
      have e3 : k + cntL ((xs.flatMap cellsLt).take (j * 3 + 3)) = Q + 1 + 1 + 1 := by omega
      have hbd : Q + 1 + 1 + 1 ≤ 1000000000 := by omega
      have hQ0 : 0 < Q := by omega
      clear hle a0 a1 a2
      have T0 := Lib.hid t0
      clear t0
      have T1 := Lib.hid t1
      clear t1
      have T2 := Lib.hid t2
      clear t2
      have E0 := Lib.hid e0
      clear e0
      have E1 := Lib.hid e1
      clear e1
      have E2 := Lib.hid e2
      clear e2
      have E3 := Lib.hid e3
      clear e3
      have HQ := Lib.hid hQ
      clear hQ
      obtain ⟨x0, hx0, r0⟩ := hc _ _ (mkdL_get k _ _ _ T0.out)
      rw [E0.out] at r0
      obtain rfl : x0 = .int .i64 ((Q : Nat) : Int) := r0
      have HX0 := Lib.hid hx0
      clear hx0
      obtain ⟨x1, hx1, r1⟩ := hc _ _ (mkdL_get k _ _ _ T1.out)
      rw [E1.out] at r1
      obtain rfl : x1 = .int .i64 ((Q + 1 : Nat) : Int) := r1
      have HX1 := Lib.hid hx1
      clear hx1
      obtain ⟨x2, hx2, r2⟩ := hc _ _ (mkdL_get k _ _ _ T2.out)
      rw [E2.out] at r2
      obtain rfl : x2 = .int .i64 ((Q + 1 + 1 : Nat) : Int) := r2
      have HX2 := Lib.hid hx2
      clear hx2
      have HN_ := Lib.hid (show ((j + 1) * 3 = j * 3 + 3) from by omega)
      have HC := Lib.hid (show k + cntL ((xs.flatMap cellsLt).take ((j + 1) * 3)) = Q + 1 + 1 + 1 from by rw [HN_.out]; exact E3.out)
      clear hc HN_ T0 E0 T1 E1 T2 E2 E3 HQ
      have HB0 := Lib.hid hbel
      clear hbel
      have hy0 := (HB0.out.cell (p := ⟨b, o + j * 3, none⟩) hb).trans HX0.out
      have hy1 := (HB0.out.cell (p := ⟨b, o + j * 3 + 1, none⟩) hb).trans HX1.out
      have hy2 := (HB0.out.cell (p := ⟨b, o + j * 3 + 2, none⟩) hb).trans HX2.out
      go_wp2
      go_roundw
      case rel => exact ⟨j + 1, by omega, by go_num, by rw [HC.out]; rfl, HB0.out⟩
      case measure => simp [intOf]; omega
    · have hge : ¬ (j : Int) < (xs.length : Int) := by omega
      obtain rfl : j = xs.length := by omega
      have hfl := flatMap_len cellsLt_len xs
      rw [List.take_of_length_le (by omega)]
      have HB := Lib.hid hbel
      clear hbel hfl
      go_wp2
      go_ret
      exact ⟨rfl, HB.out⟩
end Go.Proofs.YtdbnhdiboemmiabGreat
