/- DERIVED. CONTRACTS of the laws' helpers over Schedule and slices of it, by trees. -/
import Derived.Test.YtgbpomakomddjabGreatDoorDats
import Derived.Test.YtgbpomakomddjabGreatDoorTPj
import Derived.Test.YtgbpomakomddjabGreatDoorModT
import Derived.Deep.RegionWith
import Derived.Deep.RegionHeld3

section
namespace Go.Proofs.YtgbpomakomddjabGreatDoor
open Go.RowKit
set_option linter.unusedVariables false

theorem thin_DomainL (d : Dm) : thinL (cellsDm d) := ⟨thin_ints _, thin_ints _, thin_IntSS _, trivial⟩
end Go.Proofs.YtgbpomakomddjabGreatDoor
end

section
namespace Go.Proofs.YtgbpomakomddjabGreatDoor
open Go.RowKit
set_option linter.unusedVariables false

theorem thin_LiteralL (d : Lt) : thinL (cellsLt d) := ⟨trivial, trivial, trivial, trivial⟩
theorem thin_LiteralS (xs : List Lt) : (trLts xs).thins := thin_rows cellsLt_len (by omega) thin_LiteralL xs
theorem szL_Literal0 : ∀ xs : List Lt, szL (xs.flatMap cellsLt) = 0
  | [] => rfl
  | x :: xs => by rw [List.flatMap_cons, szL_app, szL_Literal0 xs]; rfl

set_option maxRecDepth 100000 in
set_option maxHeartbeats 1000000 in
theorem szLiteralS_t (xs : List Lt) (v : Value) (left : Int) (w : World) (hr : (trLts xs).rd w v) (hk : (trLts xs).ok) (h0 : 0 ≤ left) (h3 : left ≤ 1048576) :
    Calls Tryz.prog 6 #[v, .int .i64 left] w fun e w' => e = .returned (.int .i64 (if left < (trLts xs).sz then -1 else left - (trLts xs).sz)) ∧ Below w.heap.size w w' := by
  obtain ⟨hl, A, c, rfl, ga⟩ := rdLiteralS_t hr
  have GA := Lib.hid ga
  clear ga hr
  have HZ := Lib.hid (show (trLts xs).sz = xs.length + szL (xs.flatMap cellsLt) from rfl)
  generalize (trLts xs).sz = Z at HZ ⊢
  generalize hres : (if left < (Z : Int) then -1 else left - (Z : Int)) = res
  have RES := Lib.hid hres
  clear hres
  have hflat : szL (xs.flatMap cellsLt) = 0 := szL_Literal0 xs
  by_cases hn : left < (xs.length : Int)
  · have hn' : left - (xs.length : Int) < 0 := by omega
    go_enter Tryz.func6, Tryz.ntmps6
    go_wp2
    go_ret
    exact ⟨ret_numZ (by rw [← RES.out, if_pos (by have := HZ.out; omega)]), Below.refl _ _⟩
  · have hn' : ¬ left - (xs.length : Int) < 0 := by omega
    go_enter Tryz.func6, Tryz.ntmps6
    go_wp2
    go_ret
    exact ⟨ret_numZ (by rw [← RES.out, if_neg (by have := HZ.out; omega)]; have := HZ.out; omega), Below.refl _ _⟩

set_option maxRecDepth 100000 in
set_option maxHeartbeats 1000000 in
theorem eqLiteral_t (d : Lt) (v u : Value) (w : World) (hv : (trLt d).rd w v) (hu : (trLt d).rd w u) :
    Calls Tryz.prog 37 #[v, u] w fun e w' => e = .returned (.bool true) ∧ Below w.heap.size w w' := by
  obtain rfl := rdLiteral_t hv
  obtain rfl := rdLiteral_t hu
  clear hv hu
  have S0 := Lib.hid (((Sn.start w).box 55 [.int .i64 d.ki, .int .i64 d.ac, .int .i64 d.va]).box 55 [.int .i64 d.ki, .int .i64 d.ac, .int .i64 d.va])
  simp only [World.size_alloc] at S0
  go_enter Tryz.func37, Tryz.ntmps37
  go_wp2
  go_ret
  exact ⟨rfl, S0.out.1⟩

set_option maxRecDepth 100000 in
set_option maxHeartbeats 1000000 in
theorem eqLiteralS_t (xs : List Lt) (v u : Value) (w : World) (hv : (trLts xs).rd w v) (hu : (trLts xs).rd w u) :
    Calls Tryz.prog 12 #[v, u] w fun e w' => e = .returned (.bool true) ∧ Below w.heap.size w w' := by
  obtain ⟨hl, A, c, rfl, ga⟩ := rdLiteralS_t hv
  obtain ⟨_, B, c2, rfl, gb⟩ := rdLiteralS_t hu
  have GA := Lib.hid ga
  have GB := Lib.hid gb
  clear ga gb hv hu
  go_enter Tryz.func12, Tryz.ntmps12
  go_wp2
  go_loopw [5] (fun i wr => ∃ k : Nat, k ≤ xs.length ∧ i = .int .i64 k ∧ Below w.heap.size w wr) (fun i _ => xs.length - (intOf i).toNat)
  case atStart => exact ⟨0, Nat.zero_le _, rfl, Below.refl _ _⟩
  case round =>
    obtain ⟨k, hk, rfl, hbel⟩ := hrel
    by_cases hlt : k < xs.length
    · have hlt' : (k : Int) < (xs.length : Int) := by omega
      obtain ⟨b1, o1, rfl, hb1, hc⟩ := GA.out k hlt
      obtain ⟨b2, o2, rfl, hb2, hd⟩ := GB.out k hlt
      obtain ⟨hc0, hc1, hc2⟩ := hc k hlt
      obtain ⟨hd0, hd1, hd2⟩ := hd k hlt
      have hx0 := (hbel.cell (p := ⟨b1, o1 + k * 3, none⟩) hb1).trans hc0
      have hx1 := (hbel.cell (p := ⟨b1, o1 + k * 3 + 1, none⟩) hb1).trans hc1
      have hx2 := (hbel.cell (p := ⟨b1, o1 + k * 3 + 2, none⟩) hb1).trans hc2
      have hy0 := (hbel.cell (p := ⟨b2, o2 + k * 3, none⟩) hb2).trans hd0
      have hy1 := (hbel.cell (p := ⟨b2, o2 + k * 3 + 1, none⟩) hb2).trans hd1
      have hy2 := (hbel.cell (p := ⟨b2, o2 + k * 3 + 2, none⟩) hb2).trans hd2
      have HM := Lib.hid (mk_rdLiteral_t (w := wr.drew) (d := xs[k]) )
      have HN := Lib.hid (mk_rdLiteral_t (w := wr.drew) (d := xs[k]) )
      clear hc hd hc0 hd0 hc1 hd1 hc2 hd2 
      have HB := Lib.hid hbel
      clear hbel
      generalize xs[k] = m at hx0 hy0 hx1 hy1 hx2 hy2 HM HN
      go_wp2
      go_region_with (go_at_call 37; refine (eqLiteral_t m _ _ _ (by exact HM.out) (by exact HN.out)).mono ?_; rintro e w1 ⟨rfl, hb3⟩)
      all_goals
        go_wp2
        go_roundw
        case rel => exact ⟨k + 1, by omega, by go_num, HB.out.drew.trans (hb3.mono HB.out.size)⟩
        case measure => simp [intOf]; omega
    · have hge : ¬ (k : Int) < (xs.length : Int) := by omega
      have HB := Lib.hid hbel
      clear hbel
      go_wp2
      go_ret
      exact ⟨rfl, HB.out⟩

set_option maxRecDepth 100000 in
set_option maxHeartbeats 1000000 in
theorem toLiteral_t (d : Lt) (v : Value) (w : World) (hv : (trLt d).rd w v) (hl : (trLt d).sz ≤ 1073741824) :
    Calls Tryz.prog 29 #[v] w fun e w' => ∃ u F, e = .returned u ∧ (trLt d).own w' w.heap.size u F ∧ F.Nodup ∧ Below w.heap.size w w' := by
  obtain rfl := rdLiteral_t hv
  clear hv hl
  go_enter Tryz.func29, Tryz.ntmps29
  go_wp2
  refine bodyPost_ret (v := .agg #[.int .i64 d.ki, .int .i64 d.ac, .int .i64 d.va]) (by simp [results, Tryz.results29, go_sem]) rfl ⟨_, [], rfl, ⟨_, rfl, ownL_ones (xs := [.int .i64 d.ki, .int .i64 d.ac, .int .i64 d.va]) |>.2 ⟨rfl, rfl⟩⟩, by simp, ?_⟩
  repeat (first | exact Below.refl _ _ | refine Below.setCell ?_ (by simp) _ | refine Below.alloc ?_ (by first | (simp; done) | (simp; omega)) _)

theorem infoLiteral_t : (Tryz.prog.info? 55).map (fun i => (i.zero, i.size, i.bytes)) = some (some (.agg #[.int .i64 0, .int .i64 0, .int .i64 0]), 3, 24) := by kernel_rfl

set_option maxRecDepth 100000 in
set_option maxHeartbeats 1000000 in
theorem toLiteralS_t (xs : List Lt) (v : Value) (w : World) (hv : (trLts xs).rd w v) (hl : (trLts xs).sz ≤ 1073741824) :
    Calls Tryz.prog 9 #[v] w fun e w' => ∃ u F, e = .returned u ∧ (trLts xs).own w' w.heap.size u F ∧ F.Nodup ∧ Below w.heap.size w w' := by
  obtain ⟨hla, A, c, rfl, ga⟩ := rdLiteralS_t hv
  have GA := Lib.hid ga
  clear ga hv
  have hsz : (trLts xs).sz = xs.length + szL (xs.flatMap cellsLt) := rfl
  rw [hsz] at hl
  clear hsz
  obtain ⟨i0, hi, hz0, hz1, hz2⟩ := info_parts infoLiteral_t
  go_enter Tryz.func9, Tryz.ntmps9
  go_wp2_with (at_make; refine wpList_make_full _ rfl _ _ 38 rfl w.heap.size 55 i0 (.agg #[.int .i64 0, .int .i64 0, .int .i64 0]) 3 Tryz.underlying38 hi hz0 hz1 .i64 .i64 _ _ xs.length rfl rfl rfl rfl (by rw [hz2]; omega) (by unfold maxLen; omega) (Nat.le_refl _) ?_; intro w1 hown1 hgrow1)
  have hbel1 : Below w.heap.size w w1 := (Below.refl _ _).grown hgrow1 (Nat.le_refl _) (by simp)
  have hm := hown1.1
  generalize hms : (madeCells _ (xs.length * 3)).toList = raw at hown1 hm
  have HM := Lib.hid hm
  have HO := Lib.hid hown1
  clear hm hms hgrow1 hown1
  go_loopw [4] (fun i wr => ∃ k : Nat, k ≤ xs.length ∧ i = .int .i64 k ∧ (∃ F, RowAt wr w.heap.size 55 3 xs.length w.heap.size xs.length (mixR cellsLt 3 raw xs k) F) ∧ Below w.heap.size w wr) (fun i _ => xs.length - (intOf i).toNat)
  case atStart => exact ⟨0, Nat.zero_le _, rfl, ⟨_, by rw [mixR_zero]; exact row_made HO.out⟩, hbel1⟩
  case round =>
    obtain ⟨k, hk, rfl, ⟨F, how⟩, hbel⟩ := hrel
    by_cases hlt : k < xs.length
    · have hlt' : (k : Int) < (xs.length : Int) := by omega
      obtain ⟨b, o, rfl, hb, hc⟩ := GA.out k hlt
      obtain ⟨hc0, hc1, hc2⟩ := hc k hlt
      have hx0 := (hbel.cell (p := ⟨b, o + k * 3, none⟩) hb).trans hc0
      have hx1 := (hbel.cell (p := ⟨b, o + k * 3 + 1, none⟩) hb).trans hc1
      have hx2 := (hbel.cell (p := ⟨b, o + k * 3 + 2, none⟩) hb).trans hc2
      have hse := szL_flat_at (f := cellsLt) hlt
      have HRD := Lib.hid (mk_rdLiteral_t (w := wr) (d := xs[k]) )
      have hle : (trLt xs[k]).sz ≤ 1073741824 := by
        have : (trLt xs[k]).sz = szL (cellsLt xs[k]) := rfl
        omega
      have HST := Lib.hid (mixR_set cellsLt_len HM.out hlt)
      have HLEN := Lib.hid (mixR_len cellsLt_len HM.out hk)
      clear hc hse hc0 hc1 hc2 
      generalize xs[k] = m at hx0 hx1 hx2 HRD HST hle
      have HB := Lib.hid hbel
      have HW := Lib.hid how
      clear hbel how
      go_wp2_with fail
      refine (toLiteral_t m _ _ HRD.out hle).mono ?_
      rintro e w2 ⟨u, H, rfl, ho, hn, hb2⟩
      obtain rfl := rdLiteral_t (Tr.own_rd _ _ _ ho)
      have how2 := HW.out.below hb2 (Nat.le_refl _)
      have hcl : (mixR cellsLt 3 raw xs k).length = xs.length * 3 := HLEN.out
      obtain ⟨y0, hy0⟩ := how2.some (i := k * 3) (by omega)
      obtain ⟨y1, hy1⟩ := how2.some (i := k * 3 + 1) (by omega)
      obtain ⟨y2, hy2⟩ := how2.some (i := k * 3 + 2) (by omega)
      have hf := how2.frozen
      have hgw := how2.lt.2
      have hw0 := HW.out.lt.2
      obtain ⟨vs, hvs, hoL⟩ := ho
      obtain rfl : vs = [.int .i64 m.ki, .int .i64 m.ac, .int .i64 m.va] := by
        injection hvs with hvs
        exact (congrArg Array.toList hvs).symm
      obtain ⟨F', hp, _⟩ := RowAt.putL (K := wr.heap.size) HB.out.size hw0 (cellsLt m) _ w2 _ F H (k * 3) how2 (by rw [cellsLt_len]; omega) hoL hn (fun j hj hj2 => by
        have h1 := (ownL_lt _ _ _ hoL j hj).1
        have h2 := (HW.out.allLt j hj2).2
        omega)
      rw [HST.out] at hp
      have HP := Lib.hid hp
      have HBZ := Lib.hid (setL_below (Nat.le_refl _) [.int .i64 m.ki, .int .i64 m.ac, .int .i64 m.va] w2 (k * 3) (HB.out.trans (hb2.mono HB.out.size)))
      clear hp hoL how2 hb2 hn hcl hvs
      go_wp2
      go_roundw
      case rel => exact ⟨k + 1, by omega, by go_num, ⟨F', HP.out⟩, HBZ.out⟩
      case measure => simp [intOf]; omega
    · have hge : ¬ (k : Int) < (xs.length : Int) := by omega
      obtain rfl : k = xs.length := by omega
      rw [mixR_full HM.out] at how
      have HW := Lib.hid how
      have HB := Lib.hid hbel
      clear how hbel
      go_wp2
      go_ret
      exact ⟨_, rfl, F, HW.out.1, HW.out.2, HB.out⟩

set_option maxRecDepth 100000 in
set_option maxHeartbeats 2000000 in
theorem markLiteralS_t (k B : Nat) (xs : List Lt) (v : Value) (F : List Nat) (w : World) (hown : (trLts xs).own w B v F) (hn : F.Nodup) (h0 : 0 < k) (hk : k + (trLts xs).cnt ≤ 1000000000) :
    Calls Tryz.prog 16 #[v, .int .i64 k] w fun e w' => ∃ F', e = .returned (.int .i64 (k + (trLts xs).cnt : Nat)) ∧ ((trLts xs).mkd k).own w' B v F' ∧ F'.Nodup ∧ (∀ x ∈ F', x ∈ F) ∧ Wr F w w' := by
  rcases own_form hown with ⟨rfl, hl⟩ | ⟨g, cap, rfl, hcap, hmx⟩
  · obtain rfl : xs = [] := List.eq_nil_of_length_eq_zero hl
    have HO := Lib.hid hown
    have HN := Lib.hid hn
    clear hown hn hl
    go_enter Tryz.func16, Tryz.ntmps16
    go_wp2
    refine wp_loop_rounds 1 ?_
    rw [rounds_succ]
    go_wp2
    go_ret
    first | exact ⟨rfl, F, HO.out, HN.out, fun _ h => h, Wr.refl _ _⟩ | exact ⟨F, rfl, HO.out, HN.out, fun _ h => h, Wr.refl _ _⟩
  have HO := Lib.hid (show RowAt w B 55 3 xs.length g cap (xs.flatMap cellsLt) F from ⟨hown, hn⟩)
  clear hown hn
  have hC : (trLts xs).cnt = cntL (xs.flatMap cellsLt) := rfl
  rw [hC] at hk ⊢
  clear hC
  go_enter Tryz.func16, Tryz.ntmps16
  go_wp2
  go_loopw [1, 5] (fun q i wr => ∃ j : Nat, j ≤ xs.length ∧ i = .int .i64 j ∧ q = .int .i64 (k + cntL ((xs.flatMap cellsLt).take (j * 3)) : Nat) ∧ (∃ F', RowAt wr B 55 3 xs.length g cap (mixC k (xs.flatMap cellsLt) (j * 3)) F' ∧ ∀ x ∈ F', x ∈ F) ∧ Wr F w wr) (fun _ i _ => xs.length - (intOf i).toNat)
  case atStart => exact ⟨0, Nat.zero_le _, rfl, by simp [cntL], ⟨F, by rw [Nat.zero_mul]; rw [mixC_zero]; exact HO.out, fun _ h => h⟩, Wr.refl _ _⟩
  case round =>
    obtain ⟨j, hj, rfl, rfl, ⟨F1, how, hsub⟩, hwr⟩ := hrel
    by_cases hlt : j < xs.length
    · have hlt' : (j : Int) < (xs.length : Int) := by omega
      have t0 : (xs.flatMap cellsLt)[j * 3]? = some (.one (.int .i64 xs[j].ki)) := by simpa [cellsLt] using flatMap_get cellsLt_len xs j hlt 0 (by omega)
      have a0 : cntL ((xs.flatMap cellsLt).take (j * 3 + 1)) = cntL ((xs.flatMap cellsLt).take (j * 3)) + 1 := cntL_take t0
      have t1 : (xs.flatMap cellsLt)[j * 3 + 1]? = some (.one (.int .i64 xs[j].ac)) := by simpa [cellsLt] using flatMap_get cellsLt_len xs j hlt 1 (by omega)
      have a1 : cntL ((xs.flatMap cellsLt).take (j * 3 + 2)) = cntL ((xs.flatMap cellsLt).take (j * 3 + 1)) + 1 := cntL_take t1
      have t2 : (xs.flatMap cellsLt)[j * 3 + 2]? = some (.one (.int .i64 xs[j].va)) := by simpa [cellsLt] using flatMap_get cellsLt_len xs j hlt 2 (by omega)
      have a2 : cntL ((xs.flatMap cellsLt).take (j * 3 + 3)) = cntL ((xs.flatMap cellsLt).take (j * 3 + 2)) + 1 := cntL_take t2
      have hle := cntL_le (xs.flatMap cellsLt) (j * 3 + 3)
      generalize hQ : k + cntL ((xs.flatMap cellsLt).take (j * 3)) = Q
      have e0 : k + cntL ((xs.flatMap cellsLt).take (j * 3)) = Q := by omega
      have e1 : k + cntL ((xs.flatMap cellsLt).take (j * 3 + 1)) = Q + 1 := by omega
      have e2 : k + cntL ((xs.flatMap cellsLt).take (j * 3 + 2)) = Q + 1 + 1 := by omega
      have e3 : k + cntL ((xs.flatMap cellsLt).take (j * 3 + 3)) = Q + 1 + 1 + 1 := by omega
      have hbd : Q + 1 + 1 + 1 ≤ 1000000000 := by omega
      have hQ0 : 0 < Q := by omega
      clear hle a0 a1 a2
      have T0 := Lib.hid t0
      clear t0
      have T1 := Lib.hid t1
      clear t1
      have T2 := Lib.hid t2
      clear t2
      have E0 := Lib.hid e0
      clear e0
      have E1 := Lib.hid e1
      clear e1
      have E2 := Lib.hid e2
      clear e2
      have E3 := Lib.hid e3
      clear e3
      have HQ := Lib.hid hQ
      clear hQ
      have hlen := how.len
      rw [mixC_len] at hlen
      have hjs : j * 3 + 3 ≤ xs.length * 3 := by omega
      have HN_ := Lib.hid (show ((j + 1) * 3 = j * 3 + 3) from by omega)
      have HOW0 := Lib.hid how
      have HSUB0 := Lib.hid hsub
      have HWR0 := Lib.hid hwr
      clear how hsub hwr
      obtain ⟨z0, hz0⟩ := HOW0.out.some (i := j * 3) (by rw [mixC_len]; omega)
      obtain ⟨z1, hz1⟩ := HOW0.out.some (i := j * 3 + 1) (by rw [mixC_len]; omega)
      obtain ⟨z2, hz2⟩ := HOW0.out.some (i := j * 3 + 2) (by rw [mixC_len]; omega)
      have hf := HOW0.out.frozen
      have hgw := HOW0.out.lt.2
      obtain ⟨G0, m0, ms0, mw0⟩ := rowAt_mark1 HOW0.out T0.out (y := .int .i64 ((Q : Nat) : Int)) (by show Value.int .i64 ((k + cntL _ : Nat) : Int) = _; rw [E0.out])
      have HOW1 := Lib.hid m0
      have HSUB1 := Lib.hid (fun x hx => HSUB0.out x (ms0 x hx))
      have HWR1 := Lib.hid (HWR0.out.trans (mw0.sub (fun x hx => HSUB0.out x hx)))
      clear m0 ms0 mw0 HOW0 HSUB0 HWR0
      obtain ⟨G1, m1, ms1, mw1⟩ := rowAt_mark1 HOW1.out T1.out (y := .int .i64 ((Q + 1 : Nat) : Int)) (by show Value.int .i64 ((k + cntL _ : Nat) : Int) = _; rw [E1.out])
      have HOW2 := Lib.hid m1
      have HSUB2 := Lib.hid (fun x hx => HSUB1.out x (ms1 x hx))
      have HWR2 := Lib.hid (HWR1.out.trans (mw1.sub (fun x hx => HSUB1.out x hx)))
      clear m1 ms1 mw1 HOW1 HSUB1 HWR1
      obtain ⟨G2, m2, ms2, mw2⟩ := rowAt_mark1 HOW2.out T2.out (y := .int .i64 ((Q + 1 + 1 : Nat) : Int)) (by show Value.int .i64 ((k + cntL _ : Nat) : Int) = _; rw [E2.out])
      have HOW3 := Lib.hid m2
      have HSUB3 := Lib.hid (fun x hx => HSUB2.out x (ms2 x hx))
      have HWR3 := Lib.hid (HWR2.out.trans (mw2.sub (fun x hx => HSUB2.out x hx)))
      clear m2 ms2 mw2 HOW2 HSUB2 HWR2
      have HF := Lib.hid (show RowAt _ B 55 3 xs.length g cap (mixC k (xs.flatMap cellsLt) ((j + 1) * 3)) _ from by rw [HN_.out]; exact HOW3.out)
      have HC := Lib.hid (show k + cntL ((xs.flatMap cellsLt).take ((j + 1) * 3)) = Q + 1 + 1 + 1 from by rw [HN_.out]; exact E3.out)
      go_wp2
      go_roundw
      case rel => exact ⟨j + 1, by omega, by go_num, by rw [HC.out]; rfl, ⟨_, HF.out, HSUB3.out⟩, HWR3.out⟩
      case measure => simp [intOf]; omega
    · have hge : ¬ (j : Int) < (xs.length : Int) := by omega
      obtain rfl : j = xs.length := by omega
      have hfl := flatMap_len cellsLt_len xs
      rw [mixC_full k _ (by omega)] at how
      rw [List.take_of_length_le (by omega)]
      have HW := Lib.hid how
      have HB := Lib.hid hwr
      have HS := Lib.hid hsub
      clear how hwr hsub hfl
      go_wp2
      go_ret
      first | exact ⟨rfl, F1, HW.out.1, HW.out.2, HS.out, HB.out⟩ | exact ⟨F1, rfl, HW.out.1, HW.out.2, HS.out, HB.out⟩

set_option maxRecDepth 100000 in
set_option maxHeartbeats 2000000 in
theorem heldLiteralS_t (k : Nat) (xs : List Lt) (v : Value) (w : World) (hr : ((trLts xs).mkd k).rd w v) (h0 : 0 < k) (hk : k + (trLts xs).cnt ≤ 1000000000) :
    Calls Tryz.prog 17 #[v, .int .i64 k] w fun e w' => e = .returned (.int .i64 (k + (trLts xs).cnt : Nat)) ∧ Below w.heap.size w w' := by
  obtain ⟨hl, _, A, c, rfl, ga⟩ := rd_cells hr
  have GA := Lib.hid ga
  clear ga hr
  have hC : (trLts xs).cnt = cntL (xs.flatMap cellsLt) := rfl
  rw [hC] at hk ⊢
  clear hC
  go_enter Tryz.func17, Tryz.ntmps17
  go_wp2
  go_loopw [1, 5] (fun q i wr => ∃ j : Nat, j ≤ xs.length ∧ i = .int .i64 j ∧ q = .int .i64 (k + cntL ((xs.flatMap cellsLt).take (j * 3)) : Nat) ∧ Below w.heap.size w wr) (fun _ i _ => xs.length - (intOf i).toNat)
  case atStart => exact ⟨0, Nat.zero_le _, rfl, by simp [cntL], Below.refl _ _⟩
  case round =>
    obtain ⟨j, hj, rfl, rfl, hbel⟩ := hrel
    by_cases hlt : j < xs.length
    · have hlt' : (j : Int) < (xs.length : Int) := by omega
      have hfl := flatMap_len cellsLt_len xs
      obtain ⟨b, o, rfl, hb, hc⟩ := GA.out (j * 3) (by rw [mkdL_len, hfl]; omega)
      clear hfl
      have t0 : (xs.flatMap cellsLt)[j * 3]? = some (.one (.int .i64 xs[j].ki)) := by simpa [cellsLt] using flatMap_get cellsLt_len xs j hlt 0 (by omega)
      have a0 : cntL ((xs.flatMap cellsLt).take (j * 3 + 1)) = cntL ((xs.flatMap cellsLt).take (j * 3)) + 1 := cntL_take t0
      have t1 : (xs.flatMap cellsLt)[j * 3 + 1]? = some (.one (.int .i64 xs[j].ac)) := by simpa [cellsLt] using flatMap_get cellsLt_len xs j hlt 1 (by omega)
      have a1 : cntL ((xs.flatMap cellsLt).take (j * 3 + 2)) = cntL ((xs.flatMap cellsLt).take (j * 3 + 1)) + 1 := cntL_take t1
      have t2 : (xs.flatMap cellsLt)[j * 3 + 2]? = some (.one (.int .i64 xs[j].va)) := by simpa [cellsLt] using flatMap_get cellsLt_len xs j hlt 2 (by omega)
      have a2 : cntL ((xs.flatMap cellsLt).take (j * 3 + 3)) = cntL ((xs.flatMap cellsLt).take (j * 3 + 2)) + 1 := cntL_take t2
      have hle := cntL_le (xs.flatMap cellsLt) (j * 3 + 3)
      generalize hQ : k + cntL ((xs.flatMap cellsLt).take (j * 3)) = Q
      have e0 : k + cntL ((xs.flatMap cellsLt).take (j * 3)) = Q := by omega
      have e1 : k + cntL ((xs.flatMap cellsLt).take (j * 3 + 1)) = Q + 1 := by omega
      have e2 : k + cntL ((xs.flatMap cellsLt).take (j * 3 + 2)) = Q + 1 + 1 := by omega
      have e3 : k + cntL ((xs.flatMap cellsLt).take (j * 3 + 3)) = Q + 1 + 1 + 1 := by omega
      have hbd : Q + 1 + 1 + 1 ≤ 1000000000 := by omega
      have hQ0 : 0 < Q := by omega
      clear hle a0 a1 a2
      have T0 := Lib.hid t0
      clear t0
      have T1 := Lib.hid t1
      clear t1
      have T2 := Lib.hid t2
      clear t2
      have E0 := Lib.hid e0
      clear e0
      have E1 := Lib.hid e1
      clear e1
      have E2 := Lib.hid e2
      clear e2
      have E3 := Lib.hid e3
      clear e3
      have HQ := Lib.hid hQ
      clear hQ
      obtain ⟨x0, hx0, r0⟩ := hc _ _ (mkdL_get k _ _ _ T0.out)
      rw [E0.out] at r0
      obtain rfl : x0 = .int .i64 ((Q : Nat) : Int) := r0
      have HX0 := Lib.hid hx0
      clear hx0
      obtain ⟨x1, hx1, r1⟩ := hc _ _ (mkdL_get k _ _ _ T1.out)
      rw [E1.out] at r1
      obtain rfl : x1 = .int .i64 ((Q + 1 : Nat) : Int) := r1
      have HX1 := Lib.hid hx1
      clear hx1
      obtain ⟨x2, hx2, r2⟩ := hc _ _ (mkdL_get k _ _ _ T2.out)
      rw [E2.out] at r2
      obtain rfl : x2 = .int .i64 ((Q + 1 + 1 : Nat) : Int) := r2
      have HX2 := Lib.hid hx2
      clear hx2
      have HN_ := Lib.hid (show ((j + 1) * 3 = j * 3 + 3) from by omega)
      have HC := Lib.hid (show k + cntL ((xs.flatMap cellsLt).take ((j + 1) * 3)) = Q + 1 + 1 + 1 from by rw [HN_.out]; exact E3.out)
      clear hc HN_ T0 E0 T1 E1 T2 E2 E3 HQ
      have HB0 := Lib.hid hbel
      clear hbel
      have hy0 := (HB0.out.cell (p := ⟨b, o + j * 3, none⟩) hb).trans HX0.out
      have hy1 := (HB0.out.cell (p := ⟨b, o + j * 3 + 1, none⟩) hb).trans HX1.out
      have hy2 := (HB0.out.cell (p := ⟨b, o + j * 3 + 2, none⟩) hb).trans HX2.out
      go_wp2
      go_roundw
      case rel => exact ⟨j + 1, by omega, by go_num, by rw [HC.out]; rfl, HB0.out⟩
      case measure => simp [intOf]; omega
    · have hge : ¬ (j : Int) < (xs.length : Int) := by omega
      obtain rfl : j = xs.length := by omega
      have hfl := flatMap_len cellsLt_len xs
      rw [List.take_of_length_le (by omega)]
      have HB := Lib.hid hbel
      clear hbel hfl
      go_wp2
      go_ret
      exact ⟨rfl, HB.out⟩
end Go.Proofs.YtgbpomakomddjabGreatDoor
end

section
namespace Go.Proofs.YtgbpomakomddjabGreatDoor
open Go.RowKit
set_option linter.unusedVariables false

theorem thin_ScheduleL (d : Sc) : thinL (cellsSc d) := ⟨thin_ints _, thin_ints _, trivial⟩
end Go.Proofs.YtgbpomakomddjabGreatDoor
end
