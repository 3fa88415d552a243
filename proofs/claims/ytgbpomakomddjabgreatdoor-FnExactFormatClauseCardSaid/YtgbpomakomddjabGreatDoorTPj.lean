/- DERIVED. CONTRACTS of the laws' helpers over Project and slices of it, by trees. -/
import Derived.Test.YtgbpomakomddjabGreatDoorDats
import Derived.Test.YtgbpomakomddjabGreatDoorModT
import Derived.Deep.RegionWith
import Derived.Deep.RegionHeld3

section
namespace Go.Proofs.YtgbpomakomddjabGreatDoor
open Go.RowKit
set_option linter.unusedVariables false

theorem thin_StepL (d : (Int × Int)) : thinL (cellsPt d) := ⟨trivial, trivial, trivial⟩
theorem thin_StepS (xs : List (Int × Int)) : (trSt xs).thins := thin_rows cellsPt_len (by omega) thin_StepL xs
theorem szL_Step0 : ∀ xs : List (Int × Int), szL (xs.flatMap cellsPt) = 0
  | [] => rfl
  | x :: xs => by rw [List.flatMap_cons, szL_app, szL_Step0 xs]; rfl

set_option maxRecDepth 100000 in
set_option maxHeartbeats 1000000 in
theorem szStepS_t (xs : List (Int × Int)) (v : Value) (left : Int) (w : World) (hr : (trSt xs).rd w v) (hk : (trSt xs).ok) (h0 : 0 ≤ left) (h3 : left ≤ 1048576) :
    Calls Tryz.prog 79 #[v, .int .i64 left] w fun e w' => e = .returned (.int .i64 (if left < (trSt xs).sz then -1 else left - (trSt xs).sz)) ∧ Below w.heap.size w w' := by
  obtain ⟨hl, A, c, rfl, ga⟩ := rdStepS_t hr
  have GA := Lib.hid ga
  clear ga hr
  have HZ := Lib.hid (show (trSt xs).sz = xs.length + szL (xs.flatMap cellsPt) from rfl)
  generalize (trSt xs).sz = Z at HZ ⊢
  generalize hres : (if left < (Z : Int) then -1 else left - (Z : Int)) = res
  have RES := Lib.hid hres
  clear hres
  have hflat : szL (xs.flatMap cellsPt) = 0 := szL_Step0 xs
  by_cases hn : left < (xs.length : Int)
  · have hn' : left - (xs.length : Int) < 0 := by omega
    go_enter Tryz.func79, Tryz.ntmps79
    go_wp2
    go_ret
    exact ⟨ret_numZ (by rw [← RES.out, if_pos (by have := HZ.out; omega)]), Below.refl _ _⟩
  · have hn' : ¬ left - (xs.length : Int) < 0 := by omega
    go_enter Tryz.func79, Tryz.ntmps79
    go_wp2
    go_ret
    exact ⟨ret_numZ (by rw [← RES.out, if_neg (by have := HZ.out; omega)]; have := HZ.out; omega), Below.refl _ _⟩

set_option maxRecDepth 100000 in
set_option maxHeartbeats 1000000 in
theorem eqStep_t (d : (Int × Int)) (v u : Value) (w : World) (hv : (trPt d).rd w v) (hu : (trPt d).rd w u) :
    Calls Tryz.prog 132 #[v, u] w fun e w' => e = .returned (.bool true) ∧ Below w.heap.size w w' := by
  obtain rfl := rdStep_t hv
  obtain rfl := rdStep_t hu
  clear hv hu
  have S0 := Lib.hid (((Sn.start w).box 151 [.int .i64 d.1, .int .i64 d.2]).box 151 [.int .i64 d.1, .int .i64 d.2])
  simp only [World.size_alloc] at S0
  go_enter Tryz.func132, Tryz.ntmps132
  go_wp2
  go_ret
  exact ⟨rfl, S0.out.1⟩

set_option maxRecDepth 100000 in
set_option maxHeartbeats 1000000 in
theorem eqStepS_t (xs : List (Int × Int)) (v u : Value) (w : World) (hv : (trSt xs).rd w v) (hu : (trSt xs).rd w u) :
    Calls Tryz.prog 100 #[v, u] w fun e w' => e = .returned (.bool true) ∧ Below w.heap.size w w' := by
  obtain ⟨hl, A, c, rfl, ga⟩ := rdStepS_t hv
  obtain ⟨_, B, c2, rfl, gb⟩ := rdStepS_t hu
  have GA := Lib.hid ga
  have GB := Lib.hid gb
  clear ga gb hv hu
  go_enter Tryz.func100, Tryz.ntmps100
  go_wp2
  go_loopw [5] (fun i wr => ∃ k : Nat, k ≤ xs.length ∧ i = .int .i64 k ∧ Below w.heap.size w wr) (fun i _ => xs.length - (intOf i).toNat)
  case atStart => exact ⟨0, Nat.zero_le _, rfl, Below.refl _ _⟩
  case round =>
    obtain ⟨k, hk, rfl, hbel⟩ := hrel
    by_cases hlt : k < xs.length
    · have hlt' : (k : Int) < (xs.length : Int) := by omega
      obtain ⟨b1, o1, rfl, hb1, hc⟩ := GA.out k hlt
      obtain ⟨b2, o2, rfl, hb2, hd⟩ := GB.out k hlt
      obtain ⟨hc0, hc1⟩ := hc k hlt
      obtain ⟨hd0, hd1⟩ := hd k hlt
      have hx0 := (hbel.cell (p := ⟨b1, o1 + k * 2, none⟩) hb1).trans hc0
      have hx1 := (hbel.cell (p := ⟨b1, o1 + k * 2 + 1, none⟩) hb1).trans hc1
      have hy0 := (hbel.cell (p := ⟨b2, o2 + k * 2, none⟩) hb2).trans hd0
      have hy1 := (hbel.cell (p := ⟨b2, o2 + k * 2 + 1, none⟩) hb2).trans hd1
      have HM := Lib.hid (mk_rdStep_t (w := wr.drew) (d := xs[k]) )
      have HN := Lib.hid (mk_rdStep_t (w := wr.drew) (d := xs[k]) )
      clear hc hd hc0 hd0 hc1 hd1 
      have HB := Lib.hid hbel
      clear hbel
      generalize xs[k] = m at hx0 hy0 hx1 hy1 HM HN
      go_wp2
      go_region_with (go_at_call 132; refine (eqStep_t m _ _ _ (by exact HM.out) (by exact HN.out)).mono ?_; rintro e w1 ⟨rfl, hb3⟩)
      all_goals
        go_wp2
        go_roundw
        case rel => exact ⟨k + 1, by omega, by go_num, HB.out.drew.trans (hb3.mono HB.out.size)⟩
        case measure => simp [intOf]; omega
    · have hge : ¬ (k : Int) < (xs.length : Int) := by omega
      have HB := Lib.hid hbel
      clear hbel
      go_wp2
      go_ret
      exact ⟨rfl, HB.out⟩

set_option maxRecDepth 100000 in
set_option maxHeartbeats 1000000 in
theorem toStep_t (d : (Int × Int)) (v : Value) (w : World) (hv : (trPt d).rd w v) (hl : (trPt d).sz ≤ 1073741824) :
    Calls Tryz.prog 113 #[v] w fun e w' => ∃ u F, e = .returned u ∧ (trPt d).own w' w.heap.size u F ∧ F.Nodup ∧ Below w.heap.size w w' := by
  obtain rfl := rdStep_t hv
  clear hv hl
  go_enter Tryz.func113, Tryz.ntmps113
  go_wp2
  refine bodyPost_ret (v := .agg #[.int .i64 d.1, .int .i64 d.2]) (by simp [results, Tryz.results113, go_sem]) rfl ⟨_, [], rfl, ⟨_, rfl, ownL_ones (xs := [.int .i64 d.1, .int .i64 d.2]) |>.2 ⟨rfl, rfl⟩⟩, by simp, ?_⟩
  repeat (first | exact Below.refl _ _ | refine Below.setCell ?_ (by simp) _ | refine Below.alloc ?_ (by first | (simp; done) | (simp; omega)) _)

theorem infoStep_t : (Tryz.prog.info? 151).map (fun i => (i.zero, i.size, i.bytes)) = some (some (.agg #[.int .i64 0, .int .i64 0]), 2, 16) := by kernel_rfl

set_option maxRecDepth 100000 in
set_option maxHeartbeats 1000000 in
theorem toStepS_t (xs : List (Int × Int)) (v : Value) (w : World) (hv : (trSt xs).rd w v) (hl : (trSt xs).sz ≤ 1073741824) :
    Calls Tryz.prog 85 #[v] w fun e w' => ∃ u F, e = .returned u ∧ (trSt xs).own w' w.heap.size u F ∧ F.Nodup ∧ Below w.heap.size w w' := by
  obtain ⟨hla, A, c, rfl, ga⟩ := rdStepS_t hv
  have GA := Lib.hid ga
  clear ga hv
  have hsz : (trSt xs).sz = xs.length + szL (xs.flatMap cellsPt) := rfl
  rw [hsz] at hl
  clear hsz
  obtain ⟨i0, hi, hz0, hz1, hz2⟩ := info_parts infoStep_t
  go_enter Tryz.func85, Tryz.ntmps85
  go_wp2_with (at_make; refine wpList_make_full _ rfl _ _ 96 rfl w.heap.size 151 i0 (.agg #[.int .i64 0, .int .i64 0]) 2 Tryz.underlying96 hi hz0 hz1 .i64 .i64 _ _ xs.length rfl rfl rfl rfl (by rw [hz2]; omega) (by unfold maxLen; omega) (Nat.le_refl _) ?_; intro w1 hown1 hgrow1)
  have hbel1 : Below w.heap.size w w1 := (Below.refl _ _).grown hgrow1 (Nat.le_refl _) (by simp)
  have hm := hown1.1
  generalize hms : (madeCells _ (xs.length * 2)).toList = raw at hown1 hm
  have HM := Lib.hid hm
  have HO := Lib.hid hown1
  clear hm hms hgrow1 hown1
  go_loopw [4] (fun i wr => ∃ k : Nat, k ≤ xs.length ∧ i = .int .i64 k ∧ (∃ F, RowAt wr w.heap.size 151 2 xs.length w.heap.size xs.length (mixR cellsPt 2 raw xs k) F) ∧ Below w.heap.size w wr) (fun i _ => xs.length - (intOf i).toNat)
  case atStart => exact ⟨0, Nat.zero_le _, rfl, ⟨_, by rw [mixR_zero]; exact row_made HO.out⟩, hbel1⟩
  case round =>
    obtain ⟨k, hk, rfl, ⟨F, how⟩, hbel⟩ := hrel
    by_cases hlt : k < xs.length
    · have hlt' : (k : Int) < (xs.length : Int) := by omega
      obtain ⟨b, o, rfl, hb, hc⟩ := GA.out k hlt
      obtain ⟨hc0, hc1⟩ := hc k hlt
      have hx0 := (hbel.cell (p := ⟨b, o + k * 2, none⟩) hb).trans hc0
      have hx1 := (hbel.cell (p := ⟨b, o + k * 2 + 1, none⟩) hb).trans hc1
      have hse := szL_flat_at (f := cellsPt) hlt
      have HRD := Lib.hid (mk_rdStep_t (w := wr) (d := xs[k]) )
      have hle : (trPt xs[k]).sz ≤ 1073741824 := by
        have : (trPt xs[k]).sz = szL (cellsPt xs[k]) := rfl
        omega
      have HST := Lib.hid (mixR_set cellsPt_len HM.out hlt)
      have HLEN := Lib.hid (mixR_len cellsPt_len HM.out hk)
      clear hc hse hc0 hc1 
      generalize xs[k] = m at hx0 hx1 HRD HST hle
      have HB := Lib.hid hbel
      have HW := Lib.hid how
      clear hbel how
      go_wp2_with fail
      refine (toStep_t m _ _ HRD.out hle).mono ?_
      rintro e w2 ⟨u, H, rfl, ho, hn, hb2⟩
      obtain rfl := rdStep_t (Tr.own_rd _ _ _ ho)
      have how2 := HW.out.below hb2 (Nat.le_refl _)
      have hcl : (mixR cellsPt 2 raw xs k).length = xs.length * 2 := HLEN.out
      obtain ⟨y0, hy0⟩ := how2.some (i := k * 2) (by omega)
      obtain ⟨y1, hy1⟩ := how2.some (i := k * 2 + 1) (by omega)
      have hf := how2.frozen
      have hgw := how2.lt.2
      have hw0 := HW.out.lt.2
      obtain ⟨vs, hvs, hoL⟩ := ho
      obtain rfl : vs = [.int .i64 m.1, .int .i64 m.2] := by
        injection hvs with hvs
        exact (congrArg Array.toList hvs).symm
      obtain ⟨F', hp, _⟩ := RowAt.putL (K := wr.heap.size) HB.out.size hw0 (cellsPt m) _ w2 _ F H (k * 2) how2 (by rw [cellsPt_len]; omega) hoL hn (fun j hj hj2 => by
        have h1 := (ownL_lt _ _ _ hoL j hj).1
        have h2 := (HW.out.allLt j hj2).2
        omega)
      rw [HST.out] at hp
      have HP := Lib.hid hp
      have HBZ := Lib.hid (setL_below (Nat.le_refl _) [.int .i64 m.1, .int .i64 m.2] w2 (k * 2) (HB.out.trans (hb2.mono HB.out.size)))
      clear hp hoL how2 hb2 hn hcl hvs
      go_wp2
      go_roundw
      case rel => exact ⟨k + 1, by omega, by go_num, ⟨F', HP.out⟩, HBZ.out⟩
      case measure => simp [intOf]; omega
    · have hge : ¬ (k : Int) < (xs.length : Int) := by omega
      obtain rfl : k = xs.length := by omega
      rw [mixR_full HM.out] at how
      have HW := Lib.hid how
      have HB := Lib.hid hbel
      clear how hbel
      go_wp2
      go_ret
      exact ⟨_, rfl, F, HW.out.1, HW.out.2, HB.out⟩

set_option maxRecDepth 100000 in
set_option maxHeartbeats 2000000 in
theorem markStepS_t (k B : Nat) (xs : List (Int × Int)) (v : Value) (F : List Nat) (w : World) (hown : (trSt xs).own w B v F) (hn : F.Nodup) (h0 : 0 < k) (hk : k + (trSt xs).cnt ≤ 1000000000) :
    Calls Tryz.prog 76 #[v, .int .i64 k] w fun e w' => ∃ F', e = .returned (.int .i64 (k + (trSt xs).cnt : Nat)) ∧ ((trSt xs).mkd k).own w' B v F' ∧ F'.Nodup ∧ (∀ x ∈ F', x ∈ F) ∧ Wr F w w' := by
  rcases own_form hown with ⟨rfl, hl⟩ | ⟨g, cap, rfl, hcap, hmx⟩
  · obtain rfl : xs = [] := List.eq_nil_of_length_eq_zero hl
    have HO := Lib.hid hown
    have HN := Lib.hid hn
    clear hown hn hl
    go_enter Tryz.func76, Tryz.ntmps76
    go_wp2
    refine wp_loop_rounds 1 ?_
    rw [rounds_succ]
    go_wp2
    go_ret
    first | exact ⟨rfl, F, HO.out, HN.out, fun _ h => h, Wr.refl _ _⟩ | exact ⟨F, rfl, HO.out, HN.out, fun _ h => h, Wr.refl _ _⟩
  have HO := Lib.hid (show RowAt w B 151 2 xs.length g cap (xs.flatMap cellsPt) F from ⟨hown, hn⟩)
  clear hown hn
  have hC : (trSt xs).cnt = cntL (xs.flatMap cellsPt) := rfl
  rw [hC] at hk ⊢
  clear hC
  go_enter Tryz.func76, Tryz.ntmps76
  go_wp2
  go_loopw [1, 5] (fun q i wr => ∃ j : Nat, j ≤ xs.length ∧ i = .int .i64 j ∧ q = .int .i64 (k + cntL ((xs.flatMap cellsPt).take (j * 2)) : Nat) ∧ (∃ F', RowAt wr B 151 2 xs.length g cap (mixC k (xs.flatMap cellsPt) (j * 2)) F' ∧ ∀ x ∈ F', x ∈ F) ∧ Wr F w wr) (fun _ i _ => xs.length - (intOf i).toNat)
  case atStart => exact ⟨0, Nat.zero_le _, rfl, by simp [cntL], ⟨F, by rw [Nat.zero_mul]; rw [mixC_zero]; exact HO.out, fun _ h => h⟩, Wr.refl _ _⟩
  case round =>
    obtain ⟨j, hj, rfl, rfl, ⟨F1, how, hsub⟩, hwr⟩ := hrel
    by_cases hlt : j < xs.length
    · have hlt' : (j : Int) < (xs.length : Int) := by omega
      have t0 : (xs.flatMap cellsPt)[j * 2]? = some (.one (.int .i64 xs[j].1)) := by simpa [cellsPt] using flatMap_get cellsPt_len xs j hlt 0 (by omega)
      have a0 : cntL ((xs.flatMap cellsPt).take (j * 2 + 1)) = cntL ((xs.flatMap cellsPt).take (j * 2)) + 1 := cntL_take t0
      have t1 : (xs.flatMap cellsPt)[j * 2 + 1]? = some (.one (.int .i64 xs[j].2)) := by simpa [cellsPt] using flatMap_get cellsPt_len xs j hlt 1 (by omega)
      have a1 : cntL ((xs.flatMap cellsPt).take (j * 2 + 2)) = cntL ((xs.flatMap cellsPt).take (j * 2 + 1)) + 1 := cntL_take t1
      have hle := cntL_le (xs.flatMap cellsPt) (j * 2 + 2)
      generalize hQ : k + cntL ((xs.flatMap cellsPt).take (j * 2)) = Q
      have e0 : k + cntL ((xs.flatMap cellsPt).take (j * 2)) = Q := by omega
      have e1 : k + cntL ((xs.flatMap cellsPt).take (j * 2 + 1)) = Q + 1 := by omega
      have e2 : k + cntL ((xs.flatMap cellsPt).take (j * 2 + 2)) = Q + 1 + 1 := by omega
      have hbd : Q + 1 + 1 ≤ 1000000000 := by omega
      have hQ0 : 0 < Q := by omega
      clear hle a0 a1
      have T0 := Lib.hid t0
      clear t0
      have T1 := Lib.hid t1
      clear t1
      have E0 := Lib.hid e0
      clear e0
      have E1 := Lib.hid e1
      clear e1
      have E2 := Lib.hid e2
      clear e2
      have HQ := Lib.hid hQ
      clear hQ
      have hlen := how.len
      rw [mixC_len] at hlen
      have hjs : j * 2 + 2 ≤ xs.length * 2 := by omega
      have HN_ := Lib.hid (show ((j + 1) * 2 = j * 2 + 2) from by omega)
      have HOW0 := Lib.hid how
      have HSUB0 := Lib.hid hsub
      have HWR0 := Lib.hid hwr
      clear how hsub hwr
      obtain ⟨z0, hz0⟩ := HOW0.out.some (i := j * 2) (by rw [mixC_len]; omega)
      obtain ⟨z1, hz1⟩ := HOW0.out.some (i := j * 2 + 1) (by rw [mixC_len]; omega)
      have hf := HOW0.out.frozen
      have hgw := HOW0.out.lt.2
      obtain ⟨G0, m0, ms0, mw0⟩ := rowAt_mark1 HOW0.out T0.out (y := .int .i64 ((Q : Nat) : Int)) (by show Value.int .i64 ((k + cntL _ : Nat) : Int) = _; rw [E0.out])
      have HOW1 := Lib.hid m0
      have HSUB1 := Lib.hid (fun x hx => HSUB0.out x (ms0 x hx))
      have HWR1 := Lib.hid (HWR0.out.trans (mw0.sub (fun x hx => HSUB0.out x hx)))
      clear m0 ms0 mw0 HOW0 HSUB0 HWR0
      obtain ⟨G1, m1, ms1, mw1⟩ := rowAt_mark1 HOW1.out T1.out (y := .int .i64 ((Q + 1 : Nat) : Int)) (by show Value.int .i64 ((k + cntL _ : Nat) : Int) = _; rw [E1.out])
      have HOW2 := Lib.hid m1
      have HSUB2 := Lib.hid (fun x hx => HSUB1.out x (ms1 x hx))
      have HWR2 := Lib.hid (HWR1.out.trans (mw1.sub (fun x hx => HSUB1.out x hx)))
      clear m1 ms1 mw1 HOW1 HSUB1 HWR1
      have HF := Lib.hid (show RowAt _ B 151 2 xs.length g cap (mixC k (xs.flatMap cellsPt) ((j + 1) * 2)) _ from by rw [HN_.out]; exact HOW2.out)
      have HC := Lib.hid (show k + cntL ((xs.flatMap cellsPt).take ((j + 1) * 2)) = Q + 1 + 1 from by rw [HN_.out]; exact E2.out)
      go_wp2
      go_roundw
      case rel => exact ⟨j + 1, by omega, by go_num, by rw [HC.out]; rfl, ⟨_, HF.out, HSUB2.out⟩, HWR2.out⟩
      case measure => simp [intOf]; omega
    · have hge : ¬ (j : Int) < (xs.length : Int) := by omega
      obtain rfl : j = xs.length := by omega
      have hfl := flatMap_len cellsPt_len xs
      rw [mixC_full k _ (by omega)] at how
      rw [List.take_of_length_le (by omega)]
      have HW := Lib.hid how
      have HB := Lib.hid hwr
      have HS := Lib.hid hsub
      clear how hwr hsub hfl
      go_wp2
      go_ret
      first | exact ⟨rfl, F1, HW.out.1, HW.out.2, HS.out, HB.out⟩ | exact ⟨F1, rfl, HW.out.1, HW.out.2, HS.out, HB.out⟩

end Go.Proofs.YtgbpomakomddjabGreatDoor
end

section
namespace Go.Proofs.YtgbpomakomddjabGreatDoor
open Go.RowKit
set_option linter.unusedVariables false

theorem thin_ModeL (d : Md) : thinL (cellsM d) := ⟨trivial, thin_ints _, thin_ints _, trivial⟩
theorem thin_ModeS (xs : List Md) : (trMs xs).thins := thin_rows cellsM_len (by omega) thin_ModeL xs

set_option maxRecDepth 100000 in
set_option maxHeartbeats 1000000 in
theorem szMode_t (d : Md) (v : Value) (left : Int) (w : World) (hr : (trM d).rd w v) (hk : (trM d).ok) (h0 : 0 ≤ left) (h3 : left ≤ 1048576) :
    Calls Tryz.prog 109 #[v, .int .i64 left] w fun e w' => e = .returned (.int .i64 (if left < (trM d).sz then -1 else left - (trM d).sz)) ∧ Below w.heap.size w w' := by
  obtain ⟨A1, c1, A2, c2, rfl, r1, r2⟩ := rdMode_t hr
  clear hr
  obtain ⟨k0, k1, k2, _⟩ := hk
  have R1 := Lib.hid r1
  have K1 := Lib.hid k1
  clear r1 k1
  have R2 := Lib.hid r2
  have K2 := Lib.hid k2
  clear r2 k2
  clear k0
  have HZ := Lib.hid (show (trM d).sz = 0 + ((trI d.us).sz + ((trI d.co).sz + 0)) from rfl)
  generalize (trM d).sz = Z at HZ ⊢
  generalize hz1 : (trI d.us).sz = z1 at HZ
  have Z1 := Lib.hid hz1
  clear hz1
  generalize hz2 : (trI d.co).sz = z2 at HZ
  have Z2 := Lib.hid hz2
  clear hz2
  generalize hres : (if left < (Z : Int) then -1 else left - (Z : Int)) = res
  have RES := Lib.hid hres
  clear hres
  have S0 := Lib.hid ((Sn.start w).box 153 [.int .i64 d.du, .slice A1 d.us.length c1, .slice A2 d.co.length c2])
  go_enter Tryz.func109, Tryz.ntmps109
  go_wp2_with fail
  refine (szIntS_t d.us _ _ _ (by exact S0.out.old R1.out) K1.out (by omega) (by omega)).mono ?_
  rintro e w1 ⟨rfl, b⟩
  rw [Z1.out]
  have S1 := Lib.hid (S0.out.go b)
  clear S0 b
  by_cases hb1 : left < (z1 : Int)
  · rw [if_pos hb1]
    go_wp2
    go_ret
    exact ⟨ret_numZ (by rw [← RES.out, if_pos (by have := HZ.out; omega)]), S1.out.1⟩
  rw [if_neg hb1]
  have hq1 : 0 ≤ left - (z1 : Int) := by omega
  obtain ⟨e0, e1, e2, ef⟩ := (S1.out.bk 0 rfl).c3
  go_wp2_with fail
  clear e0 e1 e2 ef
  refine (szIntS_t d.co _ _ _ (by exact S1.out.old R2.out) K2.out (by omega) (by omega)).mono ?_
  rintro e w2 ⟨rfl, b⟩
  rw [Z2.out]
  have S2 := Lib.hid (S1.out.go b)
  clear S1 b
  by_cases hb2 : left - (z1 : Int) < (z2 : Int)
  · rw [if_pos hb2]
    go_wp2
    go_ret
    exact ⟨ret_numZ (by rw [← RES.out, if_pos (by have := HZ.out; omega)]), S2.out.1⟩
  rw [if_neg hb2]
  have hq2 : 0 ≤ left - (z1 : Int) - (z2 : Int) := by omega
  go_wp2
  go_ret
  exact ⟨ret_numZ (by rw [← RES.out, if_neg (by have := HZ.out; omega)]; have := HZ.out; omega), S2.out.1⟩

set_option maxRecDepth 100000 in
set_option maxHeartbeats 1000000 in
theorem szModeS_t (xs : List Md) (v : Value) (left : Int) (w : World) (hr : (trMs xs).rd w v) (hk : (trMs xs).ok) (h0 : 0 ≤ left) (h3 : left ≤ 1048576) :
    Calls Tryz.prog 78 #[v, .int .i64 left] w fun e w' => e = .returned (.int .i64 (if left < (trMs xs).sz then -1 else left - (trMs xs).sz)) ∧ Below w.heap.size w w' := by
  obtain ⟨hl, A, c, rfl, ga⟩ := rdModeS_t hr
  have GA := Lib.hid ga
  clear ga hr
  have HZ := Lib.hid (show (trMs xs).sz = xs.length + szL (xs.flatMap cellsM) from rfl)
  generalize (trMs xs).sz = Z at HZ ⊢
  generalize hres : (if left < (Z : Int) then -1 else left - (Z : Int)) = res
  have RES := Lib.hid hres
  clear hres
  by_cases hn : left < (xs.length : Int)
  · have hn' : left - (xs.length : Int) < 0 := by omega
    go_enter Tryz.func78, Tryz.ntmps78
    go_wp2
    go_ret
    exact ⟨ret_numZ (by rw [← RES.out, if_pos (by have := HZ.out; omega)]), Below.refl _ _⟩
  have hn' : ¬ left - (xs.length : Int) < 0 := by omega
  have hn2 : (xs.length : Int) ≤ 1048576 := by omega
  have KL := Lib.hid (okL_flat (f := cellsM) (xs := xs) hk)
  clear hk
  go_enter Tryz.func78, Tryz.ntmps78
  go_wp2
  go_loopw [1, 5] (fun q i wr => ∃ k : Nat, k ≤ xs.length ∧ i = .int .i64 k ∧ q = .int .i64 (left - xs.length - (szL ((xs.take k).flatMap cellsM) : Nat)) ∧ 0 ≤ left - xs.length - (szL ((xs.take k).flatMap cellsM) : Nat) ∧ Below w.heap.size w wr) (fun _ i _ => xs.length - (intOf i).toNat)
  case atStart => exact ⟨0, Nat.zero_le _, rfl, by simp [szL], by simp [szL]; omega, Below.refl _ _⟩
  case round =>
    obtain ⟨k, hk, rfl, rfl, hq, hbel⟩ := hrel
    by_cases hlt : k < xs.length
    · have hlt' : (k : Int) < (xs.length : Int) := by omega
      obtain ⟨b, o, rfl, hb, hc⟩ := GA.out k hlt
      obtain ⟨A1, c1, A2, c2, hc0, hc1, hc2, r1, r2⟩ := hc k hlt
      have hx0 := (hbel.cell (p := ⟨b, o + k * 3, none⟩) hb).trans hc0
      have hx1 := (hbel.cell (p := ⟨b, o + k * 3 + 1, none⟩) hb).trans hc1
      have hx2 := (hbel.cell (p := ⟨b, o + k * 3 + 2, none⟩) hb).trans hc2
      have HM := Lib.hid (mk_rdMode_t (d := xs[k]) (Tr.rd_below hbel (Nat.le_refl _) _ _ r1) (Tr.rd_below hbel (Nat.le_refl _) _ _ r2))
      clear hc hc0 hc1 hc2 r1 r2
      have HT := Lib.hid (szL_flat (f := cellsM) hlt)
      have HLE := szL_flat_le (f := cellsM) xs (k + 1)
      have HSZ := Lib.hid (show (trM xs[k]).sz = szL (cellsM xs[k]) from rfl)
      have HKK := Lib.hid (KL.out _ (List.getElem_mem hlt))
      have HK := Lib.hid (show (trM xs[k]).ok from HKK.out)
      clear HKK
      generalize szL (cellsM xs[k]) = ze at HT HSZ
      generalize xs[k] = m at hx0 hx1 hx2 HM HK HSZ
      have HB := Lib.hid hbel
      clear hbel
      generalize hQ : left - (xs.length : Int) - (szL ((xs.take k).flatMap cellsM) : Nat) = Q at hq ⊢
      have HQ := Lib.hid hQ
      have hq2 : Q ≤ 1048576 := by omega
      clear hQ
      go_wp2_with fail
      refine (szMode_t m _ _ _ (by exact HM.out) HK.out hq hq2).mono ?_
      rintro e w1 ⟨rfl, hb1⟩
      rw [HSZ.out]
      all_goals
        have HB1 := Lib.hid (HB.out.trans (hb1.mono HB.out.size))
        clear hb1
        by_cases hs : Q < (ze : Int)
        · rw [if_pos hs]
          go_wp2
          go_ret
          exact ⟨ret_numZ (by rw [← RES.out, if_pos (by have := HZ.out; have := HT.out; have := HQ.out; omega)]), HB1.out⟩
        · rw [if_neg hs]
          have hs' : 0 ≤ Q - (ze : Int) := by omega
          go_wp2
          go_roundw
          case rel => exact ⟨k + 1, by omega, by go_num, by have := HT.out; have := HQ.out; congr 1; omega, by have := HT.out; have := HQ.out; omega, HB1.out⟩
          case measure => simp [intOf]; omega
    · have hge : ¬ (k : Int) < (xs.length : Int) := by omega
      obtain rfl : k = xs.length := by omega
      rw [List.take_length] at hq ⊢
      have HB := Lib.hid hbel
      clear hbel
      go_wp2
      go_ret
      exact ⟨ret_numZ (by rw [← RES.out, if_neg (by have := HZ.out; omega)]; have := HZ.out; omega), HB.out⟩

set_option maxRecDepth 100000 in
set_option maxHeartbeats 1000000 in
theorem eqMode_t (d : Md) (v u : Value) (w : World) (hv : (trM d).rd w v) (hu : (trM d).rd w u) :
    Calls Tryz.prog 131 #[v, u] w fun e w' => e = .returned (.bool true) ∧ Below w.heap.size w w' := by
  obtain ⟨A1, c1, A2, c2, rfl, r1, r2⟩ := rdMode_t hv
  obtain ⟨B1, b1, B2, b2, rfl, s1, s2⟩ := rdMode_t hu
  clear hv hu
  have R1 := Lib.hid r1
  have Q1 := Lib.hid s1
  clear r1 s1
  have R2 := Lib.hid r2
  have Q2 := Lib.hid s2
  clear r2 s2
  have S0 := Lib.hid (((Sn.start w).box 149 [.int .i64 d.du, .slice A1 d.us.length c1, .slice A2 d.co.length c2]).box 149 [.int .i64 d.du, .slice B1 d.us.length b1, .slice B2 d.co.length b2])
  simp only [World.size_alloc] at S0
  go_enter Tryz.func131, Tryz.ntmps131
  go_wp2_with fail
  refine (eqIntS_t d.us _ _ _ (by exact S0.out.old R1.out) (by exact S0.out.old Q1.out)).mono ?_
  rintro e w1 ⟨rfl, b⟩
  have S1 := Lib.hid (S0.out.go b)
  clear S0 b
  obtain ⟨e0, e1, e2, ef⟩ := (S1.out.bk 1 rfl).c3
  obtain ⟨g0, g1, g2, gf⟩ := (S1.out.bk 0 rfl).c3
  go_wp2_with fail
  clear e0 e1 e2 ef g0 g1 g2 gf
  refine (eqIntS_t d.co _ _ _ (by exact S1.out.old R2.out) (by exact S1.out.old Q2.out)).mono ?_
  rintro e w2 ⟨rfl, b⟩
  have S2 := Lib.hid (S1.out.go b)
  clear S1 b
  go_wp2
  go_ret
  exact ⟨rfl, S2.out.1⟩

set_option maxRecDepth 100000 in
set_option maxHeartbeats 1000000 in
theorem eqModeS_t (xs : List Md) (v u : Value) (w : World) (hv : (trMs xs).rd w v) (hu : (trMs xs).rd w u) :
    Calls Tryz.prog 99 #[v, u] w fun e w' => e = .returned (.bool true) ∧ Below w.heap.size w w' := by
  obtain ⟨hl, A, c, rfl, ga⟩ := rdModeS_t hv
  obtain ⟨_, B, c2, rfl, gb⟩ := rdModeS_t hu
  have GA := Lib.hid ga
  have GB := Lib.hid gb
  clear ga gb hv hu
  go_enter Tryz.func99, Tryz.ntmps99
  go_wp2
  go_loopw [5] (fun i wr => ∃ k : Nat, k ≤ xs.length ∧ i = .int .i64 k ∧ Below w.heap.size w wr) (fun i _ => xs.length - (intOf i).toNat)
  case atStart => exact ⟨0, Nat.zero_le _, rfl, Below.refl _ _⟩
  case round =>
    obtain ⟨k, hk, rfl, hbel⟩ := hrel
    by_cases hlt : k < xs.length
    · have hlt' : (k : Int) < (xs.length : Int) := by omega
      obtain ⟨b1, o1, rfl, hb1, hc⟩ := GA.out k hlt
      obtain ⟨b2, o2, rfl, hb2, hd⟩ := GB.out k hlt
      obtain ⟨A1, c1, A2, c2, hc0, hc1, hc2, r1, r2⟩ := hc k hlt
      obtain ⟨B1, d1, B2, d2, hd0, hd1, hd2, s1, s2⟩ := hd k hlt
      have hx0 := (hbel.cell (p := ⟨b1, o1 + k * 3, none⟩) hb1).trans hc0
      have hx1 := (hbel.cell (p := ⟨b1, o1 + k * 3 + 1, none⟩) hb1).trans hc1
      have hx2 := (hbel.cell (p := ⟨b1, o1 + k * 3 + 2, none⟩) hb1).trans hc2
      have hy0 := (hbel.cell (p := ⟨b2, o2 + k * 3, none⟩) hb2).trans hd0
      have hy1 := (hbel.cell (p := ⟨b2, o2 + k * 3 + 1, none⟩) hb2).trans hd1
      have hy2 := (hbel.cell (p := ⟨b2, o2 + k * 3 + 2, none⟩) hb2).trans hd2
      have HM := Lib.hid (mk_rdMode_t (w := wr.drew) (d := xs[k]) (Tr.rd_below hbel.drew (Nat.le_refl _) _ _ r1) (Tr.rd_below hbel.drew (Nat.le_refl _) _ _ r2))
      have HN := Lib.hid (mk_rdMode_t (w := wr.drew) (d := xs[k]) (Tr.rd_below hbel.drew (Nat.le_refl _) _ _ s1) (Tr.rd_below hbel.drew (Nat.le_refl _) _ _ s2))
      clear hc hd hc0 hd0 hc1 hd1 hc2 hd2 r1 s1 r2 s2
      have HB := Lib.hid hbel
      clear hbel
      generalize xs[k] = m at hx0 hy0 hx1 hy1 hx2 hy2 HM HN
      go_wp2
      go_region_with (go_at_call 131; refine (eqMode_t m _ _ _ (by exact HM.out) (by exact HN.out)).mono ?_; rintro e w1 ⟨rfl, hb3⟩)
      all_goals
        go_wp2
        go_roundw
        case rel => exact ⟨k + 1, by omega, by go_num, HB.out.drew.trans (hb3.mono HB.out.size)⟩
        case measure => simp [intOf]; omega
    · have hge : ¬ (k : Int) < (xs.length : Int) := by omega
      have HB := Lib.hid hbel
      clear hbel
      go_wp2
      go_ret
      exact ⟨rfl, HB.out⟩

set_option maxRecDepth 100000 in
set_option maxHeartbeats 1000000 in
theorem toMode_t (d : Md) (v : Value) (w : World) (hv : (trM d).rd w v) (hl : (trM d).sz ≤ 1073741824) :
    Calls Tryz.prog 112 #[v] w fun e w' => ∃ u F, e = .returned u ∧ (trM d).own w' w.heap.size u F ∧ F.Nodup ∧ Below w.heap.size w w' := by
  obtain ⟨A1, c1, A2, c2, rfl, r1, r2⟩ := rdMode_t hv
  clear hv
  have R1 := Lib.hid r1
  clear r1
  have R2 := Lib.hid r2
  clear r2
  have hz : (trM d).sz = 0 + ((trI d.us).sz + ((trI d.co).sz + 0)) := rfl
  have hl1 : (trI d.us).sz ≤ 1073741824 := by omega
  have hl2 : (trI d.co).sz ≤ 1073741824 := by omega
  clear hz hl
  have S0 := Lib.hid ((((Sn.start w).box 153 [.int .i64 d.du, .slice A1 d.us.length c1, .slice A2 d.co.length c2]).box 149 [.int .i64 0, .slice none 0 0, .slice none 0 0]).box 149 [.int .i64 d.du, .slice none 0 0, .slice none 0 0])
  simp only [World.size_alloc] at S0
  go_enter Tryz.func112, Tryz.ntmps112
  go_wp2_with fail
  refine (toIntS_t d.us _ _ (by exact S0.out.old R1.out) hl1).mono ?_
  rintro e w1 ⟨u1, F1, rfl, o, h, b⟩
  obtain ⟨U1, n1, rfl⟩ := slice_ints (Tr.own_rd _ _ _ o)
  have S1 := Lib.hid (S0.out.new o h b)
  clear S0 o h b
  obtain ⟨e0, e1, e2, ef⟩ := (S1.out.bk 3 rfl).c3
  obtain ⟨g0, g1, g2, gf⟩ := (S1.out.bk 1 rfl).c3
  go_wp2_with fail
  clear e0 e1 e2 ef g0 g1 g2 gf
  have S1' := Lib.hid (S1.out.boxSet 1 rfl 1 (.slice U1 d.us.length n1))
  clear S1
  have S1 := S1'
  clear S1'
  refine (toIntS_t d.co _ _ (by exact S1.out.old R2.out) hl2).mono ?_
  rintro e w2 ⟨u2, F2, rfl, o, h, b⟩
  obtain ⟨U2, n2, rfl⟩ := slice_ints (Tr.own_rd _ _ _ o)
  have S2 := Lib.hid (S1.out.new o h b)
  clear S1 o h b
  obtain ⟨e0, e1, e2, ef⟩ := (S2.out.bk 4 rfl).c3
  obtain ⟨g0, g1, g2, gf⟩ := (S2.out.bk 2 rfl).c3
  obtain ⟨z0, z1, z2, zf⟩ := (S2.out.bk 3 rfl).c3
  go_wp2
  clear e0 e1 e2 ef g0 g1 g2 gf
  have SZ := (((S2.out.boxSet 2 rfl 2 (.slice U2 d.co.length n2)).boxSet 3 rfl 0 (.int .i64 d.du)).boxSet 3 rfl 1 (.slice U1 d.us.length n1)).boxSet 3 rfl 2 (.slice U2 d.co.length n2)
  have P := SZ.nil0
  have P := (P.pick 1 rfl).pack
  have P := (P.pick 1 rfl).pack
  have P := P.pack1 (.int .i64 d.du)
  refine bodyPost_ret (v := .agg #[.int .i64 d.du, .slice U1 d.us.length n1, .slice U2 d.co.length n2]) (by simp [results, Tryz.results112, go_sem, z0, z1, z2]) rfl ⟨_, _, rfl, (P.own 0 rfl).1, (P.own 0 rfl).2, P.1⟩

theorem infoMode_t : (Tryz.prog.info? 149).map (fun i => (i.zero, i.size, i.bytes)) = some (some (.agg #[.int .i64 0, .slice none 0 0, .slice none 0 0]), 3, 56) := by kernel_rfl

set_option maxRecDepth 100000 in
set_option maxHeartbeats 1000000 in
theorem toModeS_t (xs : List Md) (v : Value) (w : World) (hv : (trMs xs).rd w v) (hl : (trMs xs).sz ≤ 1073741824) :
    Calls Tryz.prog 84 #[v] w fun e w' => ∃ u F, e = .returned u ∧ (trMs xs).own w' w.heap.size u F ∧ F.Nodup ∧ Below w.heap.size w w' := by
  obtain ⟨hla, A, c, rfl, ga⟩ := rdModeS_t hv
  have GA := Lib.hid ga
  clear ga hv
  have hsz : (trMs xs).sz = xs.length + szL (xs.flatMap cellsM) := rfl
  rw [hsz] at hl
  clear hsz
  obtain ⟨i0, hi, hz0, hz1, hz2⟩ := info_parts infoMode_t
  go_enter Tryz.func84, Tryz.ntmps84
  go_wp2_with (at_make; refine wpList_make_full _ rfl _ _ 87 rfl w.heap.size 149 i0 (.agg #[.int .i64 0, .slice none 0 0, .slice none 0 0]) 3 Tryz.underlying87 hi hz0 hz1 .i64 .i64 _ _ xs.length rfl rfl rfl rfl (by rw [hz2]; omega) (by unfold maxLen; omega) (Nat.le_refl _) ?_; intro w1 hown1 hgrow1)
  have hbel1 : Below w.heap.size w w1 := (Below.refl _ _).grown hgrow1 (Nat.le_refl _) (by simp)
  have hm := hown1.1
  generalize hms : (madeCells _ (xs.length * 3)).toList = raw at hown1 hm
  have HM := Lib.hid hm
  have HO := Lib.hid hown1
  clear hm hms hgrow1 hown1
  go_loopw [4] (fun i wr => ∃ k : Nat, k ≤ xs.length ∧ i = .int .i64 k ∧ (∃ F, RowAt wr w.heap.size 149 3 xs.length w.heap.size xs.length (mixR cellsM 3 raw xs k) F) ∧ Below w.heap.size w wr) (fun i _ => xs.length - (intOf i).toNat)
  case atStart => exact ⟨0, Nat.zero_le _, rfl, ⟨_, by rw [mixR_zero]; exact row_made HO.out⟩, hbel1⟩
  case round =>
    obtain ⟨k, hk, rfl, ⟨F, how⟩, hbel⟩ := hrel
    by_cases hlt : k < xs.length
    · have hlt' : (k : Int) < (xs.length : Int) := by omega
      obtain ⟨b, o, rfl, hb, hc⟩ := GA.out k hlt
      obtain ⟨A1, c1, A2, c2, hc0, hc1, hc2, r1, r2⟩ := hc k hlt
      have hx0 := (hbel.cell (p := ⟨b, o + k * 3, none⟩) hb).trans hc0
      have hx1 := (hbel.cell (p := ⟨b, o + k * 3 + 1, none⟩) hb).trans hc1
      have hx2 := (hbel.cell (p := ⟨b, o + k * 3 + 2, none⟩) hb).trans hc2
      have hse := szL_flat_at (f := cellsM) hlt
      have HRD := Lib.hid (mk_rdMode_t (w := wr) (d := xs[k]) (Tr.rd_below hbel (Nat.le_refl _) _ _ r1) (Tr.rd_below hbel (Nat.le_refl _) _ _ r2))
      have hle : (trM xs[k]).sz ≤ 1073741824 := by
        have : (trM xs[k]).sz = szL (cellsM xs[k]) := rfl
        omega
      have HST := Lib.hid (mixR_set cellsM_len HM.out hlt)
      have HLEN := Lib.hid (mixR_len cellsM_len HM.out hk)
      clear hc hse hc0 hc1 hc2 r1 r2
      generalize xs[k] = m at hx0 hx1 hx2 HRD HST hle
      have HB := Lib.hid hbel
      have HW := Lib.hid how
      clear hbel how
      go_wp2_with fail
      refine (toMode_t m _ _ HRD.out hle).mono ?_
      rintro e w2 ⟨u, H, rfl, ho, hn, hb2⟩
      obtain ⟨U1, n1, U2, n2, rfl, _, _⟩ := rdMode_t (Tr.own_rd _ _ _ ho)
      have how2 := HW.out.below hb2 (Nat.le_refl _)
      have hcl : (mixR cellsM 3 raw xs k).length = xs.length * 3 := HLEN.out
      obtain ⟨y0, hy0⟩ := how2.some (i := k * 3) (by omega)
      obtain ⟨y1, hy1⟩ := how2.some (i := k * 3 + 1) (by omega)
      obtain ⟨y2, hy2⟩ := how2.some (i := k * 3 + 2) (by omega)
      have hf := how2.frozen
      have hgw := how2.lt.2
      have hw0 := HW.out.lt.2
      obtain ⟨vs, hvs, hoL⟩ := ho
      obtain rfl : vs = [.int .i64 m.du, .slice U1 m.us.length n1, .slice U2 m.co.length n2] := by
        injection hvs with hvs
        exact (congrArg Array.toList hvs).symm
      obtain ⟨F', hp, _⟩ := RowAt.putL (K := wr.heap.size) HB.out.size hw0 (cellsM m) _ w2 _ F H (k * 3) how2 (by rw [cellsM_len]; omega) hoL hn (fun j hj hj2 => by
        have h1 := (ownL_lt _ _ _ hoL j hj).1
        have h2 := (HW.out.allLt j hj2).2
        omega)
      rw [HST.out] at hp
      have HP := Lib.hid hp
      have HBZ := Lib.hid (setL_below (Nat.le_refl _) [.int .i64 m.du, .slice U1 m.us.length n1, .slice U2 m.co.length n2] w2 (k * 3) (HB.out.trans (hb2.mono HB.out.size)))
      clear hp hoL how2 hb2 hn hcl hvs
      go_wp2
      go_roundw
      case rel => exact ⟨k + 1, by omega, by go_num, ⟨F', HP.out⟩, HBZ.out⟩
      case measure => simp [intOf]; omega
    · have hge : ¬ (k : Int) < (xs.length : Int) := by omega
      obtain rfl : k = xs.length := by omega
      rw [mixR_full HM.out] at how
      have HW := Lib.hid how
      have HB := Lib.hid hbel
      clear how hbel
      go_wp2
      go_ret
      exact ⟨_, rfl, F, HW.out.1, HW.out.2, HB.out⟩

set_option maxRecDepth 100000 in
set_option maxHeartbeats 2000000 in
theorem markModeS_t (k B : Nat) (xs : List Md) (v : Value) (F : List Nat) (w : World) (hown : (trMs xs).own w B v F) (hn : F.Nodup) (h0 : 0 < k) (hk : k + (trMs xs).cnt ≤ 1000000000) :
    Calls Tryz.prog 75 #[v, .int .i64 k] w fun e w' => ∃ F', e = .returned (.int .i64 (k + (trMs xs).cnt : Nat)) ∧ ((trMs xs).mkd k).own w' B v F' ∧ F'.Nodup ∧ (∀ x ∈ F', x ∈ F) ∧ Wr F w w' := by
  rcases own_form hown with ⟨rfl, hl⟩ | ⟨g, cap, rfl, hcap, hmx⟩
  · obtain rfl : xs = [] := List.eq_nil_of_length_eq_zero hl
    have HO := Lib.hid hown
    have HN := Lib.hid hn
    clear hown hn hl
    go_enter Tryz.func75, Tryz.ntmps75
    go_wp2
    refine wp_loop_rounds 1 ?_
    rw [rounds_succ]
    go_wp2
    go_ret
    first | exact ⟨rfl, F, HO.out, HN.out, fun _ h => h, Wr.refl _ _⟩ | exact ⟨F, rfl, HO.out, HN.out, fun _ h => h, Wr.refl _ _⟩
  have HO := Lib.hid (show RowAt w B 149 3 xs.length g cap (xs.flatMap cellsM) F from ⟨hown, hn⟩)
  clear hown hn
  have hC : (trMs xs).cnt = cntL (xs.flatMap cellsM) := rfl
  rw [hC] at hk ⊢
  clear hC
  go_enter Tryz.func75, Tryz.ntmps75
  go_wp2
  go_loopw [1, 5] (fun q i wr => ∃ j : Nat, j ≤ xs.length ∧ i = .int .i64 j ∧ q = .int .i64 (k + cntL ((xs.flatMap cellsM).take (j * 3)) : Nat) ∧ (∃ F', RowAt wr B 149 3 xs.length g cap (mixC k (xs.flatMap cellsM) (j * 3)) F' ∧ ∀ x ∈ F', x ∈ F) ∧ Wr F w wr) (fun _ i _ => xs.length - (intOf i).toNat)
  case atStart => exact ⟨0, Nat.zero_le _, rfl, by simp [cntL], ⟨F, by rw [Nat.zero_mul]; rw [mixC_zero]; exact HO.out, fun _ h => h⟩, Wr.refl _ _⟩
  case round =>
    obtain ⟨j, hj, rfl, rfl, ⟨F1, how, hsub⟩, hwr⟩ := hrel
    by_cases hlt : j < xs.length
    · have hlt' : (j : Int) < (xs.length : Int) := by omega
      have t0 : (xs.flatMap cellsM)[j * 3]? = some (.one (.int .i64 xs[j].du)) := by simpa [cellsM] using flatMap_get cellsM_len xs j hlt 0 (by omega)
      have a0 : cntL ((xs.flatMap cellsM).take (j * 3 + 1)) = cntL ((xs.flatMap cellsM).take (j * 3)) + 1 := cntL_take t0
      have t1 : (xs.flatMap cellsM)[j * 3 + 1]? = some (trI xs[j].us) := by simpa [cellsM] using flatMap_get cellsM_len xs j hlt 1 (by omega)
      have a1 : cntL ((xs.flatMap cellsM).take (j * 3 + 2)) = cntL ((xs.flatMap cellsM).take (j * 3 + 1)) + (trI xs[j].us).cnt := cntL_take t1
      have t2 : (xs.flatMap cellsM)[j * 3 + 2]? = some (trI xs[j].co) := by simpa [cellsM] using flatMap_get cellsM_len xs j hlt 2 (by omega)
      have a2 : cntL ((xs.flatMap cellsM).take (j * 3 + 3)) = cntL ((xs.flatMap cellsM).take (j * 3 + 2)) + (trI xs[j].co).cnt := cntL_take t2
      have hle := cntL_le (xs.flatMap cellsM) (j * 3 + 3)
      generalize hQ : k + cntL ((xs.flatMap cellsM).take (j * 3)) = Q
      have e0 : k + cntL ((xs.flatMap cellsM).take (j * 3)) = Q := by omega
      have e1 : k + cntL ((xs.flatMap cellsM).take (j * 3 + 1)) = Q + 1 := by omega
      have e2 : k + cntL ((xs.flatMap cellsM).take (j * 3 + 2)) = Q + 1 + (trI xs[j].us).cnt := by omega
      have e3 : k + cntL ((xs.flatMap cellsM).take (j * 3 + 3)) = Q + 1 + (trI xs[j].us).cnt + (trI xs[j].co).cnt := by omega
      have hbd : Q + 1 + (trI xs[j].us).cnt + (trI xs[j].co).cnt ≤ 1000000000 := by omega
      have hQ0 : 0 < Q := by omega
      clear hle a0 a1 a2
      have T0 := Lib.hid t0
      clear t0
      have T1 := Lib.hid t1
      clear t1
      have T2 := Lib.hid t2
      clear t2
      have E0 := Lib.hid e0
      clear e0
      have E1 := Lib.hid e1
      clear e1
      have E2 := Lib.hid e2
      clear e2
      have E3 := Lib.hid e3
      clear e3
      have HQ := Lib.hid hQ
      clear hQ
      have hlen := how.len
      rw [mixC_len] at hlen
      have hjs : j * 3 + 3 ≤ xs.length * 3 := by omega
      have HN_ := Lib.hid (show ((j + 1) * 3 = j * 3 + 3) from by omega)
      have HOW0 := Lib.hid how
      have HSUB0 := Lib.hid hsub
      have HWR0 := Lib.hid hwr
      clear how hsub hwr
      obtain ⟨z0, hz0⟩ := HOW0.out.some (i := j * 3) (by rw [mixC_len]; omega)
      obtain ⟨x1, hz1, hr1⟩ := rowAt_peek HOW0.out (i := j * 3 + 1) (by omega) T1.out
      obtain ⟨A1, c1, rfl⟩ := slice_ints hr1
      clear hr1
      obtain ⟨z2, hz2⟩ := HOW0.out.some (i := j * 3 + 2) (by rw [mixC_len]; omega)
      have hf := HOW0.out.frozen
      have hgw := HOW0.out.lt.2
      obtain ⟨G0, m0, ms0, mw0⟩ := rowAt_mark1 HOW0.out T0.out (y := .int .i64 ((Q : Nat) : Int)) (by show Value.int .i64 ((k + cntL _ : Nat) : Int) = _; rw [E0.out])
      have HOW1 := Lib.hid m0
      have HSUB1 := Lib.hid (fun x hx => HSUB0.out x (ms0 x hx))
      have HWR1 := Lib.hid (HWR0.out.trans (mw0.sub (fun x hx => HSUB0.out x hx)))
      clear m0 ms0 mw0 HOW0 HSUB0 HWR0
      obtain ⟨x1, H1, hx1, ho1, hn1, hs1, back1⟩ := rowAt_markR HOW1.out T1.out
      rw [E1.out] at back1
      obtain rfl : .slice A1 xs[j].us.length c1 = x1 := Option.some.inj (((cell_set1 (by omega)).trans (hz1)).symm.trans hx1)
      have HO1 := Lib.hid ho1
      have BK1 := Lib.hid back1
      have HS1 := Lib.hid hs1
      clear hx1 ho1 hs1 back1
      go_wp2_with fail
      clear hf hgw hz0 hz1 hz2
      refine (markIntS_t (Q + 1) B xs[j].us _ H1 _ (by exact HO1.out) hn1 (by omega) (by omega)).mono ?_
      rintro e w1_ ⟨K1, rfl, o, h, hs, hw⟩
      obtain ⟨G1, m1, ms1, mw1⟩ := BK1.out _ K1 o h hs hw
      have HOW2 := Lib.hid m1
      have HSUB2 := Lib.hid (fun x hx => HSUB1.out x (ms1 x hx))
      have HWR2 := Lib.hid (HWR1.out.trans (mw1.sub (fun x hx => HSUB1.out x hx)))
      clear m1 ms1 mw1 HOW1 HSUB1 HWR1 o h hs hw hn1 HO1 BK1 HS1
      obtain ⟨x2, hz2, hr2⟩ := rowAt_peek HOW2.out (i := j * 3 + 2) (by omega) T2.out
      obtain ⟨A2, c2, rfl⟩ := slice_ints hr2
      clear hr2
      have hf := HOW2.out.frozen
      have hgw := HOW2.out.lt.2
      obtain ⟨x2, H2, hx2, ho2, hn2, hs2, back2⟩ := rowAt_markR HOW2.out T2.out
      rw [E2.out] at back2
      obtain rfl : .slice A2 xs[j].co.length c2 = x2 := Option.some.inj ((hz2).symm.trans hx2)
      have HO2 := Lib.hid ho2
      have BK2 := Lib.hid back2
      have HS2 := Lib.hid hs2
      clear hx2 ho2 hs2 back2
      go_wp2_with fail
      clear hf hgw hz2
      refine (markIntS_t (Q + 1 + (trI xs[j].us).cnt) B xs[j].co _ H2 _ (by exact HO2.out) hn2 (by omega) (by omega)).mono ?_
      rintro e w2_ ⟨K2, rfl, o, h, hs, hw⟩
      obtain ⟨G2, m2, ms2, mw2⟩ := BK2.out _ K2 o h hs hw
      have HOW3 := Lib.hid m2
      have HSUB3 := Lib.hid (fun x hx => HSUB2.out x (ms2 x hx))
      have HWR3 := Lib.hid (HWR2.out.trans (mw2.sub (fun x hx => HSUB2.out x hx)))
      clear m2 ms2 mw2 HOW2 HSUB2 HWR2 o h hs hw hn2 HO2 BK2 HS2
      have HF := Lib.hid (show RowAt _ B 149 3 xs.length g cap (mixC k (xs.flatMap cellsM) ((j + 1) * 3)) _ from by rw [HN_.out]; exact HOW3.out)
      have HC := Lib.hid (show k + cntL ((xs.flatMap cellsM).take ((j + 1) * 3)) = Q + 1 + (trI xs[j].us).cnt + (trI xs[j].co).cnt from by rw [HN_.out]; exact E3.out)
      go_wp2
      go_roundw
      case rel => exact ⟨j + 1, by omega, by go_num, by rw [HC.out]; rfl, ⟨_, HF.out, HSUB3.out⟩, HWR3.out⟩
      case measure => simp [intOf]; omega
    · have hge : ¬ (j : Int) < (xs.length : Int) := by omega
      obtain rfl : j = xs.length := by omega
      have hfl := flatMap_len cellsM_len xs
      rw [mixC_full k _ (by omega)] at how
      rw [List.take_of_length_le (by omega)]
      have HW := Lib.hid how
      have HB := Lib.hid hwr
      have HS := Lib.hid hsub
      clear how hwr hsub hfl
      go_wp2
      go_ret
      first | exact ⟨rfl, F1, HW.out.1, HW.out.2, HS.out, HB.out⟩ | exact ⟨F1, rfl, HW.out.1, HW.out.2, HS.out, HB.out⟩

end Go.Proofs.YtgbpomakomddjabGreatDoor
end

section
namespace Go.Proofs.YtgbpomakomddjabGreatDoor
open Go.RowKit
set_option linter.unusedVariables false

theorem thin_ActivityL (d : Ac) : thinL (cellsA d) := ⟨trivial, trivial, thin_ModeS _, trivial⟩
theorem thin_ActivityS (xs : List Ac) : (trAs xs).thins := thin_rows cellsA_len (by omega) thin_ActivityL xs

set_option maxRecDepth 100000 in
set_option maxHeartbeats 1000000 in
theorem szActivity_t (d : Ac) (v : Value) (left : Int) (w : World) (hr : (trA d).rd w v) (hk : (trA d).ok) (h0 : 0 ≤ left) (h3 : left ≤ 1048576) :
    Calls Tryz.prog 46 #[v, .int .i64 left] w fun e w' => e = .returned (.int .i64 (if left < (trA d).sz then -1 else left - (trA d).sz)) ∧ Below w.heap.size w w' := by
  obtain ⟨A2, c2, rfl, r2⟩ := rdActivity_t hr
  clear hr
  obtain ⟨k0, k1, k2, _⟩ := hk
  have R2 := Lib.hid r2
  have K2 := Lib.hid k2
  clear r2 k2
  have k0 : d.nm.size ≤ maxLen := k0
  unfold maxLen at k0
  clear k1
  have HZ := Lib.hid (show (trA d).sz = d.nm.size + (0 + ((trMs d.ms).sz + 0)) from rfl)
  generalize (trA d).sz = Z at HZ ⊢
  generalize hz2 : (trMs d.ms).sz = z2 at HZ
  have Z2 := Lib.hid hz2
  clear hz2
  generalize hres : (if left < (Z : Int) then -1 else left - (Z : Int)) = res
  have RES := Lib.hid hres
  clear hres
  have S0 := Lib.hid ((Sn.start w).box 79 [.string d.nm, .int .i64 d.fa, .slice A2 d.ms.length c2])
  by_cases hb0 : left < (d.nm.size : Int)
  · have hb0' : left - (d.nm.size : Int) < 0 := by omega
    go_enter Tryz.func46, Tryz.ntmps46
    go_wp2
    go_ret
    exact ⟨ret_numZ (by rw [← RES.out, if_pos (by have := HZ.out; omega)]), S0.out.1⟩
  have hb0' : ¬ left - (d.nm.size : Int) < 0 := by omega
  have hq0 : 0 ≤ left - (d.nm.size : Int) := by omega
  go_enter Tryz.func46, Tryz.ntmps46
  go_wp2_with fail
  refine (szModeS_t d.ms _ _ _ (by exact S0.out.old R2.out) K2.out (by omega) (by omega)).mono ?_
  rintro e w1 ⟨rfl, b⟩
  rw [Z2.out]
  have S1 := Lib.hid (S0.out.go b)
  clear S0 b
  by_cases hb2 : left - (d.nm.size : Int) < (z2 : Int)
  · rw [if_pos hb2]
    go_wp2
    go_ret
    exact ⟨ret_numZ (by rw [← RES.out, if_pos (by have := HZ.out; omega)]), S1.out.1⟩
  rw [if_neg hb2]
  have hq2 : 0 ≤ left - (d.nm.size : Int) - (z2 : Int) := by omega
  go_wp2
  go_ret
  exact ⟨ret_numZ (by rw [← RES.out, if_neg (by have := HZ.out; omega)]; have := HZ.out; omega), S1.out.1⟩

set_option maxRecDepth 100000 in
set_option maxHeartbeats 1000000 in
theorem szActivityS_t (xs : List Ac) (v : Value) (left : Int) (w : World) (hr : (trAs xs).rd w v) (hk : (trAs xs).ok) (h0 : 0 ≤ left) (h3 : left ≤ 1048576) :
    Calls Tryz.prog 18 #[v, .int .i64 left] w fun e w' => e = .returned (.int .i64 (if left < (trAs xs).sz then -1 else left - (trAs xs).sz)) ∧ Below w.heap.size w w' := by
  obtain ⟨hl, A, c, rfl, ga⟩ := rdActivityS_t hr
  have GA := Lib.hid ga
  clear ga hr
  have HZ := Lib.hid (show (trAs xs).sz = xs.length + szL (xs.flatMap cellsA) from rfl)
  generalize (trAs xs).sz = Z at HZ ⊢
  generalize hres : (if left < (Z : Int) then -1 else left - (Z : Int)) = res
  have RES := Lib.hid hres
  clear hres
  by_cases hn : left < (xs.length : Int)
  · have hn' : left - (xs.length : Int) < 0 := by omega
    go_enter Tryz.func18, Tryz.ntmps18
    go_wp2
    go_ret
    exact ⟨ret_numZ (by rw [← RES.out, if_pos (by have := HZ.out; omega)]), Below.refl _ _⟩
  have hn' : ¬ left - (xs.length : Int) < 0 := by omega
  have hn2 : (xs.length : Int) ≤ 1048576 := by omega
  have KL := Lib.hid (okL_flat (f := cellsA) (xs := xs) hk)
  clear hk
  go_enter Tryz.func18, Tryz.ntmps18
  go_wp2
  go_loopw [1, 5] (fun q i wr => ∃ k : Nat, k ≤ xs.length ∧ i = .int .i64 k ∧ q = .int .i64 (left - xs.length - (szL ((xs.take k).flatMap cellsA) : Nat)) ∧ 0 ≤ left - xs.length - (szL ((xs.take k).flatMap cellsA) : Nat) ∧ Below w.heap.size w wr) (fun _ i _ => xs.length - (intOf i).toNat)
  case atStart => exact ⟨0, Nat.zero_le _, rfl, by simp [szL], by simp [szL]; omega, Below.refl _ _⟩
  case round =>
    obtain ⟨k, hk, rfl, rfl, hq, hbel⟩ := hrel
    by_cases hlt : k < xs.length
    · have hlt' : (k : Int) < (xs.length : Int) := by omega
      obtain ⟨b, o, rfl, hb, hc⟩ := GA.out k hlt
      obtain ⟨A2, c2, hc0, hc1, hc2, r2⟩ := hc k hlt
      have hx0 := (hbel.cell (p := ⟨b, o + k * 3, none⟩) hb).trans hc0
      have hx1 := (hbel.cell (p := ⟨b, o + k * 3 + 1, none⟩) hb).trans hc1
      have hx2 := (hbel.cell (p := ⟨b, o + k * 3 + 2, none⟩) hb).trans hc2
      have HM := Lib.hid (mk_rdActivity_t (d := xs[k]) (Tr.rd_below hbel (Nat.le_refl _) _ _ r2))
      clear hc hc0 hc1 hc2 r2
      have HT := Lib.hid (szL_flat (f := cellsA) hlt)
      have HLE := szL_flat_le (f := cellsA) xs (k + 1)
      have HSZ := Lib.hid (show (trA xs[k]).sz = szL (cellsA xs[k]) from rfl)
      have HKK := Lib.hid (KL.out _ (List.getElem_mem hlt))
      have HK := Lib.hid (show (trA xs[k]).ok from HKK.out)
      clear HKK
      generalize szL (cellsA xs[k]) = ze at HT HSZ
      generalize xs[k] = m at hx0 hx1 hx2 HM HK HSZ
      have HB := Lib.hid hbel
      clear hbel
      generalize hQ : left - (xs.length : Int) - (szL ((xs.take k).flatMap cellsA) : Nat) = Q at hq ⊢
      have HQ := Lib.hid hQ
      have hq2 : Q ≤ 1048576 := by omega
      clear hQ
      go_wp2_with fail
      refine (szActivity_t m _ _ _ (by exact HM.out) HK.out hq hq2).mono ?_
      rintro e w1 ⟨rfl, hb1⟩
      rw [HSZ.out]
      all_goals
        have HB1 := Lib.hid (HB.out.trans (hb1.mono HB.out.size))
        clear hb1
        by_cases hs : Q < (ze : Int)
        · rw [if_pos hs]
          go_wp2
          go_ret
          exact ⟨ret_numZ (by rw [← RES.out, if_pos (by have := HZ.out; have := HT.out; have := HQ.out; omega)]), HB1.out⟩
        · rw [if_neg hs]
          have hs' : 0 ≤ Q - (ze : Int) := by omega
          go_wp2
          go_roundw
          case rel => exact ⟨k + 1, by omega, by go_num, by have := HT.out; have := HQ.out; congr 1; omega, by have := HT.out; have := HQ.out; omega, HB1.out⟩
          case measure => simp [intOf]; omega
    · have hge : ¬ (k : Int) < (xs.length : Int) := by omega
      obtain rfl : k = xs.length := by omega
      rw [List.take_length] at hq ⊢
      have HB := Lib.hid hbel
      clear hbel
      go_wp2
      go_ret
      exact ⟨ret_numZ (by rw [← RES.out, if_neg (by have := HZ.out; omega)]; have := HZ.out; omega), HB.out⟩

set_option maxRecDepth 100000 in
set_option maxHeartbeats 1000000 in
theorem eqActivity_t (d : Ac) (v u : Value) (w : World) (hv : (trA d).rd w v) (hu : (trA d).rd w u) :
    Calls Tryz.prog 64 #[v, u] w fun e w' => e = .returned (.bool true) ∧ Below w.heap.size w w' := by
  obtain ⟨A2, c2, rfl, r2⟩ := rdActivity_t hv
  obtain ⟨B2, b2, rfl, s2⟩ := rdActivity_t hu
  clear hv hu
  have R2 := Lib.hid r2
  have Q2 := Lib.hid s2
  clear r2 s2
  have S0 := Lib.hid (((Sn.start w).box 89 [.string d.nm, .int .i64 d.fa, .slice A2 d.ms.length c2]).box 89 [.string d.nm, .int .i64 d.fa, .slice B2 d.ms.length b2])
  simp only [World.size_alloc] at S0
  go_enter Tryz.func64, Tryz.ntmps64
  go_wp2_with fail
  refine (eqModeS_t d.ms _ _ _ (by exact S0.out.old R2.out) (by exact S0.out.old Q2.out)).mono ?_
  rintro e w1 ⟨rfl, b⟩
  have S1 := Lib.hid (S0.out.go b)
  clear S0 b
  go_wp2
  go_ret
  exact ⟨rfl, S1.out.1⟩

set_option maxRecDepth 100000 in
set_option maxHeartbeats 1000000 in
theorem eqActivityS_t (xs : List Ac) (v u : Value) (w : World) (hv : (trAs xs).rd w v) (hu : (trAs xs).rd w u) :
    Calls Tryz.prog 33 #[v, u] w fun e w' => e = .returned (.bool true) ∧ Below w.heap.size w w' := by
  obtain ⟨hl, A, c, rfl, ga⟩ := rdActivityS_t hv
  obtain ⟨_, B, c2, rfl, gb⟩ := rdActivityS_t hu
  have GA := Lib.hid ga
  have GB := Lib.hid gb
  clear ga gb hv hu
  go_enter Tryz.func33, Tryz.ntmps33
  go_wp2
  go_loopw [5] (fun i wr => ∃ k : Nat, k ≤ xs.length ∧ i = .int .i64 k ∧ Below w.heap.size w wr) (fun i _ => xs.length - (intOf i).toNat)
  case atStart => exact ⟨0, Nat.zero_le _, rfl, Below.refl _ _⟩
  case round =>
    obtain ⟨k, hk, rfl, hbel⟩ := hrel
    by_cases hlt : k < xs.length
    · have hlt' : (k : Int) < (xs.length : Int) := by omega
      obtain ⟨b1, o1, rfl, hb1, hc⟩ := GA.out k hlt
      obtain ⟨b2, o2, rfl, hb2, hd⟩ := GB.out k hlt
      obtain ⟨A2, c2, hc0, hc1, hc2, r2⟩ := hc k hlt
      obtain ⟨B2, d2, hd0, hd1, hd2, s2⟩ := hd k hlt
      have hx0 := (hbel.cell (p := ⟨b1, o1 + k * 3, none⟩) hb1).trans hc0
      have hx1 := (hbel.cell (p := ⟨b1, o1 + k * 3 + 1, none⟩) hb1).trans hc1
      have hx2 := (hbel.cell (p := ⟨b1, o1 + k * 3 + 2, none⟩) hb1).trans hc2
      have hy0 := (hbel.cell (p := ⟨b2, o2 + k * 3, none⟩) hb2).trans hd0
      have hy1 := (hbel.cell (p := ⟨b2, o2 + k * 3 + 1, none⟩) hb2).trans hd1
      have hy2 := (hbel.cell (p := ⟨b2, o2 + k * 3 + 2, none⟩) hb2).trans hd2
      have HM := Lib.hid (mk_rdActivity_t (w := wr.drew) (d := xs[k]) (Tr.rd_below hbel.drew (Nat.le_refl _) _ _ r2))
      have HN := Lib.hid (mk_rdActivity_t (w := wr.drew) (d := xs[k]) (Tr.rd_below hbel.drew (Nat.le_refl _) _ _ s2))
      clear hc hd hc0 hd0 hc1 hd1 hc2 hd2 r2 s2
      have HB := Lib.hid hbel
      clear hbel
      generalize xs[k] = m at hx0 hy0 hx1 hy1 hx2 hy2 HM HN
      go_wp2
      go_region_with (go_at_call 64; refine (eqActivity_t m _ _ _ (by exact HM.out) (by exact HN.out)).mono ?_; rintro e w1 ⟨rfl, hb3⟩)
      all_goals
        go_wp2
        go_roundw
        case rel => exact ⟨k + 1, by omega, by go_num, HB.out.drew.trans (hb3.mono HB.out.size)⟩
        case measure => simp [intOf]; omega
    · have hge : ¬ (k : Int) < (xs.length : Int) := by omega
      have HB := Lib.hid hbel
      clear hbel
      go_wp2
      go_ret
      exact ⟨rfl, HB.out⟩

set_option maxRecDepth 100000 in
set_option maxHeartbeats 1000000 in
theorem toActivity_t (d : Ac) (v : Value) (w : World) (hv : (trA d).rd w v) (hl : (trA d).sz ≤ 1073741824) :
    Calls Tryz.prog 52 #[v] w fun e w' => ∃ u F, e = .returned u ∧ (trA d).own w' w.heap.size u F ∧ F.Nodup ∧ Below w.heap.size w w' := by
  obtain ⟨A2, c2, rfl, r2⟩ := rdActivity_t hv
  clear hv
  have R2 := Lib.hid r2
  clear r2
  have hz : (trA d).sz = d.nm.size + (0 + ((trMs d.ms).sz + 0)) := rfl
  have hl2 : (trMs d.ms).sz ≤ 1073741824 := by omega
  clear hz hl
  have S0 := Lib.hid ((((Sn.start w).box 79 [.string d.nm, .int .i64 d.fa, .slice A2 d.ms.length c2]).box 89 [.string ⟨#[]⟩, .int .i64 0, .slice none 0 0]).box 89 [.string d.nm, .int .i64 d.fa, .slice none 0 0])
  simp only [World.size_alloc] at S0
  go_enter Tryz.func52, Tryz.ntmps52
  go_wp2_with fail
  refine (toModeS_t d.ms _ _ (by exact S0.out.old R2.out) hl2).mono ?_
  rintro e w1 ⟨u2, F2, rfl, o, h, b⟩
  obtain ⟨U2, n2, rfl⟩ := rows_slice (Tr.own_rd _ _ _ o)
  have S1 := Lib.hid (S0.out.new o h b)
  clear S0 o h b
  obtain ⟨e0, e1, e2, ef⟩ := (S1.out.bk 3 rfl).c3
  obtain ⟨g0, g1, g2, gf⟩ := (S1.out.bk 1 rfl).c3
  obtain ⟨z0, z1, z2, zf⟩ := (S1.out.bk 2 rfl).c3
  go_wp2
  clear e0 e1 e2 ef g0 g1 g2 gf
  have SZ := (((S1.out.boxSet 1 rfl 2 (.slice U2 d.ms.length n2)).boxSet 2 rfl 0 (.string d.nm)).boxSet 2 rfl 1 (.int .i64 d.fa)).boxSet 2 rfl 2 (.slice U2 d.ms.length n2)
  have P := SZ.nil0
  have P := (P.pick 1 rfl).pack
  have P := P.pack1 (.int .i64 d.fa)
  have P := P.pack1 (.string d.nm)
  refine bodyPost_ret (v := .agg #[.string d.nm, .int .i64 d.fa, .slice U2 d.ms.length n2]) (by simp [results, Tryz.results52, go_sem, z0, z1, z2]) rfl ⟨_, _, rfl, (P.own 0 rfl).1, (P.own 0 rfl).2, P.1⟩

theorem infoActivity_t : (Tryz.prog.info? 89).map (fun i => (i.zero, i.size, i.bytes)) = some (some (.agg #[.string ⟨#[]⟩, .int .i64 0, .slice none 0 0]), 3, 48) := by kernel_rfl

set_option maxRecDepth 100000 in
set_option maxHeartbeats 1000000 in
theorem toActivityS_t (xs : List Ac) (v : Value) (w : World) (hv : (trAs xs).rd w v) (hl : (trAs xs).sz ≤ 1073741824) :
    Calls Tryz.prog 25 #[v] w fun e w' => ∃ u F, e = .returned u ∧ (trAs xs).own w' w.heap.size u F ∧ F.Nodup ∧ Below w.heap.size w w' := by
  obtain ⟨hla, A, c, rfl, ga⟩ := rdActivityS_t hv
  have GA := Lib.hid ga
  clear ga hv
  have hsz : (trAs xs).sz = xs.length + szL (xs.flatMap cellsA) := rfl
  rw [hsz] at hl
  clear hsz
  obtain ⟨i0, hi, hz0, hz1, hz2⟩ := info_parts infoActivity_t
  go_enter Tryz.func25, Tryz.ntmps25
  go_wp2_with (at_make; refine wpList_make_full _ rfl _ _ 32 rfl w.heap.size 89 i0 (.agg #[.string ⟨#[]⟩, .int .i64 0, .slice none 0 0]) 3 Tryz.underlying32 hi hz0 hz1 .i64 .i64 _ _ xs.length rfl rfl rfl rfl (by rw [hz2]; omega) (by unfold maxLen; omega) (Nat.le_refl _) ?_; intro w1 hown1 hgrow1)
  have hbel1 : Below w.heap.size w w1 := (Below.refl _ _).grown hgrow1 (Nat.le_refl _) (by simp)
  have hm := hown1.1
  generalize hms : (madeCells _ (xs.length * 3)).toList = raw at hown1 hm
  have HM := Lib.hid hm
  have HO := Lib.hid hown1
  clear hm hms hgrow1 hown1
  go_loopw [4] (fun i wr => ∃ k : Nat, k ≤ xs.length ∧ i = .int .i64 k ∧ (∃ F, RowAt wr w.heap.size 89 3 xs.length w.heap.size xs.length (mixR cellsA 3 raw xs k) F) ∧ Below w.heap.size w wr) (fun i _ => xs.length - (intOf i).toNat)
  case atStart => exact ⟨0, Nat.zero_le _, rfl, ⟨_, by rw [mixR_zero]; exact row_made HO.out⟩, hbel1⟩
  case round =>
    obtain ⟨k, hk, rfl, ⟨F, how⟩, hbel⟩ := hrel
    by_cases hlt : k < xs.length
    · have hlt' : (k : Int) < (xs.length : Int) := by omega
      obtain ⟨b, o, rfl, hb, hc⟩ := GA.out k hlt
      obtain ⟨A2, c2, hc0, hc1, hc2, r2⟩ := hc k hlt
      have hx0 := (hbel.cell (p := ⟨b, o + k * 3, none⟩) hb).trans hc0
      have hx1 := (hbel.cell (p := ⟨b, o + k * 3 + 1, none⟩) hb).trans hc1
      have hx2 := (hbel.cell (p := ⟨b, o + k * 3 + 2, none⟩) hb).trans hc2
      have hse := szL_flat_at (f := cellsA) hlt
      have HRD := Lib.hid (mk_rdActivity_t (w := wr) (d := xs[k]) (Tr.rd_below hbel (Nat.le_refl _) _ _ r2))
      have hle : (trA xs[k]).sz ≤ 1073741824 := by
        have : (trA xs[k]).sz = szL (cellsA xs[k]) := rfl
        omega
      have HST := Lib.hid (mixR_set cellsA_len HM.out hlt)
      have HLEN := Lib.hid (mixR_len cellsA_len HM.out hk)
      clear hc hse hc0 hc1 hc2 r2
      generalize xs[k] = m at hx0 hx1 hx2 HRD HST hle
      have HB := Lib.hid hbel
      have HW := Lib.hid how
      clear hbel how
      go_wp2_with fail
      refine (toActivity_t m _ _ HRD.out hle).mono ?_
      rintro e w2 ⟨u, H, rfl, ho, hn, hb2⟩
      obtain ⟨U2, n2, rfl, _⟩ := rdActivity_t (Tr.own_rd _ _ _ ho)
      have how2 := HW.out.below hb2 (Nat.le_refl _)
      have hcl : (mixR cellsA 3 raw xs k).length = xs.length * 3 := HLEN.out
      obtain ⟨y0, hy0⟩ := how2.some (i := k * 3) (by omega)
      obtain ⟨y1, hy1⟩ := how2.some (i := k * 3 + 1) (by omega)
      obtain ⟨y2, hy2⟩ := how2.some (i := k * 3 + 2) (by omega)
      have hf := how2.frozen
      have hgw := how2.lt.2
      have hw0 := HW.out.lt.2
      obtain ⟨vs, hvs, hoL⟩ := ho
      obtain rfl : vs = [.string m.nm, .int .i64 m.fa, .slice U2 m.ms.length n2] := by
        injection hvs with hvs
        exact (congrArg Array.toList hvs).symm
      obtain ⟨F', hp, _⟩ := RowAt.putL (K := wr.heap.size) HB.out.size hw0 (cellsA m) _ w2 _ F H (k * 3) how2 (by rw [cellsA_len]; omega) hoL hn (fun j hj hj2 => by
        have h1 := (ownL_lt _ _ _ hoL j hj).1
        have h2 := (HW.out.allLt j hj2).2
        omega)
      rw [HST.out] at hp
      have HP := Lib.hid hp
      have HBZ := Lib.hid (setL_below (Nat.le_refl _) [.string m.nm, .int .i64 m.fa, .slice U2 m.ms.length n2] w2 (k * 3) (HB.out.trans (hb2.mono HB.out.size)))
      clear hp hoL how2 hb2 hn hcl hvs
      go_wp2
      go_roundw
      case rel => exact ⟨k + 1, by omega, by go_num, ⟨F', HP.out⟩, HBZ.out⟩
      case measure => simp [intOf]; omega
    · have hge : ¬ (k : Int) < (xs.length : Int) := by omega
      obtain rfl : k = xs.length := by omega
      rw [mixR_full HM.out] at how
      have HW := Lib.hid how
      have HB := Lib.hid hbel
      clear how hbel
      go_wp2
      go_ret
      exact ⟨_, rfl, F, HW.out.1, HW.out.2, HB.out⟩

set_option maxRecDepth 100000 in
set_option maxHeartbeats 2000000 in
theorem markActivityS_t (k B : Nat) (xs : List Ac) (v : Value) (F : List Nat) (w : World) (hown : (trAs xs).own w B v F) (hn : F.Nodup) (h0 : 0 < k) (hk : k + (trAs xs).cnt ≤ 1000000000) :
    Calls Tryz.prog 42 #[v, .int .i64 k] w fun e w' => ∃ F', e = .returned (.int .i64 (k + (trAs xs).cnt : Nat)) ∧ ((trAs xs).mkd k).own w' B v F' ∧ F'.Nodup ∧ (∀ x ∈ F', x ∈ F) ∧ Wr F w w' := by
  rcases own_form hown with ⟨rfl, hl⟩ | ⟨g, cap, rfl, hcap, hmx⟩
  · obtain rfl : xs = [] := List.eq_nil_of_length_eq_zero hl
    have HO := Lib.hid hown
    have HN := Lib.hid hn
    clear hown hn hl
    go_enter Tryz.func42, Tryz.ntmps42
    go_wp2
    refine wp_loop_rounds 1 ?_
    rw [rounds_succ]
    go_wp2
    go_ret
    first | exact ⟨rfl, F, HO.out, HN.out, fun _ h => h, Wr.refl _ _⟩ | exact ⟨F, rfl, HO.out, HN.out, fun _ h => h, Wr.refl _ _⟩
  have HO := Lib.hid (show RowAt w B 89 3 xs.length g cap (xs.flatMap cellsA) F from ⟨hown, hn⟩)
  clear hown hn
  have hC : (trAs xs).cnt = cntL (xs.flatMap cellsA) := rfl
  rw [hC] at hk ⊢
  clear hC
  go_enter Tryz.func42, Tryz.ntmps42
  go_wp2
  go_loopw [1, 5] (fun q i wr => ∃ j : Nat, j ≤ xs.length ∧ i = .int .i64 j ∧ q = .int .i64 (k + cntL ((xs.flatMap cellsA).take (j * 3)) : Nat) ∧ (∃ F', RowAt wr B 89 3 xs.length g cap (mixC k (xs.flatMap cellsA) (j * 3)) F' ∧ ∀ x ∈ F', x ∈ F) ∧ Wr F w wr) (fun _ i _ => xs.length - (intOf i).toNat)
  case atStart => exact ⟨0, Nat.zero_le _, rfl, by simp [cntL], ⟨F, by rw [Nat.zero_mul]; rw [mixC_zero]; exact HO.out, fun _ h => h⟩, Wr.refl _ _⟩
  case round =>
    obtain ⟨j, hj, rfl, rfl, ⟨F1, how, hsub⟩, hwr⟩ := hrel
    by_cases hlt : j < xs.length
    · have hlt' : (j : Int) < (xs.length : Int) := by omega
      have t0 : (xs.flatMap cellsA)[j * 3]? = some (.one (.string xs[j].nm)) := by simpa [cellsA] using flatMap_get cellsA_len xs j hlt 0 (by omega)
      have a0 : cntL ((xs.flatMap cellsA).take (j * 3 + 1)) = cntL ((xs.flatMap cellsA).take (j * 3)) + 1 := cntL_take t0
      have t1 : (xs.flatMap cellsA)[j * 3 + 1]? = some (.one (.int .i64 xs[j].fa)) := by simpa [cellsA] using flatMap_get cellsA_len xs j hlt 1 (by omega)
      have a1 : cntL ((xs.flatMap cellsA).take (j * 3 + 2)) = cntL ((xs.flatMap cellsA).take (j * 3 + 1)) + 1 := cntL_take t1
      have t2 : (xs.flatMap cellsA)[j * 3 + 2]? = some (trMs xs[j].ms) := by simpa [cellsA] using flatMap_get cellsA_len xs j hlt 2 (by omega)
      have a2 : cntL ((xs.flatMap cellsA).take (j * 3 + 3)) = cntL ((xs.flatMap cellsA).take (j * 3 + 2)) + (trMs xs[j].ms).cnt := cntL_take t2
      have hle := cntL_le (xs.flatMap cellsA) (j * 3 + 3)
      generalize hQ : k + cntL ((xs.flatMap cellsA).take (j * 3)) = Q
      have e0 : k + cntL ((xs.flatMap cellsA).take (j * 3)) = Q := by omega
      have e1 : k + cntL ((xs.flatMap cellsA).take (j * 3 + 1)) = Q + 1 := by omega
      have e2 : k + cntL ((xs.flatMap cellsA).take (j * 3 + 2)) = Q + 1 + 1 := by omega
      have e3 : k + cntL ((xs.flatMap cellsA).take (j * 3 + 3)) = Q + 1 + 1 + (trMs xs[j].ms).cnt := by omega
      have hbd : Q + 1 + 1 + (trMs xs[j].ms).cnt ≤ 1000000000 := by omega
      have hQ0 : 0 < Q := by omega
      clear hle a0 a1 a2
      have T0 := Lib.hid t0
      clear t0
      have T1 := Lib.hid t1
      clear t1
      have T2 := Lib.hid t2
      clear t2
      have E0 := Lib.hid e0
      clear e0
      have E1 := Lib.hid e1
      clear e1
      have E2 := Lib.hid e2
      clear e2
      have E3 := Lib.hid e3
      clear e3
      have HQ := Lib.hid hQ
      clear hQ
      have hlen := how.len
      rw [mixC_len] at hlen
      have hjs : j * 3 + 3 ≤ xs.length * 3 := by omega
      have HN_ := Lib.hid (show ((j + 1) * 3 = j * 3 + 3) from by omega)
      have HOW0 := Lib.hid how
      have HSUB0 := Lib.hid hsub
      have HWR0 := Lib.hid hwr
      clear how hsub hwr
      obtain ⟨z0, hz0⟩ := HOW0.out.some (i := j * 3) (by rw [mixC_len]; omega)
      obtain ⟨z1, hz1⟩ := HOW0.out.some (i := j * 3 + 1) (by rw [mixC_len]; omega)
      obtain ⟨x2, hz2, hr2⟩ := rowAt_peek HOW0.out (i := j * 3 + 2) (by omega) T2.out
      obtain ⟨A2, c2, rfl⟩ := rows_slice hr2
      clear hr2
      have hf := HOW0.out.frozen
      have hgw := HOW0.out.lt.2
      go_wp2_with fail
      clear hf hgw hz0 hz1 hz2
      refine (markText_any (Q) _ (by omega) (by omega)).mono ?_
      rintro e ws0 ⟨rfl, b⟩
      have HOW1 := Lib.hid (HOW0.out.below b (Nat.le_refl _))
      have HSUB1 := HSUB0
      have HWR1 := Lib.hid (HWR0.out.trans (Wr.of_below b (Nat.le_refl _)))
      clear HOW0 HWR0 HSUB0 b
      obtain ⟨z0, hz0⟩ := HOW1.out.some (i := j * 3) (by rw [mixC_len]; omega)
      obtain ⟨z1, hz1⟩ := HOW1.out.some (i := j * 3 + 1) (by rw [mixC_len]; omega)
      obtain ⟨x2, hz2, hr2⟩ := rowAt_peek HOW1.out (i := j * 3 + 2) (by omega) T2.out
      obtain ⟨A2, c2, rfl⟩ := rows_slice hr2
      clear hr2
      have hf := HOW1.out.frozen
      have hgw := HOW1.out.lt.2
      obtain ⟨G0, m0, ms0, mw0⟩ := rowAt_mark1 HOW1.out T0.out (y := .string (mtxt (Q))) (by show Value.string (mtxt (k + cntL _)) = _; rw [E0.out])
      have HOW2 := Lib.hid m0
      have HSUB2 := Lib.hid (fun x hx => HSUB1.out x (ms0 x hx))
      have HWR2 := Lib.hid (HWR1.out.trans (mw0.sub (fun x hx => HSUB1.out x hx)))
      clear m0 ms0 mw0 HOW1 HSUB1 HWR1
      obtain ⟨G1, m1, ms1, mw1⟩ := rowAt_mark1 HOW2.out T1.out (y := .int .i64 ((Q + 1 : Nat) : Int)) (by show Value.int .i64 ((k + cntL _ : Nat) : Int) = _; rw [E1.out])
      have HOW3 := Lib.hid m1
      have HSUB3 := Lib.hid (fun x hx => HSUB2.out x (ms1 x hx))
      have HWR3 := Lib.hid (HWR2.out.trans (mw1.sub (fun x hx => HSUB2.out x hx)))
      clear m1 ms1 mw1 HOW2 HSUB2 HWR2
      obtain ⟨x2, H2, hx2, ho2, hn2, hs2, back2⟩ := rowAt_markR HOW3.out T2.out
      rw [E2.out] at back2
      obtain rfl : .slice A2 xs[j].ms.length c2 = x2 := Option.some.inj (((cell_set1 (by omega)).trans ((cell_set1 (by omega)).trans (hz2))).symm.trans hx2)
      have HO2 := Lib.hid ho2
      have BK2 := Lib.hid back2
      have HS2 := Lib.hid hs2
      clear hx2 ho2 hs2 back2
      go_wp2_with fail
      clear hf hgw hz0 hz1 hz2
      refine (markModeS_t (Q + 1 + 1) B xs[j].ms _ H2 _ (by exact HO2.out) hn2 (by omega) (by omega)).mono ?_
      rintro e w2_ ⟨K2, rfl, o, h, hs, hw⟩
      obtain ⟨G2, m2, ms2, mw2⟩ := BK2.out _ K2 o h hs hw
      have HOW4 := Lib.hid m2
      have HSUB4 := Lib.hid (fun x hx => HSUB3.out x (ms2 x hx))
      have HWR4 := Lib.hid (HWR3.out.trans (mw2.sub (fun x hx => HSUB3.out x hx)))
      clear m2 ms2 mw2 HOW3 HSUB3 HWR3 o h hs hw hn2 HO2 BK2 HS2
      have HF := Lib.hid (show RowAt _ B 89 3 xs.length g cap (mixC k (xs.flatMap cellsA) ((j + 1) * 3)) _ from by rw [HN_.out]; exact HOW4.out)
      have HC := Lib.hid (show k + cntL ((xs.flatMap cellsA).take ((j + 1) * 3)) = Q + 1 + 1 + (trMs xs[j].ms).cnt from by rw [HN_.out]; exact E3.out)
      go_wp2
      go_roundw
      case rel => exact ⟨j + 1, by omega, by go_num, by rw [HC.out]; rfl, ⟨_, HF.out, HSUB4.out⟩, HWR4.out⟩
      case measure => simp [intOf]; omega
    · have hge : ¬ (j : Int) < (xs.length : Int) := by omega
      obtain rfl : j = xs.length := by omega
      have hfl := flatMap_len cellsA_len xs
      rw [mixC_full k _ (by omega)] at how
      rw [List.take_of_length_le (by omega)]
      have HW := Lib.hid how
      have HB := Lib.hid hwr
      have HS := Lib.hid hsub
      clear how hwr hsub hfl
      go_wp2
      go_ret
      first | exact ⟨rfl, F1, HW.out.1, HW.out.2, HS.out, HB.out⟩ | exact ⟨F1, rfl, HW.out.1, HW.out.2, HS.out, HB.out⟩

end Go.Proofs.YtgbpomakomddjabGreatDoor
end

section
namespace Go.Proofs.YtgbpomakomddjabGreatDoor
open Go.RowKit
set_option linter.unusedVariables false

theorem thin_LinkL (d : Lk) : thinL (cellsL d) := ⟨trivial, trivial, trivial, trivial, trivial⟩
theorem thin_LinkS (xs : List Lk) : (trLs xs).thins := thin_rows cellsL_len (by omega) thin_LinkL xs
theorem szL_Link0 : ∀ xs : List Lk, szL (xs.flatMap cellsL) = 0
  | [] => rfl
  | x :: xs => by rw [List.flatMap_cons, szL_app, szL_Link0 xs]; rfl

set_option maxRecDepth 100000 in
set_option maxHeartbeats 1000000 in
theorem szLinkS_t (xs : List Lk) (v : Value) (left : Int) (w : World) (hr : (trLs xs).rd w v) (hk : (trLs xs).ok) (h0 : 0 ≤ left) (h3 : left ≤ 1048576) :
    Calls Tryz.prog 19 #[v, .int .i64 left] w fun e w' => e = .returned (.int .i64 (if left < (trLs xs).sz then -1 else left - (trLs xs).sz)) ∧ Below w.heap.size w w' := by
  obtain ⟨hl, A, c, rfl, ga⟩ := rdLinkS_t hr
  have GA := Lib.hid ga
  clear ga hr
  have HZ := Lib.hid (show (trLs xs).sz = xs.length + szL (xs.flatMap cellsL) from rfl)
  generalize (trLs xs).sz = Z at HZ ⊢
  generalize hres : (if left < (Z : Int) then -1 else left - (Z : Int)) = res
  have RES := Lib.hid hres
  clear hres
  have hflat : szL (xs.flatMap cellsL) = 0 := szL_Link0 xs
  by_cases hn : left < (xs.length : Int)
  · have hn' : left - (xs.length : Int) < 0 := by omega
    go_enter Tryz.func19, Tryz.ntmps19
    go_wp2
    go_ret
    exact ⟨ret_numZ (by rw [← RES.out, if_pos (by have := HZ.out; omega)]), Below.refl _ _⟩
  · have hn' : ¬ left - (xs.length : Int) < 0 := by omega
    go_enter Tryz.func19, Tryz.ntmps19
    go_wp2
    go_ret
    exact ⟨ret_numZ (by rw [← RES.out, if_neg (by have := HZ.out; omega)]; have := HZ.out; omega), Below.refl _ _⟩

set_option maxRecDepth 100000 in
set_option maxHeartbeats 1000000 in
theorem eqLink_t (d : Lk) (v u : Value) (w : World) (hv : (trLk d).rd w v) (hu : (trLk d).rd w u) :
    Calls Tryz.prog 65 #[v, u] w fun e w' => e = .returned (.bool true) ∧ Below w.heap.size w w' := by
  obtain rfl := rdLink_t hv
  obtain rfl := rdLink_t hu
  clear hv hu
  have S0 := Lib.hid (((Sn.start w).box 93 [.int .i64 d.fr, .int .i64 d.to, .bool d.fe, .int .i64 d.lag]).box 93 [.int .i64 d.fr, .int .i64 d.to, .bool d.fe, .int .i64 d.lag])
  simp only [World.size_alloc] at S0
  go_enter Tryz.func65, Tryz.ntmps65
  go_wp2
  go_ret
  exact ⟨rfl, S0.out.1⟩

set_option maxRecDepth 100000 in
set_option maxHeartbeats 1000000 in
theorem eqLinkS_t (xs : List Lk) (v u : Value) (w : World) (hv : (trLs xs).rd w v) (hu : (trLs xs).rd w u) :
    Calls Tryz.prog 34 #[v, u] w fun e w' => e = .returned (.bool true) ∧ Below w.heap.size w w' := by
  obtain ⟨hl, A, c, rfl, ga⟩ := rdLinkS_t hv
  obtain ⟨_, B, c2, rfl, gb⟩ := rdLinkS_t hu
  have GA := Lib.hid ga
  have GB := Lib.hid gb
  clear ga gb hv hu
  go_enter Tryz.func34, Tryz.ntmps34
  go_wp2
  go_loopw [5] (fun i wr => ∃ k : Nat, k ≤ xs.length ∧ i = .int .i64 k ∧ Below w.heap.size w wr) (fun i _ => xs.length - (intOf i).toNat)
  case atStart => exact ⟨0, Nat.zero_le _, rfl, Below.refl _ _⟩
  case round =>
    obtain ⟨k, hk, rfl, hbel⟩ := hrel
    by_cases hlt : k < xs.length
    · have hlt' : (k : Int) < (xs.length : Int) := by omega
      obtain ⟨b1, o1, rfl, hb1, hc⟩ := GA.out k hlt
      obtain ⟨b2, o2, rfl, hb2, hd⟩ := GB.out k hlt
      obtain ⟨hc0, hc1, hc2, hc3⟩ := hc k hlt
      obtain ⟨hd0, hd1, hd2, hd3⟩ := hd k hlt
      have hx0 := (hbel.cell (p := ⟨b1, o1 + k * 4, none⟩) hb1).trans hc0
      have hx1 := (hbel.cell (p := ⟨b1, o1 + k * 4 + 1, none⟩) hb1).trans hc1
      have hx2 := (hbel.cell (p := ⟨b1, o1 + k * 4 + 2, none⟩) hb1).trans hc2
      have hx3 := (hbel.cell (p := ⟨b1, o1 + k * 4 + 3, none⟩) hb1).trans hc3
      have hy0 := (hbel.cell (p := ⟨b2, o2 + k * 4, none⟩) hb2).trans hd0
      have hy1 := (hbel.cell (p := ⟨b2, o2 + k * 4 + 1, none⟩) hb2).trans hd1
      have hy2 := (hbel.cell (p := ⟨b2, o2 + k * 4 + 2, none⟩) hb2).trans hd2
      have hy3 := (hbel.cell (p := ⟨b2, o2 + k * 4 + 3, none⟩) hb2).trans hd3
      have HM := Lib.hid (mk_rdLink_t (w := wr.drew) (d := xs[k]) )
      have HN := Lib.hid (mk_rdLink_t (w := wr.drew) (d := xs[k]) )
      clear hc hd hc0 hd0 hc1 hd1 hc2 hd2 hc3 hd3 
      have HB := Lib.hid hbel
      clear hbel
      generalize xs[k] = m at hx0 hy0 hx1 hy1 hx2 hy2 hx3 hy3 HM HN
      go_wp2
      go_region_with (go_at_call 65; refine (eqLink_t m _ _ _ (by exact HM.out) (by exact HN.out)).mono ?_; rintro e w1 ⟨rfl, hb3⟩)
      all_goals
        go_wp2
        go_roundw
        case rel => exact ⟨k + 1, by omega, by go_num, HB.out.drew.trans (hb3.mono HB.out.size)⟩
        case measure => simp [intOf]; omega
    · have hge : ¬ (k : Int) < (xs.length : Int) := by omega
      have HB := Lib.hid hbel
      clear hbel
      go_wp2
      go_ret
      exact ⟨rfl, HB.out⟩

set_option maxRecDepth 100000 in
set_option maxHeartbeats 1000000 in
theorem toLink_t (d : Lk) (v : Value) (w : World) (hv : (trLk d).rd w v) (hl : (trLk d).sz ≤ 1073741824) :
    Calls Tryz.prog 53 #[v] w fun e w' => ∃ u F, e = .returned u ∧ (trLk d).own w' w.heap.size u F ∧ F.Nodup ∧ Below w.heap.size w w' := by
  obtain rfl := rdLink_t hv
  clear hv hl
  go_enter Tryz.func53, Tryz.ntmps53
  go_wp2
  refine bodyPost_ret (v := .agg #[.int .i64 d.fr, .int .i64 d.to, .bool d.fe, .int .i64 d.lag]) (by simp [results, Tryz.results53, go_sem]) rfl ⟨_, [], rfl, ⟨_, rfl, ownL_ones (xs := [.int .i64 d.fr, .int .i64 d.to, .bool d.fe, .int .i64 d.lag]) |>.2 ⟨rfl, rfl⟩⟩, by simp, ?_⟩
  repeat (first | exact Below.refl _ _ | refine Below.setCell ?_ (by simp) _ | refine Below.alloc ?_ (by first | (simp; done) | (simp; omega)) _)

theorem infoLink_t : (Tryz.prog.info? 93).map (fun i => (i.zero, i.size, i.bytes)) = some (some (.agg #[.int .i64 0, .int .i64 0, .bool false, .int .i64 0]), 4, 32) := by kernel_rfl

set_option maxRecDepth 100000 in
set_option maxHeartbeats 1000000 in
theorem toLinkS_t (xs : List Lk) (v : Value) (w : World) (hv : (trLs xs).rd w v) (hl : (trLs xs).sz ≤ 1073741824) :
    Calls Tryz.prog 26 #[v] w fun e w' => ∃ u F, e = .returned u ∧ (trLs xs).own w' w.heap.size u F ∧ F.Nodup ∧ Below w.heap.size w w' := by
  obtain ⟨hla, A, c, rfl, ga⟩ := rdLinkS_t hv
  have GA := Lib.hid ga
  clear ga hv
  have hsz : (trLs xs).sz = xs.length + szL (xs.flatMap cellsL) := rfl
  rw [hsz] at hl
  clear hsz
  obtain ⟨i0, hi, hz0, hz1, hz2⟩ := info_parts infoLink_t
  go_enter Tryz.func26, Tryz.ntmps26
  go_wp2_with (at_make; refine wpList_make_full _ rfl _ _ 33 rfl w.heap.size 93 i0 (.agg #[.int .i64 0, .int .i64 0, .bool false, .int .i64 0]) 4 Tryz.underlying33 hi hz0 hz1 .i64 .i64 _ _ xs.length rfl rfl rfl rfl (by rw [hz2]; omega) (by unfold maxLen; omega) (Nat.le_refl _) ?_; intro w1 hown1 hgrow1)
  have hbel1 : Below w.heap.size w w1 := (Below.refl _ _).grown hgrow1 (Nat.le_refl _) (by simp)
  have hm := hown1.1
  generalize hms : (madeCells _ (xs.length * 4)).toList = raw at hown1 hm
  have HM := Lib.hid hm
  have HO := Lib.hid hown1
  clear hm hms hgrow1 hown1
  go_loopw [4] (fun i wr => ∃ k : Nat, k ≤ xs.length ∧ i = .int .i64 k ∧ (∃ F, RowAt wr w.heap.size 93 4 xs.length w.heap.size xs.length (mixR cellsL 4 raw xs k) F) ∧ Below w.heap.size w wr) (fun i _ => xs.length - (intOf i).toNat)
  case atStart => exact ⟨0, Nat.zero_le _, rfl, ⟨_, by rw [mixR_zero]; exact row_made HO.out⟩, hbel1⟩
  case round =>
    obtain ⟨k, hk, rfl, ⟨F, how⟩, hbel⟩ := hrel
    by_cases hlt : k < xs.length
    · have hlt' : (k : Int) < (xs.length : Int) := by omega
      obtain ⟨b, o, rfl, hb, hc⟩ := GA.out k hlt
      obtain ⟨hc0, hc1, hc2, hc3⟩ := hc k hlt
      have hx0 := (hbel.cell (p := ⟨b, o + k * 4, none⟩) hb).trans hc0
      have hx1 := (hbel.cell (p := ⟨b, o + k * 4 + 1, none⟩) hb).trans hc1
      have hx2 := (hbel.cell (p := ⟨b, o + k * 4 + 2, none⟩) hb).trans hc2
      have hx3 := (hbel.cell (p := ⟨b, o + k * 4 + 3, none⟩) hb).trans hc3
      have hse := szL_flat_at (f := cellsL) hlt
      have HRD := Lib.hid (mk_rdLink_t (w := wr) (d := xs[k]) )
      have hle : (trLk xs[k]).sz ≤ 1073741824 := by
        have : (trLk xs[k]).sz = szL (cellsL xs[k]) := rfl
        omega
      have HST := Lib.hid (mixR_set cellsL_len HM.out hlt)
      have HLEN := Lib.hid (mixR_len cellsL_len HM.out hk)
      clear hc hse hc0 hc1 hc2 hc3 
      generalize xs[k] = m at hx0 hx1 hx2 hx3 HRD HST hle
      have HB := Lib.hid hbel
      have HW := Lib.hid how
      clear hbel how
      go_wp2_with fail
      refine (toLink_t m _ _ HRD.out hle).mono ?_
      rintro e w2 ⟨u, H, rfl, ho, hn, hb2⟩
      obtain rfl := rdLink_t (Tr.own_rd _ _ _ ho)
      have how2 := HW.out.below hb2 (Nat.le_refl _)
      have hcl : (mixR cellsL 4 raw xs k).length = xs.length * 4 := HLEN.out
      obtain ⟨y0, hy0⟩ := how2.some (i := k * 4) (by omega)
      obtain ⟨y1, hy1⟩ := how2.some (i := k * 4 + 1) (by omega)
      obtain ⟨y2, hy2⟩ := how2.some (i := k * 4 + 2) (by omega)
      obtain ⟨y3, hy3⟩ := how2.some (i := k * 4 + 3) (by omega)
      have hf := how2.frozen
      have hgw := how2.lt.2
      have hw0 := HW.out.lt.2
      obtain ⟨vs, hvs, hoL⟩ := ho
      obtain rfl : vs = [.int .i64 m.fr, .int .i64 m.to, .bool m.fe, .int .i64 m.lag] := by
        injection hvs with hvs
        exact (congrArg Array.toList hvs).symm
      obtain ⟨F', hp, _⟩ := RowAt.putL (K := wr.heap.size) HB.out.size hw0 (cellsL m) _ w2 _ F H (k * 4) how2 (by rw [cellsL_len]; omega) hoL hn (fun j hj hj2 => by
        have h1 := (ownL_lt _ _ _ hoL j hj).1
        have h2 := (HW.out.allLt j hj2).2
        omega)
      rw [HST.out] at hp
      have HP := Lib.hid hp
      have HBZ := Lib.hid (setL_below (Nat.le_refl _) [.int .i64 m.fr, .int .i64 m.to, .bool m.fe, .int .i64 m.lag] w2 (k * 4) (HB.out.trans (hb2.mono HB.out.size)))
      clear hp hoL how2 hb2 hn hcl hvs
      go_wp2
      go_roundw
      case rel => exact ⟨k + 1, by omega, by go_num, ⟨F', HP.out⟩, HBZ.out⟩
      case measure => simp [intOf]; omega
    · have hge : ¬ (k : Int) < (xs.length : Int) := by omega
      obtain rfl : k = xs.length := by omega
      rw [mixR_full HM.out] at how
      have HW := Lib.hid how
      have HB := Lib.hid hbel
      clear how hbel
      go_wp2
      go_ret
      exact ⟨_, rfl, F, HW.out.1, HW.out.2, HB.out⟩

set_option maxRecDepth 100000 in
set_option maxHeartbeats 2000000 in
theorem markLinkS_t (k B : Nat) (xs : List Lk) (v : Value) (F : List Nat) (w : World) (hown : (trLs xs).own w B v F) (hn : F.Nodup) (h0 : 0 < k) (hk : k + (trLs xs).cnt ≤ 1000000000) :
    Calls Tryz.prog 43 #[v, .int .i64 k] w fun e w' => ∃ F', e = .returned (.int .i64 (k + (trLs xs).cnt : Nat)) ∧ ((trLs xs).mkd k).own w' B v F' ∧ F'.Nodup ∧ (∀ x ∈ F', x ∈ F) ∧ Wr F w w' := by
  rcases own_form hown with ⟨rfl, hl⟩ | ⟨g, cap, rfl, hcap, hmx⟩
  · obtain rfl : xs = [] := List.eq_nil_of_length_eq_zero hl
    have HO := Lib.hid hown
    have HN := Lib.hid hn
    clear hown hn hl
    go_enter Tryz.func43, Tryz.ntmps43
    go_wp2
    refine wp_loop_rounds 1 ?_
    rw [rounds_succ]
    go_wp2
    go_ret
    first | exact ⟨rfl, F, HO.out, HN.out, fun _ h => h, Wr.refl _ _⟩ | exact ⟨F, rfl, HO.out, HN.out, fun _ h => h, Wr.refl _ _⟩
  have HO := Lib.hid (show RowAt w B 93 4 xs.length g cap (xs.flatMap cellsL) F from ⟨hown, hn⟩)
  clear hown hn
  have hC : (trLs xs).cnt = cntL (xs.flatMap cellsL) := rfl
  rw [hC] at hk ⊢
  clear hC
  go_enter Tryz.func43, Tryz.ntmps43
  go_wp2
  go_loopw [1, 5] (fun q i wr => ∃ j : Nat, j ≤ xs.length ∧ i = .int .i64 j ∧ q = .int .i64 (k + cntL ((xs.flatMap cellsL).take (j * 4)) : Nat) ∧ (∃ F', RowAt wr B 93 4 xs.length g cap (mixC k (xs.flatMap cellsL) (j * 4)) F' ∧ ∀ x ∈ F', x ∈ F) ∧ Wr F w wr) (fun _ i _ => xs.length - (intOf i).toNat)
  case atStart => exact ⟨0, Nat.zero_le _, rfl, by simp [cntL], ⟨F, by rw [Nat.zero_mul]; rw [mixC_zero]; exact HO.out, fun _ h => h⟩, Wr.refl _ _⟩
  case round =>
    obtain ⟨j, hj, rfl, rfl, ⟨F1, how, hsub⟩, hwr⟩ := hrel
    by_cases hlt : j < xs.length
    · have hlt' : (j : Int) < (xs.length : Int) := by omega
      have t0 : (xs.flatMap cellsL)[j * 4]? = some (.one (.int .i64 xs[j].fr)) := by simpa [cellsL] using flatMap_get cellsL_len xs j hlt 0 (by omega)
      have a0 : cntL ((xs.flatMap cellsL).take (j * 4 + 1)) = cntL ((xs.flatMap cellsL).take (j * 4)) + 1 := cntL_take t0
      have t1 : (xs.flatMap cellsL)[j * 4 + 1]? = some (.one (.int .i64 xs[j].to)) := by simpa [cellsL] using flatMap_get cellsL_len xs j hlt 1 (by omega)
      have a1 : cntL ((xs.flatMap cellsL).take (j * 4 + 2)) = cntL ((xs.flatMap cellsL).take (j * 4 + 1)) + 1 := cntL_take t1
      have t2 : (xs.flatMap cellsL)[j * 4 + 2]? = some (.one (.bool xs[j].fe)) := by simpa [cellsL] using flatMap_get cellsL_len xs j hlt 2 (by omega)
      have a2 : cntL ((xs.flatMap cellsL).take (j * 4 + 3)) = cntL ((xs.flatMap cellsL).take (j * 4 + 2)) + 1 := cntL_take t2
      have t3 : (xs.flatMap cellsL)[j * 4 + 3]? = some (.one (.int .i64 xs[j].lag)) := by simpa [cellsL] using flatMap_get cellsL_len xs j hlt 3 (by omega)
      have a3 : cntL ((xs.flatMap cellsL).take (j * 4 + 4)) = cntL ((xs.flatMap cellsL).take (j * 4 + 3)) + 1 := cntL_take t3
      have hle := cntL_le (xs.flatMap cellsL) (j * 4 + 4)
      generalize hQ : k + cntL ((xs.flatMap cellsL).take (j * 4)) = Q
      have e0 : k + cntL ((xs.flatMap cellsL).take (j * 4)) = Q := by omega
      have e1 : k + cntL ((xs.flatMap cellsL).take (j * 4 + 1)) = Q + 1 := by omega
      have e2 : k + cntL ((xs.flatMap cellsL).take (j * 4 + 2)) = Q + 1 + 1 := by omega
      have e3 : k + cntL ((xs.flatMap cellsL).take (j * 4 + 3)) = Q + 1 + 1 + 1 := by omega
      have e4 : k + cntL ((xs.flatMap cellsL).take (j * 4 + 4)) = Q + 1 + 1 + 1 + 1 := by omega
      have hbd : Q + 1 + 1 + 1 + 1 ≤ 1000000000 := by omega
      have hQ0 : 0 < Q := by omega
      clear hle a0 a1 a2 a3
      have T0 := Lib.hid t0
      clear t0
      have T1 := Lib.hid t1
      clear t1
      have T2 := Lib.hid t2
      clear t2
      have T3 := Lib.hid t3
      clear t3
      have E0 := Lib.hid e0
      clear e0
      have E1 := Lib.hid e1
      clear e1
      have E2 := Lib.hid e2
      clear e2
      have E3 := Lib.hid e3
      clear e3
      have E4 := Lib.hid e4
      clear e4
      have HQ := Lib.hid hQ
      clear hQ
      have hlen := how.len
      rw [mixC_len] at hlen
      have hjs : j * 4 + 4 ≤ xs.length * 4 := by omega
      have HN_ := Lib.hid (show ((j + 1) * 4 = j * 4 + 4) from by omega)
      have HOW0 := Lib.hid how
      have HSUB0 := Lib.hid hsub
      have HWR0 := Lib.hid hwr
      clear how hsub hwr
      obtain ⟨z0, hz0⟩ := HOW0.out.some (i := j * 4) (by rw [mixC_len]; omega)
      obtain ⟨z1, hz1⟩ := HOW0.out.some (i := j * 4 + 1) (by rw [mixC_len]; omega)
      obtain ⟨z2, hz2⟩ := HOW0.out.some (i := j * 4 + 2) (by rw [mixC_len]; omega)
      obtain ⟨z3, hz3⟩ := HOW0.out.some (i := j * 4 + 3) (by rw [mixC_len]; omega)
      have hf := HOW0.out.frozen
      have hgw := HOW0.out.lt.2
      obtain ⟨G0, m0, ms0, mw0⟩ := rowAt_mark1 HOW0.out T0.out (y := .int .i64 ((Q : Nat) : Int)) (by show Value.int .i64 ((k + cntL _ : Nat) : Int) = _; rw [E0.out])
      have HOW1 := Lib.hid m0
      have HSUB1 := Lib.hid (fun x hx => HSUB0.out x (ms0 x hx))
      have HWR1 := Lib.hid (HWR0.out.trans (mw0.sub (fun x hx => HSUB0.out x hx)))
      clear m0 ms0 mw0 HOW0 HSUB0 HWR0
      obtain ⟨G1, m1, ms1, mw1⟩ := rowAt_mark1 HOW1.out T1.out (y := .int .i64 ((Q + 1 : Nat) : Int)) (by show Value.int .i64 ((k + cntL _ : Nat) : Int) = _; rw [E1.out])
      have HOW2 := Lib.hid m1
      have HSUB2 := Lib.hid (fun x hx => HSUB1.out x (ms1 x hx))
      have HWR2 := Lib.hid (HWR1.out.trans (mw1.sub (fun x hx => HSUB1.out x hx)))
      clear m1 ms1 mw1 HOW1 HSUB1 HWR1
      obtain ⟨G2, m2, ms2, mw2⟩ := rowAt_mark1 HOW2.out T2.out (y := .bool (decide (((Q + 1 + 1 : Nat) : Int) % 3 = 0))) (by show Value.bool (decide (((k + cntL _ : Nat) : Int) % 3 = 0)) = _; rw [E2.out])
      have HOW3 := Lib.hid m2
      have HSUB3 := Lib.hid (fun x hx => HSUB2.out x (ms2 x hx))
      have HWR3 := Lib.hid (HWR2.out.trans (mw2.sub (fun x hx => HSUB2.out x hx)))
      clear m2 ms2 mw2 HOW2 HSUB2 HWR2
      obtain ⟨G3, m3, ms3, mw3⟩ := rowAt_mark1 HOW3.out T3.out (y := .int .i64 ((Q + 1 + 1 + 1 : Nat) : Int)) (by show Value.int .i64 ((k + cntL _ : Nat) : Int) = _; rw [E3.out])
      have HOW4 := Lib.hid m3
      have HSUB4 := Lib.hid (fun x hx => HSUB3.out x (ms3 x hx))
      have HWR4 := Lib.hid (HWR3.out.trans (mw3.sub (fun x hx => HSUB3.out x hx)))
      clear m3 ms3 mw3 HOW3 HSUB3 HWR3
      have HF := Lib.hid (show RowAt _ B 93 4 xs.length g cap (mixC k (xs.flatMap cellsL) ((j + 1) * 4)) _ from by rw [HN_.out]; exact HOW4.out)
      have HC := Lib.hid (show k + cntL ((xs.flatMap cellsL).take ((j + 1) * 4)) = Q + 1 + 1 + 1 + 1 from by rw [HN_.out]; exact E4.out)
      go_wp2
      go_roundw
      case rel => exact ⟨j + 1, by omega, by go_num, by rw [HC.out]; rfl, ⟨_, HF.out, HSUB4.out⟩, HWR4.out⟩
      case measure => simp [intOf]; omega
    · have hge : ¬ (j : Int) < (xs.length : Int) := by omega
      obtain rfl : j = xs.length := by omega
      have hfl := flatMap_len cellsL_len xs
      rw [mixC_full k _ (by omega)] at how
      rw [List.take_of_length_le (by omega)]
      have HW := Lib.hid how
      have HB := Lib.hid hwr
      have HS := Lib.hid hsub
      clear how hwr hsub hfl
      go_wp2
      go_ret
      first | exact ⟨rfl, F1, HW.out.1, HW.out.2, HS.out, HB.out⟩ | exact ⟨F1, rfl, HW.out.1, HW.out.2, HS.out, HB.out⟩

end Go.Proofs.YtgbpomakomddjabGreatDoor
end

section
namespace Go.Proofs.YtgbpomakomddjabGreatDoor
open Go.RowKit
set_option linter.unusedVariables false

theorem thin_IntL (d : (List Int)) : thinL (cellsI1 d) := ⟨thin_ints _, trivial⟩
theorem thin_IntSS (xs : List (List Int)) : (trSu xs).thins := thin_rows cellsI1_len (by omega) thin_IntL xs

set_option maxRecDepth 100000 in
set_option maxHeartbeats 1000000 in
theorem szIntSS_t (xs : List (List Int)) (v : Value) (left : Int) (w : World) (hr : (trSu xs).rd w v) (hk : (trSu xs).ok) (h0 : 0 ≤ left) (h3 : left ≤ 1048576) :
    Calls Tryz.prog 80 #[v, .int .i64 left] w fun e w' => e = .returned (.int .i64 (if left < (trSu xs).sz then -1 else left - (trSu xs).sz)) ∧ Below w.heap.size w w' := by
  obtain ⟨hl, A, c, rfl, ga⟩ := rdIntSS_t hr
  have GA := Lib.hid ga
  clear ga hr
  have HZ := Lib.hid (show (trSu xs).sz = xs.length + szL (xs.flatMap cellsI1) from rfl)
  generalize (trSu xs).sz = Z at HZ ⊢
  generalize hres : (if left < (Z : Int) then -1 else left - (Z : Int)) = res
  have RES := Lib.hid hres
  clear hres
  by_cases hn : left < (xs.length : Int)
  · have hn' : left - (xs.length : Int) < 0 := by omega
    go_enter Tryz.func80, Tryz.ntmps80
    go_wp2
    go_ret
    exact ⟨ret_numZ (by rw [← RES.out, if_pos (by have := HZ.out; omega)]), Below.refl _ _⟩
  have hn' : ¬ left - (xs.length : Int) < 0 := by omega
  have hn2 : (xs.length : Int) ≤ 1048576 := by omega
  have KL := Lib.hid (okL_flat (f := cellsI1) (xs := xs) hk)
  clear hk
  go_enter Tryz.func80, Tryz.ntmps80
  go_wp2
  go_loopw [1, 5] (fun q i wr => ∃ k : Nat, k ≤ xs.length ∧ i = .int .i64 k ∧ q = .int .i64 (left - xs.length - (szL ((xs.take k).flatMap cellsI1) : Nat)) ∧ 0 ≤ left - xs.length - (szL ((xs.take k).flatMap cellsI1) : Nat) ∧ Below w.heap.size w wr) (fun _ i _ => xs.length - (intOf i).toNat)
  case atStart => exact ⟨0, Nat.zero_le _, rfl, by simp [szL], by simp [szL]; omega, Below.refl _ _⟩
  case round =>
    obtain ⟨k, hk, rfl, rfl, hq, hbel⟩ := hrel
    by_cases hlt : k < xs.length
    · have hlt' : (k : Int) < (xs.length : Int) := by omega
      obtain ⟨b, o, rfl, hb, hc⟩ := GA.out k hlt
      obtain ⟨A0, c0, hc0, r0⟩ := hc k hlt
      have hx0 := (hbel.cell (p := ⟨b, o + k, none⟩) hb).trans hc0
      have HM := Lib.hid (Tr.rd_below hbel (Nat.le_refl _) _ _ r0)
      clear hc hc0 r0
      have HT := Lib.hid (szL_flat (f := cellsI1) hlt)
      have HLE := szL_flat_le (f := cellsI1) xs (k + 1)
      have HSZ := Lib.hid (show (trI xs[k]).sz = szL (cellsI1 xs[k]) from (by simp [cellsI1, szL]))
      have HKK := Lib.hid (KL.out _ (List.getElem_mem hlt))
      have HK := Lib.hid (show (trI xs[k]).ok from HKK.out.1)
      clear HKK
      generalize szL (cellsI1 xs[k]) = ze at HT HSZ
      generalize xs[k] = m at hx0 HM HK HSZ
      have HB := Lib.hid hbel
      clear hbel
      generalize hQ : left - (xs.length : Int) - (szL ((xs.take k).flatMap cellsI1) : Nat) = Q at hq ⊢
      have HQ := Lib.hid hQ
      have hq2 : Q ≤ 1048576 := by omega
      clear hQ
      go_wp2_with fail
      refine (szIntS_t m _ _ _ (by exact HM.out) HK.out hq hq2).mono ?_
      rintro e w1 ⟨rfl, hb1⟩
      rw [HSZ.out]
      all_goals
        have HB1 := Lib.hid (HB.out.trans (hb1.mono HB.out.size))
        clear hb1
        by_cases hs : Q < (ze : Int)
        · rw [if_pos hs]
          go_wp2
          go_ret
          exact ⟨ret_numZ (by rw [← RES.out, if_pos (by have := HZ.out; have := HT.out; have := HQ.out; omega)]), HB1.out⟩
        · rw [if_neg hs]
          have hs' : 0 ≤ Q - (ze : Int) := by omega
          go_wp2
          go_roundw
          case rel => exact ⟨k + 1, by omega, by go_num, by have := HT.out; have := HQ.out; congr 1; omega, by have := HT.out; have := HQ.out; omega, HB1.out⟩
          case measure => simp [intOf]; omega
    · have hge : ¬ (k : Int) < (xs.length : Int) := by omega
      obtain rfl : k = xs.length := by omega
      rw [List.take_length] at hq ⊢
      have HB := Lib.hid hbel
      clear hbel
      go_wp2
      go_ret
      exact ⟨ret_numZ (by rw [← RES.out, if_neg (by have := HZ.out; omega)]; have := HZ.out; omega), HB.out⟩

set_option maxRecDepth 100000 in
set_option maxHeartbeats 1000000 in
theorem eqIntSS_t (xs : List (List Int)) (v u : Value) (w : World) (hv : (trSu xs).rd w v) (hu : (trSu xs).rd w u) :
    Calls Tryz.prog 101 #[v, u] w fun e w' => e = .returned (.bool true) ∧ Below w.heap.size w w' := by
  obtain ⟨hl, A, c, rfl, ga⟩ := rdIntSS_t hv
  obtain ⟨_, B, c2, rfl, gb⟩ := rdIntSS_t hu
  have GA := Lib.hid ga
  have GB := Lib.hid gb
  clear ga gb hv hu
  go_enter Tryz.func101, Tryz.ntmps101
  go_wp2
  go_loopw [5] (fun i wr => ∃ k : Nat, k ≤ xs.length ∧ i = .int .i64 k ∧ Below w.heap.size w wr) (fun i _ => xs.length - (intOf i).toNat)
  case atStart => exact ⟨0, Nat.zero_le _, rfl, Below.refl _ _⟩
  case round =>
    obtain ⟨k, hk, rfl, hbel⟩ := hrel
    by_cases hlt : k < xs.length
    · have hlt' : (k : Int) < (xs.length : Int) := by omega
      obtain ⟨b1, o1, rfl, hb1, hc⟩ := GA.out k hlt
      obtain ⟨b2, o2, rfl, hb2, hd⟩ := GB.out k hlt
      obtain ⟨A0, c0, hc0, r0⟩ := hc k hlt
      obtain ⟨B0, d0, hd0, s0⟩ := hd k hlt
      have hx0 := (hbel.cell (p := ⟨b1, o1 + k, none⟩) hb1).trans hc0
      have hy0 := (hbel.cell (p := ⟨b2, o2 + k, none⟩) hb2).trans hd0
      have HM := Lib.hid (Tr.rd_below hbel.drew (Nat.le_refl _) _ _ r0)
      have HN := Lib.hid (Tr.rd_below hbel.drew (Nat.le_refl _) _ _ s0)
      clear hc hd hc0 hd0 r0 s0
      have HB := Lib.hid hbel
      clear hbel
      generalize xs[k] = m at hx0 hy0 HM HN
      go_wp2
      go_region_with (go_at_call 36; refine (eqIntS_t m _ _ _ (by exact HM.out) (by exact HN.out)).mono ?_; rintro e w1 ⟨rfl, hb3⟩)
      all_goals
        go_wp2
        go_roundw
        case rel => exact ⟨k + 1, by omega, by go_num, HB.out.drew.trans (hb3.mono HB.out.size)⟩
        case measure => simp [intOf]; omega
    · have hge : ¬ (k : Int) < (xs.length : Int) := by omega
      have HB := Lib.hid hbel
      clear hbel
      go_wp2
      go_ret
      exact ⟨rfl, HB.out⟩

theorem infoInt_t : (Tryz.prog.info? 25).map (fun i => (i.zero, i.size, i.bytes)) = some (some (.slice none 0 0), 1, 24) := by kernel_rfl

set_option maxRecDepth 100000 in
set_option maxHeartbeats 1000000 in
theorem toIntSS_t (xs : List (List Int)) (v : Value) (w : World) (hv : (trSu xs).rd w v) (hl : (trSu xs).sz ≤ 1073741824) :
    Calls Tryz.prog 86 #[v] w fun e w' => ∃ u F, e = .returned u ∧ (trSu xs).own w' w.heap.size u F ∧ F.Nodup ∧ Below w.heap.size w w' := by
  obtain ⟨hla, A, c, rfl, ga⟩ := rdIntSS_t hv
  have GA := Lib.hid ga
  clear ga hv
  have hsz : (trSu xs).sz = xs.length + szL (xs.flatMap cellsI1) := rfl
  rw [hsz] at hl
  clear hsz
  obtain ⟨i0, hi, hz0, hz1, hz2⟩ := info_parts infoInt_t
  go_enter Tryz.func86, Tryz.ntmps86
  go_wp2_with (at_make; refine wpList_make_full _ rfl _ _ 82 rfl w.heap.size 25 i0 (.slice none 0 0) 1 Tryz.underlying82 hi hz0 hz1 .i64 .i64 _ _ xs.length rfl rfl rfl rfl (by rw [hz2]; omega) (by unfold maxLen; omega) (Nat.le_refl _) ?_; intro w1 hown1 hgrow1)
  have hbel1 : Below w.heap.size w w1 := (Below.refl _ _).grown hgrow1 (Nat.le_refl _) (by simp)
  have hm := hown1.1
  generalize hms : (madeCells _ (xs.length * 1)).toList = raw at hown1 hm
  have HM := Lib.hid hm
  have HO := Lib.hid hown1
  clear hm hms hgrow1 hown1
  go_loopw [4] (fun i wr => ∃ k : Nat, k ≤ xs.length ∧ i = .int .i64 k ∧ (∃ F, RowAt wr w.heap.size 25 1 xs.length w.heap.size xs.length (mixR cellsI1 1 raw xs k) F) ∧ Below w.heap.size w wr) (fun i _ => xs.length - (intOf i).toNat)
  case atStart => exact ⟨0, Nat.zero_le _, rfl, ⟨_, by rw [mixR_zero]; exact row_made HO.out⟩, hbel1⟩
  case round =>
    obtain ⟨k, hk, rfl, ⟨F, how⟩, hbel⟩ := hrel
    by_cases hlt : k < xs.length
    · have hlt' : (k : Int) < (xs.length : Int) := by omega
      obtain ⟨b, o, rfl, hb, hc⟩ := GA.out k hlt
      obtain ⟨A0, c0, hc0, r0⟩ := hc k hlt
      have hx0 := (hbel.cell (p := ⟨b, o + k, none⟩) hb).trans hc0
      have hse := szL_flat_at (f := cellsI1) hlt
      have HRD := Lib.hid (Tr.rd_below hbel (Nat.le_refl _) _ _ r0)
      have hzz : szL (cellsI1 xs[k]) = (trI xs[k]).sz := by simp [cellsI1, szL]
      have hle : (trI xs[k]).sz ≤ 1073741824 := by omega
      have HST := Lib.hid (mixR_set cellsI1_len HM.out hlt)
      have HLEN := Lib.hid (mixR_len cellsI1_len HM.out hk)
      clear hc hse hc0 r0
      generalize xs[k] = m at hx0 HRD HST hle
      have HB := Lib.hid hbel
      have HW := Lib.hid how
      clear hbel how
      go_wp2_with fail
      refine (toIntS_t m _ _ HRD.out hle).mono ?_
      rintro e w2 ⟨u, H, rfl, ho, hn, hb2⟩
      obtain ⟨A1, c1, rfl⟩ := slice_ints (Tr.own_rd _ _ _ ho)
      have how2 := HW.out.below hb2 (Nat.le_refl _)
      have hcl : (mixR cellsI1 1 raw xs k).length = xs.length * 1 := HLEN.out
      obtain ⟨y0, hy0⟩ := how2.some (i := k) (by omega)
      have hf := how2.frozen
      have hgw := how2.lt.2
      have hw0 := HW.out.lt.2
      have hoL : ownL w2 wr.heap.size (cellsI1 m) [.slice A1 m.length c1] H := ⟨_, [], H, [], rfl, ho, ⟨rfl, rfl⟩, by simp⟩
      obtain ⟨F', hp, _⟩ := RowAt.putL (K := wr.heap.size) HB.out.size hw0 (cellsI1 m) _ w2 _ F H (k * 1) how2 (by rw [cellsI1_len]; omega) hoL hn (fun j hj hj2 => by
        have h1 := (ownL_lt _ _ _ hoL j hj).1
        have h2 := (HW.out.allLt j hj2).2
        omega)
      rw [HST.out] at hp
      rw [Nat.mul_one] at hp
      have HP := Lib.hid hp
      have HBZ := Lib.hid (setL_below (Nat.le_refl _) [.slice A1 m.length c1] w2 (k) (HB.out.trans (hb2.mono HB.out.size)))
      clear hp hoL how2 hb2 hn hcl
      go_wp2
      go_roundw
      case rel => exact ⟨k + 1, by omega, by go_num, ⟨F', HP.out⟩, HBZ.out⟩
      case measure => simp [intOf]; omega
    · have hge : ¬ (k : Int) < (xs.length : Int) := by omega
      obtain rfl : k = xs.length := by omega
      rw [mixR_full HM.out] at how
      have HW := Lib.hid how
      have HB := Lib.hid hbel
      clear how hbel
      go_wp2
      go_ret
      exact ⟨_, rfl, F, HW.out.1, HW.out.2, HB.out⟩

set_option maxRecDepth 100000 in
set_option maxHeartbeats 2000000 in
theorem markIntSS_t (k B : Nat) (xs : List (List Int)) (v : Value) (F : List Nat) (w : World) (hown : (trSu xs).own w B v F) (hn : F.Nodup) (h0 : 0 < k) (hk : k + (trSu xs).cnt ≤ 1000000000) :
    Calls Tryz.prog 77 #[v, .int .i64 k] w fun e w' => ∃ F', e = .returned (.int .i64 (k + (trSu xs).cnt : Nat)) ∧ ((trSu xs).mkd k).own w' B v F' ∧ F'.Nodup ∧ (∀ x ∈ F', x ∈ F) ∧ Wr F w w' := by
  rcases own_form hown with ⟨rfl, hl⟩ | ⟨g, cap, rfl, hcap, hmx⟩
  · obtain rfl : xs = [] := List.eq_nil_of_length_eq_zero hl
    have HO := Lib.hid hown
    have HN := Lib.hid hn
    clear hown hn hl
    go_enter Tryz.func77, Tryz.ntmps77
    go_wp2
    refine wp_loop_rounds 1 ?_
    rw [rounds_succ]
    go_wp2
    go_ret
    first | exact ⟨rfl, F, HO.out, HN.out, fun _ h => h, Wr.refl _ _⟩ | exact ⟨F, rfl, HO.out, HN.out, fun _ h => h, Wr.refl _ _⟩
  have HO := Lib.hid (show RowAt w B 25 1 xs.length g cap (xs.flatMap cellsI1) F from ⟨hown, hn⟩)
  clear hown hn
  have hC : (trSu xs).cnt = cntL (xs.flatMap cellsI1) := rfl
  rw [hC] at hk ⊢
  clear hC
  go_enter Tryz.func77, Tryz.ntmps77
  go_wp2
  go_loopw [1, 5] (fun q i wr => ∃ j : Nat, j ≤ xs.length ∧ i = .int .i64 j ∧ q = .int .i64 (k + cntL ((xs.flatMap cellsI1).take (j)) : Nat) ∧ (∃ F', RowAt wr B 25 1 xs.length g cap (mixC k (xs.flatMap cellsI1) (j)) F' ∧ ∀ x ∈ F', x ∈ F) ∧ Wr F w wr) (fun _ i _ => xs.length - (intOf i).toNat)
  case atStart => exact ⟨0, Nat.zero_le _, rfl, by simp [cntL], ⟨F, by rw [mixC_zero]; exact HO.out, fun _ h => h⟩, Wr.refl _ _⟩
  case round =>
    obtain ⟨j, hj, rfl, rfl, ⟨F1, how, hsub⟩, hwr⟩ := hrel
    by_cases hlt : j < xs.length
    · have hlt' : (j : Int) < (xs.length : Int) := by omega
      have t0 : (xs.flatMap cellsI1)[j]? = some (trI xs[j]) := by simpa [cellsI1] using flatMap_get cellsI1_len xs j hlt 0 (by omega)
      have a0 : cntL ((xs.flatMap cellsI1).take (j + 1)) = cntL ((xs.flatMap cellsI1).take (j)) + (trI xs[j]).cnt := cntL_take t0
      have hle := cntL_le (xs.flatMap cellsI1) (j + 1)
      generalize hQ : k + cntL ((xs.flatMap cellsI1).take (j)) = Q
      have e0 : k + cntL ((xs.flatMap cellsI1).take (j)) = Q := by omega
      have e1 : k + cntL ((xs.flatMap cellsI1).take (j + 1)) = Q + (trI xs[j]).cnt := by omega
      have hbd : Q + (trI xs[j]).cnt ≤ 1000000000 := by omega
      have hQ0 : 0 < Q := by omega
      clear hle a0
      have T0 := Lib.hid t0
      clear t0
      have E0 := Lib.hid e0
      clear e0
      have E1 := Lib.hid e1
      clear e1
      have HQ := Lib.hid hQ
      clear hQ
      have hlen := how.len
      rw [mixC_len] at hlen
      have HN_ := Lib.hid (show ((j + 1) = j + 1) from by omega)
      have HOW0 := Lib.hid how
      have HSUB0 := Lib.hid hsub
      have HWR0 := Lib.hid hwr
      clear how hsub hwr
      obtain ⟨x0, hz0, hr0⟩ := rowAt_peek HOW0.out (i := j) (by omega) T0.out
      obtain ⟨A0, c0, rfl⟩ := slice_ints hr0
      clear hr0
      have hf := HOW0.out.frozen
      have hgw := HOW0.out.lt.2
      obtain ⟨x0, H0, hx0, ho0, hn0, hs0, back0⟩ := rowAt_markR HOW0.out T0.out
      rw [E0.out] at back0
      obtain rfl : .slice A0 xs[j].length c0 = x0 := Option.some.inj ((hz0).symm.trans hx0)
      have HO0 := Lib.hid ho0
      have BK0 := Lib.hid back0
      have HS0 := Lib.hid hs0
      clear hx0 ho0 hs0 back0
      go_wp2_with fail
      clear hf hgw hz0
      refine (markIntS_t (Q) B xs[j] _ H0 _ (by exact HO0.out) hn0 (by omega) (by omega)).mono ?_
      rintro e w0_ ⟨K0, rfl, o, h, hs, hw⟩
      obtain ⟨G0, m0, ms0, mw0⟩ := BK0.out _ K0 o h hs hw
      have HOW1 := Lib.hid m0
      have HSUB1 := Lib.hid (fun x hx => HSUB0.out x (ms0 x hx))
      have HWR1 := Lib.hid (HWR0.out.trans (mw0.sub (fun x hx => HSUB0.out x hx)))
      clear m0 ms0 mw0 HOW0 HSUB0 HWR0 o h hs hw hn0 HO0 BK0 HS0
      have HF := Lib.hid (show RowAt _ B 25 1 xs.length g cap (mixC k (xs.flatMap cellsI1) ((j + 1))) _ from by exact HOW1.out)
      have HC := Lib.hid (show k + cntL ((xs.flatMap cellsI1).take ((j + 1))) = Q + (trI xs[j]).cnt from by exact E1.out)
      go_wp2
      go_roundw
      case rel => exact ⟨j + 1, by omega, by go_num, by rw [HC.out]; rfl, ⟨_, HF.out, HSUB1.out⟩, HWR1.out⟩
      case measure => simp [intOf]; omega
    · have hge : ¬ (j : Int) < (xs.length : Int) := by omega
      obtain rfl : j = xs.length := by omega
      have hfl := flatMap_len cellsI1_len xs
      rw [mixC_full k _ (by omega)] at how
      rw [List.take_of_length_le (by omega)]
      have HW := Lib.hid how
      have HB := Lib.hid hwr
      have HS := Lib.hid hsub
      clear how hwr hsub hfl
      go_wp2
      go_ret
      first | exact ⟨rfl, F1, HW.out.1, HW.out.2, HS.out, HB.out⟩ | exact ⟨F1, rfl, HW.out.1, HW.out.2, HS.out, HB.out⟩

end Go.Proofs.YtgbpomakomddjabGreatDoor
end

section
namespace Go.Proofs.YtgbpomakomddjabGreatDoor
open Go.RowKit
set_option linter.unusedVariables false

theorem thin_ResourceL (d : Rs) : thinL (cellsR d) := ⟨thin_StepS _, thin_IntSS _, trivial⟩
theorem thin_ResourceS (xs : List Rs) : (trRs xs).thins := thin_rows cellsR_len (by omega) thin_ResourceL xs

set_option maxRecDepth 100000 in
set_option maxHeartbeats 1000000 in
theorem szResource_t (d : Rs) (v : Value) (left : Int) (w : World) (hr : (trR d).rd w v) (hk : (trR d).ok) (h0 : 0 ≤ left) (h3 : left ≤ 1048576) :
    Calls Tryz.prog 47 #[v, .int .i64 left] w fun e w' => e = .returned (.int .i64 (if left < (trR d).sz then -1 else left - (trR d).sz)) ∧ Below w.heap.size w w' := by
  obtain ⟨A0, c0, A1, c1, rfl, r0, r1⟩ := rdResource_t hr
  clear hr
  obtain ⟨k0, k1, _⟩ := hk
  have R0 := Lib.hid r0
  have K0 := Lib.hid k0
  clear r0 k0
  have R1 := Lib.hid r1
  have K1 := Lib.hid k1
  clear r1 k1
  have HZ := Lib.hid (show (trR d).sz = (trSt d.st).sz + ((trSu d.su).sz + 0) from rfl)
  generalize (trR d).sz = Z at HZ ⊢
  generalize hz0 : (trSt d.st).sz = z0 at HZ
  have Z0 := Lib.hid hz0
  clear hz0
  generalize hz1 : (trSu d.su).sz = z1 at HZ
  have Z1 := Lib.hid hz1
  clear hz1
  generalize hres : (if left < (Z : Int) then -1 else left - (Z : Int)) = res
  have RES := Lib.hid hres
  clear hres
  have S0 := Lib.hid ((Sn.start w).box 84 [.slice A0 d.st.length c0, .slice A1 d.su.length c1])
  go_enter Tryz.func47, Tryz.ntmps47
  go_wp2_with fail
  refine (szStepS_t d.st _ _ _ (by exact S0.out.old R0.out) K0.out (by omega) (by omega)).mono ?_
  rintro e w1 ⟨rfl, b⟩
  rw [Z0.out]
  have S1 := Lib.hid (S0.out.go b)
  clear S0 b
  by_cases hb0 : left < (z0 : Int)
  · rw [if_pos hb0]
    go_wp2
    go_ret
    exact ⟨ret_numZ (by rw [← RES.out, if_pos (by have := HZ.out; omega)]), S1.out.1⟩
  rw [if_neg hb0]
  have hq0 : 0 ≤ left - (z0 : Int) := by omega
  obtain ⟨e0, e1, ef⟩ := (S1.out.bk 0 rfl).c2
  go_wp2_with fail
  clear e0 e1 ef
  refine (szIntSS_t d.su _ _ _ (by exact S1.out.old R1.out) K1.out (by omega) (by omega)).mono ?_
  rintro e w2 ⟨rfl, b⟩
  rw [Z1.out]
  have S2 := Lib.hid (S1.out.go b)
  clear S1 b
  by_cases hb1 : left - (z0 : Int) < (z1 : Int)
  · rw [if_pos hb1]
    go_wp2
    go_ret
    exact ⟨ret_numZ (by rw [← RES.out, if_pos (by have := HZ.out; omega)]), S2.out.1⟩
  rw [if_neg hb1]
  have hq1 : 0 ≤ left - (z0 : Int) - (z1 : Int) := by omega
  go_wp2
  go_ret
  exact ⟨ret_numZ (by rw [← RES.out, if_neg (by have := HZ.out; omega)]; have := HZ.out; omega), S2.out.1⟩

set_option maxRecDepth 100000 in
set_option maxHeartbeats 1000000 in
theorem szResourceS_t (xs : List Rs) (v : Value) (left : Int) (w : World) (hr : (trRs xs).rd w v) (hk : (trRs xs).ok) (h0 : 0 ≤ left) (h3 : left ≤ 1048576) :
    Calls Tryz.prog 20 #[v, .int .i64 left] w fun e w' => e = .returned (.int .i64 (if left < (trRs xs).sz then -1 else left - (trRs xs).sz)) ∧ Below w.heap.size w w' := by
  obtain ⟨hl, A, c, rfl, ga⟩ := rdResourceS_t hr
  have GA := Lib.hid ga
  clear ga hr
  have HZ := Lib.hid (show (trRs xs).sz = xs.length + szL (xs.flatMap cellsR) from rfl)
  generalize (trRs xs).sz = Z at HZ ⊢
  generalize hres : (if left < (Z : Int) then -1 else left - (Z : Int)) = res
  have RES := Lib.hid hres
  clear hres
  by_cases hn : left < (xs.length : Int)
  · have hn' : left - (xs.length : Int) < 0 := by omega
    go_enter Tryz.func20, Tryz.ntmps20
    go_wp2
    go_ret
    exact ⟨ret_numZ (by rw [← RES.out, if_pos (by have := HZ.out; omega)]), Below.refl _ _⟩
  have hn' : ¬ left - (xs.length : Int) < 0 := by omega
  have hn2 : (xs.length : Int) ≤ 1048576 := by omega
  have KL := Lib.hid (okL_flat (f := cellsR) (xs := xs) hk)
  clear hk
  go_enter Tryz.func20, Tryz.ntmps20
  go_wp2
  go_loopw [1, 5] (fun q i wr => ∃ k : Nat, k ≤ xs.length ∧ i = .int .i64 k ∧ q = .int .i64 (left - xs.length - (szL ((xs.take k).flatMap cellsR) : Nat)) ∧ 0 ≤ left - xs.length - (szL ((xs.take k).flatMap cellsR) : Nat) ∧ Below w.heap.size w wr) (fun _ i _ => xs.length - (intOf i).toNat)
  case atStart => exact ⟨0, Nat.zero_le _, rfl, by simp [szL], by simp [szL]; omega, Below.refl _ _⟩
  case round =>
    obtain ⟨k, hk, rfl, rfl, hq, hbel⟩ := hrel
    by_cases hlt : k < xs.length
    · have hlt' : (k : Int) < (xs.length : Int) := by omega
      obtain ⟨b, o, rfl, hb, hc⟩ := GA.out k hlt
      obtain ⟨A0, c0, A1, c1, hc0, hc1, r0, r1⟩ := hc k hlt
      have hx0 := (hbel.cell (p := ⟨b, o + k * 2, none⟩) hb).trans hc0
      have hx1 := (hbel.cell (p := ⟨b, o + k * 2 + 1, none⟩) hb).trans hc1
      have HM := Lib.hid (mk_rdResource_t (d := xs[k]) (Tr.rd_below hbel (Nat.le_refl _) _ _ r0) (Tr.rd_below hbel (Nat.le_refl _) _ _ r1))
      clear hc hc0 hc1 r0 r1
      have HT := Lib.hid (szL_flat (f := cellsR) hlt)
      have HLE := szL_flat_le (f := cellsR) xs (k + 1)
      have HSZ := Lib.hid (show (trR xs[k]).sz = szL (cellsR xs[k]) from rfl)
      have HKK := Lib.hid (KL.out _ (List.getElem_mem hlt))
      have HK := Lib.hid (show (trR xs[k]).ok from HKK.out)
      clear HKK
      generalize szL (cellsR xs[k]) = ze at HT HSZ
      generalize xs[k] = m at hx0 hx1 HM HK HSZ
      have HB := Lib.hid hbel
      clear hbel
      generalize hQ : left - (xs.length : Int) - (szL ((xs.take k).flatMap cellsR) : Nat) = Q at hq ⊢
      have HQ := Lib.hid hQ
      have hq2 : Q ≤ 1048576 := by omega
      clear hQ
      go_wp2_with fail
      refine (szResource_t m _ _ _ (by exact HM.out) HK.out hq hq2).mono ?_
      rintro e w1 ⟨rfl, hb1⟩
      rw [HSZ.out]
      all_goals
        have HB1 := Lib.hid (HB.out.trans (hb1.mono HB.out.size))
        clear hb1
        by_cases hs : Q < (ze : Int)
        · rw [if_pos hs]
          go_wp2
          go_ret
          exact ⟨ret_numZ (by rw [← RES.out, if_pos (by have := HZ.out; have := HT.out; have := HQ.out; omega)]), HB1.out⟩
        · rw [if_neg hs]
          have hs' : 0 ≤ Q - (ze : Int) := by omega
          go_wp2
          go_roundw
          case rel => exact ⟨k + 1, by omega, by go_num, by have := HT.out; have := HQ.out; congr 1; omega, by have := HT.out; have := HQ.out; omega, HB1.out⟩
          case measure => simp [intOf]; omega
    · have hge : ¬ (k : Int) < (xs.length : Int) := by omega
      obtain rfl : k = xs.length := by omega
      rw [List.take_length] at hq ⊢
      have HB := Lib.hid hbel
      clear hbel
      go_wp2
      go_ret
      exact ⟨ret_numZ (by rw [← RES.out, if_neg (by have := HZ.out; omega)]; have := HZ.out; omega), HB.out⟩

set_option maxRecDepth 100000 in
set_option maxHeartbeats 1000000 in
theorem eqResource_t (d : Rs) (v u : Value) (w : World) (hv : (trR d).rd w v) (hu : (trR d).rd w u) :
    Calls Tryz.prog 66 #[v, u] w fun e w' => e = .returned (.bool true) ∧ Below w.heap.size w w' := by
  obtain ⟨A0, c0, A1, c1, rfl, r0, r1⟩ := rdResource_t hv
  obtain ⟨B0, b0, B1, b1, rfl, s0, s1⟩ := rdResource_t hu
  clear hv hu
  have R0 := Lib.hid r0
  have Q0 := Lib.hid s0
  clear r0 s0
  have R1 := Lib.hid r1
  have Q1 := Lib.hid s1
  clear r1 s1
  have S0 := Lib.hid (((Sn.start w).box 98 [.slice A0 d.st.length c0, .slice A1 d.su.length c1]).box 98 [.slice B0 d.st.length b0, .slice B1 d.su.length b1])
  simp only [World.size_alloc] at S0
  go_enter Tryz.func66, Tryz.ntmps66
  go_wp2_with fail
  refine (eqStepS_t d.st _ _ _ (by exact S0.out.old R0.out) (by exact S0.out.old Q0.out)).mono ?_
  rintro e w1 ⟨rfl, b⟩
  have S1 := Lib.hid (S0.out.go b)
  clear S0 b
  obtain ⟨e0, e1, ef⟩ := (S1.out.bk 1 rfl).c2
  obtain ⟨g0, g1, gf⟩ := (S1.out.bk 0 rfl).c2
  go_wp2_with fail
  clear e0 e1 ef g0 g1 gf
  refine (eqIntSS_t d.su _ _ _ (by exact S1.out.old R1.out) (by exact S1.out.old Q1.out)).mono ?_
  rintro e w2 ⟨rfl, b⟩
  have S2 := Lib.hid (S1.out.go b)
  clear S1 b
  go_wp2
  go_ret
  exact ⟨rfl, S2.out.1⟩

set_option maxRecDepth 100000 in
set_option maxHeartbeats 1000000 in
theorem eqResourceS_t (xs : List Rs) (v u : Value) (w : World) (hv : (trRs xs).rd w v) (hu : (trRs xs).rd w u) :
    Calls Tryz.prog 35 #[v, u] w fun e w' => e = .returned (.bool true) ∧ Below w.heap.size w w' := by
  obtain ⟨hl, A, c, rfl, ga⟩ := rdResourceS_t hv
  obtain ⟨_, B, c2, rfl, gb⟩ := rdResourceS_t hu
  have GA := Lib.hid ga
  have GB := Lib.hid gb
  clear ga gb hv hu
  go_enter Tryz.func35, Tryz.ntmps35
  go_wp2
  go_loopw [5] (fun i wr => ∃ k : Nat, k ≤ xs.length ∧ i = .int .i64 k ∧ Below w.heap.size w wr) (fun i _ => xs.length - (intOf i).toNat)
  case atStart => exact ⟨0, Nat.zero_le _, rfl, Below.refl _ _⟩
  case round =>
    obtain ⟨k, hk, rfl, hbel⟩ := hrel
    by_cases hlt : k < xs.length
    · have hlt' : (k : Int) < (xs.length : Int) := by omega
      obtain ⟨b1, o1, rfl, hb1, hc⟩ := GA.out k hlt
      obtain ⟨b2, o2, rfl, hb2, hd⟩ := GB.out k hlt
      obtain ⟨A0, c0, A1, c1, hc0, hc1, r0, r1⟩ := hc k hlt
      obtain ⟨B0, d0, B1, d1, hd0, hd1, s0, s1⟩ := hd k hlt
      have hx0 := (hbel.cell (p := ⟨b1, o1 + k * 2, none⟩) hb1).trans hc0
      have hx1 := (hbel.cell (p := ⟨b1, o1 + k * 2 + 1, none⟩) hb1).trans hc1
      have hy0 := (hbel.cell (p := ⟨b2, o2 + k * 2, none⟩) hb2).trans hd0
      have hy1 := (hbel.cell (p := ⟨b2, o2 + k * 2 + 1, none⟩) hb2).trans hd1
      have HM := Lib.hid (mk_rdResource_t (w := wr.drew) (d := xs[k]) (Tr.rd_below hbel.drew (Nat.le_refl _) _ _ r0) (Tr.rd_below hbel.drew (Nat.le_refl _) _ _ r1))
      have HN := Lib.hid (mk_rdResource_t (w := wr.drew) (d := xs[k]) (Tr.rd_below hbel.drew (Nat.le_refl _) _ _ s0) (Tr.rd_below hbel.drew (Nat.le_refl _) _ _ s1))
      clear hc hd hc0 hd0 hc1 hd1 r0 s0 r1 s1
      have HB := Lib.hid hbel
      clear hbel
      generalize xs[k] = m at hx0 hy0 hx1 hy1 HM HN
      go_wp2
      go_region_with (go_at_call 66; refine (eqResource_t m _ _ _ (by exact HM.out) (by exact HN.out)).mono ?_; rintro e w1 ⟨rfl, hb3⟩)
      all_goals
        go_wp2
        go_roundw
        case rel => exact ⟨k + 1, by omega, by go_num, HB.out.drew.trans (hb3.mono HB.out.size)⟩
        case measure => simp [intOf]; omega
    · have hge : ¬ (k : Int) < (xs.length : Int) := by omega
      have HB := Lib.hid hbel
      clear hbel
      go_wp2
      go_ret
      exact ⟨rfl, HB.out⟩

set_option maxRecDepth 100000 in
set_option maxHeartbeats 1000000 in
theorem toResource_t (d : Rs) (v : Value) (w : World) (hv : (trR d).rd w v) (hl : (trR d).sz ≤ 1073741824) :
    Calls Tryz.prog 54 #[v] w fun e w' => ∃ u F, e = .returned u ∧ (trR d).own w' w.heap.size u F ∧ F.Nodup ∧ Below w.heap.size w w' := by
  obtain ⟨A0, c0, A1, c1, rfl, r0, r1⟩ := rdResource_t hv
  clear hv
  have R0 := Lib.hid r0
  clear r0
  have R1 := Lib.hid r1
  clear r1
  have hz : (trR d).sz = (trSt d.st).sz + ((trSu d.su).sz + 0) := rfl
  have hl0 : (trSt d.st).sz ≤ 1073741824 := by omega
  have hl1 : (trSu d.su).sz ≤ 1073741824 := by omega
  clear hz hl
  have S0 := Lib.hid ((((Sn.start w).box 84 [.slice A0 d.st.length c0, .slice A1 d.su.length c1]).box 98 [.slice none 0 0, .slice none 0 0]).box 98 [.slice none 0 0, .slice none 0 0])
  simp only [World.size_alloc] at S0
  go_enter Tryz.func54, Tryz.ntmps54
  go_wp2_with fail
  refine (toStepS_t d.st _ _ (by exact S0.out.old R0.out) hl0).mono ?_
  rintro e w1 ⟨u0, F0, rfl, o, h, b⟩
  obtain ⟨U0, n0, rfl⟩ := rows_slice (Tr.own_rd _ _ _ o)
  have S1 := Lib.hid (S0.out.new o h b)
  clear S0 o h b
  obtain ⟨e0, e1, ef⟩ := (S1.out.bk 3 rfl).c2
  obtain ⟨g0, g1, gf⟩ := (S1.out.bk 1 rfl).c2
  go_wp2_with fail
  clear e0 e1 ef g0 g1 gf
  have S1' := Lib.hid (S1.out.boxSet 1 rfl 0 (.slice U0 d.st.length n0))
  clear S1
  have S1 := S1'
  clear S1'
  refine (toIntSS_t d.su _ _ (by exact S1.out.old R1.out) hl1).mono ?_
  rintro e w2 ⟨u1, F1, rfl, o, h, b⟩
  obtain ⟨U1, n1, rfl⟩ := rows_slice (Tr.own_rd _ _ _ o)
  have S2 := Lib.hid (S1.out.new o h b)
  clear S1 o h b
  obtain ⟨e0, e1, ef⟩ := (S2.out.bk 4 rfl).c2
  obtain ⟨g0, g1, gf⟩ := (S2.out.bk 2 rfl).c2
  obtain ⟨z0, z1, zf⟩ := (S2.out.bk 3 rfl).c2
  go_wp2
  clear e0 e1 ef g0 g1 gf
  have SZ := ((S2.out.boxSet 2 rfl 1 (.slice U1 d.su.length n1)).boxSet 3 rfl 0 (.slice U0 d.st.length n0)).boxSet 3 rfl 1 (.slice U1 d.su.length n1)
  have P := SZ.nil0
  have P := (P.pick 1 rfl).pack
  have P := (P.pick 1 rfl).pack
  refine bodyPost_ret (v := .agg #[.slice U0 d.st.length n0, .slice U1 d.su.length n1]) (by simp [results, Tryz.results54, go_sem, z0, z1]) rfl ⟨_, _, rfl, (P.own 0 rfl).1, (P.own 0 rfl).2, P.1⟩

theorem infoResource_t : (Tryz.prog.info? 98).map (fun i => (i.zero, i.size, i.bytes)) = some (some (.agg #[.slice none 0 0, .slice none 0 0]), 2, 48) := by kernel_rfl

set_option maxRecDepth 100000 in
set_option maxHeartbeats 1000000 in
theorem toResourceS_t (xs : List Rs) (v : Value) (w : World) (hv : (trRs xs).rd w v) (hl : (trRs xs).sz ≤ 1073741824) :
    Calls Tryz.prog 27 #[v] w fun e w' => ∃ u F, e = .returned u ∧ (trRs xs).own w' w.heap.size u F ∧ F.Nodup ∧ Below w.heap.size w w' := by
  obtain ⟨hla, A, c, rfl, ga⟩ := rdResourceS_t hv
  have GA := Lib.hid ga
  clear ga hv
  have hsz : (trRs xs).sz = xs.length + szL (xs.flatMap cellsR) := rfl
  rw [hsz] at hl
  clear hsz
  obtain ⟨i0, hi, hz0, hz1, hz2⟩ := info_parts infoResource_t
  go_enter Tryz.func27, Tryz.ntmps27
  go_wp2_with (at_make; refine wpList_make_full _ rfl _ _ 34 rfl w.heap.size 98 i0 (.agg #[.slice none 0 0, .slice none 0 0]) 2 Tryz.underlying34 hi hz0 hz1 .i64 .i64 _ _ xs.length rfl rfl rfl rfl (by rw [hz2]; omega) (by unfold maxLen; omega) (Nat.le_refl _) ?_; intro w1 hown1 hgrow1)
  have hbel1 : Below w.heap.size w w1 := (Below.refl _ _).grown hgrow1 (Nat.le_refl _) (by simp)
  have hm := hown1.1
  generalize hms : (madeCells _ (xs.length * 2)).toList = raw at hown1 hm
  have HM := Lib.hid hm
  have HO := Lib.hid hown1
  clear hm hms hgrow1 hown1
  go_loopw [4] (fun i wr => ∃ k : Nat, k ≤ xs.length ∧ i = .int .i64 k ∧ (∃ F, RowAt wr w.heap.size 98 2 xs.length w.heap.size xs.length (mixR cellsR 2 raw xs k) F) ∧ Below w.heap.size w wr) (fun i _ => xs.length - (intOf i).toNat)
  case atStart => exact ⟨0, Nat.zero_le _, rfl, ⟨_, by rw [mixR_zero]; exact row_made HO.out⟩, hbel1⟩
  case round =>
    obtain ⟨k, hk, rfl, ⟨F, how⟩, hbel⟩ := hrel
    by_cases hlt : k < xs.length
    · have hlt' : (k : Int) < (xs.length : Int) := by omega
      obtain ⟨b, o, rfl, hb, hc⟩ := GA.out k hlt
      obtain ⟨A0, c0, A1, c1, hc0, hc1, r0, r1⟩ := hc k hlt
      have hx0 := (hbel.cell (p := ⟨b, o + k * 2, none⟩) hb).trans hc0
      have hx1 := (hbel.cell (p := ⟨b, o + k * 2 + 1, none⟩) hb).trans hc1
      have hse := szL_flat_at (f := cellsR) hlt
      have HRD := Lib.hid (mk_rdResource_t (w := wr) (d := xs[k]) (Tr.rd_below hbel (Nat.le_refl _) _ _ r0) (Tr.rd_below hbel (Nat.le_refl _) _ _ r1))
      have hle : (trR xs[k]).sz ≤ 1073741824 := by
        have : (trR xs[k]).sz = szL (cellsR xs[k]) := rfl
        omega
      have HST := Lib.hid (mixR_set cellsR_len HM.out hlt)
      have HLEN := Lib.hid (mixR_len cellsR_len HM.out hk)
      clear hc hse hc0 hc1 r0 r1
      generalize xs[k] = m at hx0 hx1 HRD HST hle
      have HB := Lib.hid hbel
      have HW := Lib.hid how
      clear hbel how
      go_wp2_with fail
      refine (toResource_t m _ _ HRD.out hle).mono ?_
      rintro e w2 ⟨u, H, rfl, ho, hn, hb2⟩
      obtain ⟨U0, n0, U1, n1, rfl, _, _⟩ := rdResource_t (Tr.own_rd _ _ _ ho)
      have how2 := HW.out.below hb2 (Nat.le_refl _)
      have hcl : (mixR cellsR 2 raw xs k).length = xs.length * 2 := HLEN.out
      obtain ⟨y0, hy0⟩ := how2.some (i := k * 2) (by omega)
      obtain ⟨y1, hy1⟩ := how2.some (i := k * 2 + 1) (by omega)
      have hf := how2.frozen
      have hgw := how2.lt.2
      have hw0 := HW.out.lt.2
      obtain ⟨vs, hvs, hoL⟩ := ho
      obtain rfl : vs = [.slice U0 m.st.length n0, .slice U1 m.su.length n1] := by
        injection hvs with hvs
        exact (congrArg Array.toList hvs).symm
      obtain ⟨F', hp, _⟩ := RowAt.putL (K := wr.heap.size) HB.out.size hw0 (cellsR m) _ w2 _ F H (k * 2) how2 (by rw [cellsR_len]; omega) hoL hn (fun j hj hj2 => by
        have h1 := (ownL_lt _ _ _ hoL j hj).1
        have h2 := (HW.out.allLt j hj2).2
        omega)
      rw [HST.out] at hp
      have HP := Lib.hid hp
      have HBZ := Lib.hid (setL_below (Nat.le_refl _) [.slice U0 m.st.length n0, .slice U1 m.su.length n1] w2 (k * 2) (HB.out.trans (hb2.mono HB.out.size)))
      clear hp hoL how2 hb2 hn hcl hvs
      go_wp2
      go_roundw
      case rel => exact ⟨k + 1, by omega, by go_num, ⟨F', HP.out⟩, HBZ.out⟩
      case measure => simp [intOf]; omega
    · have hge : ¬ (k : Int) < (xs.length : Int) := by omega
      obtain rfl : k = xs.length := by omega
      rw [mixR_full HM.out] at how
      have HW := Lib.hid how
      have HB := Lib.hid hbel
      clear how hbel
      go_wp2
      go_ret
      exact ⟨_, rfl, F, HW.out.1, HW.out.2, HB.out⟩

set_option maxRecDepth 100000 in
set_option maxHeartbeats 2000000 in
theorem markResourceS_t (k B : Nat) (xs : List Rs) (v : Value) (F : List Nat) (w : World) (hown : (trRs xs).own w B v F) (hn : F.Nodup) (h0 : 0 < k) (hk : k + (trRs xs).cnt ≤ 1000000000) :
    Calls Tryz.prog 44 #[v, .int .i64 k] w fun e w' => ∃ F', e = .returned (.int .i64 (k + (trRs xs).cnt : Nat)) ∧ ((trRs xs).mkd k).own w' B v F' ∧ F'.Nodup ∧ (∀ x ∈ F', x ∈ F) ∧ Wr F w w' := by
  rcases own_form hown with ⟨rfl, hl⟩ | ⟨g, cap, rfl, hcap, hmx⟩
  · obtain rfl : xs = [] := List.eq_nil_of_length_eq_zero hl
    have HO := Lib.hid hown
    have HN := Lib.hid hn
    clear hown hn hl
    go_enter Tryz.func44, Tryz.ntmps44
    go_wp2
    refine wp_loop_rounds 1 ?_
    rw [rounds_succ]
    go_wp2
    go_ret
    first | exact ⟨rfl, F, HO.out, HN.out, fun _ h => h, Wr.refl _ _⟩ | exact ⟨F, rfl, HO.out, HN.out, fun _ h => h, Wr.refl _ _⟩
  have HO := Lib.hid (show RowAt w B 98 2 xs.length g cap (xs.flatMap cellsR) F from ⟨hown, hn⟩)
  clear hown hn
  have hC : (trRs xs).cnt = cntL (xs.flatMap cellsR) := rfl
  rw [hC] at hk ⊢
  clear hC
  go_enter Tryz.func44, Tryz.ntmps44
  go_wp2
  go_loopw [1, 5] (fun q i wr => ∃ j : Nat, j ≤ xs.length ∧ i = .int .i64 j ∧ q = .int .i64 (k + cntL ((xs.flatMap cellsR).take (j * 2)) : Nat) ∧ (∃ F', RowAt wr B 98 2 xs.length g cap (mixC k (xs.flatMap cellsR) (j * 2)) F' ∧ ∀ x ∈ F', x ∈ F) ∧ Wr F w wr) (fun _ i _ => xs.length - (intOf i).toNat)
  case atStart => exact ⟨0, Nat.zero_le _, rfl, by simp [cntL], ⟨F, by rw [Nat.zero_mul]; rw [mixC_zero]; exact HO.out, fun _ h => h⟩, Wr.refl _ _⟩
  case round =>
    obtain ⟨j, hj, rfl, rfl, ⟨F1, how, hsub⟩, hwr⟩ := hrel
    by_cases hlt : j < xs.length
    · have hlt' : (j : Int) < (xs.length : Int) := by omega
      have t0 : (xs.flatMap cellsR)[j * 2]? = some (trSt xs[j].st) := by simpa [cellsR] using flatMap_get cellsR_len xs j hlt 0 (by omega)
      have a0 : cntL ((xs.flatMap cellsR).take (j * 2 + 1)) = cntL ((xs.flatMap cellsR).take (j * 2)) + (trSt xs[j].st).cnt := cntL_take t0
      have t1 : (xs.flatMap cellsR)[j * 2 + 1]? = some (trSu xs[j].su) := by simpa [cellsR] using flatMap_get cellsR_len xs j hlt 1 (by omega)
      have a1 : cntL ((xs.flatMap cellsR).take (j * 2 + 2)) = cntL ((xs.flatMap cellsR).take (j * 2 + 1)) + (trSu xs[j].su).cnt := cntL_take t1
      have hle := cntL_le (xs.flatMap cellsR) (j * 2 + 2)
      generalize hQ : k + cntL ((xs.flatMap cellsR).take (j * 2)) = Q
      have e0 : k + cntL ((xs.flatMap cellsR).take (j * 2)) = Q := by omega
      have e1 : k + cntL ((xs.flatMap cellsR).take (j * 2 + 1)) = Q + (trSt xs[j].st).cnt := by omega
      have e2 : k + cntL ((xs.flatMap cellsR).take (j * 2 + 2)) = Q + (trSt xs[j].st).cnt + (trSu xs[j].su).cnt := by omega
      have hbd : Q + (trSt xs[j].st).cnt + (trSu xs[j].su).cnt ≤ 1000000000 := by omega
      have hQ0 : 0 < Q := by omega
      clear hle a0 a1
      have T0 := Lib.hid t0
      clear t0
      have T1 := Lib.hid t1
      clear t1
      have E0 := Lib.hid e0
      clear e0
      have E1 := Lib.hid e1
      clear e1
      have E2 := Lib.hid e2
      clear e2
      have HQ := Lib.hid hQ
      clear hQ
      have hlen := how.len
      rw [mixC_len] at hlen
      have hjs : j * 2 + 2 ≤ xs.length * 2 := by omega
      have HN_ := Lib.hid (show ((j + 1) * 2 = j * 2 + 2) from by omega)
      have HOW0 := Lib.hid how
      have HSUB0 := Lib.hid hsub
      have HWR0 := Lib.hid hwr
      clear how hsub hwr
      obtain ⟨x0, hz0, hr0⟩ := rowAt_peek HOW0.out (i := j * 2) (by omega) T0.out
      obtain ⟨A0, c0, rfl⟩ := rows_slice hr0
      clear hr0
      obtain ⟨z1, hz1⟩ := HOW0.out.some (i := j * 2 + 1) (by rw [mixC_len]; omega)
      have hf := HOW0.out.frozen
      have hgw := HOW0.out.lt.2
      obtain ⟨x0, H0, hx0, ho0, hn0, hs0, back0⟩ := rowAt_markR HOW0.out T0.out
      rw [E0.out] at back0
      obtain rfl : .slice A0 xs[j].st.length c0 = x0 := Option.some.inj ((hz0).symm.trans hx0)
      have HO0 := Lib.hid ho0
      have BK0 := Lib.hid back0
      have HS0 := Lib.hid hs0
      clear hx0 ho0 hs0 back0
      go_wp2_with fail
      clear hf hgw hz0 hz1
      refine (markStepS_t (Q) B xs[j].st _ H0 _ (by exact HO0.out) hn0 (by omega) (by omega)).mono ?_
      rintro e w0_ ⟨K0, rfl, o, h, hs, hw⟩
      obtain ⟨G0, m0, ms0, mw0⟩ := BK0.out _ K0 o h hs hw
      have HOW1 := Lib.hid m0
      have HSUB1 := Lib.hid (fun x hx => HSUB0.out x (ms0 x hx))
      have HWR1 := Lib.hid (HWR0.out.trans (mw0.sub (fun x hx => HSUB0.out x hx)))
      clear m0 ms0 mw0 HOW0 HSUB0 HWR0 o h hs hw hn0 HO0 BK0 HS0
      obtain ⟨x1, hz1, hr1⟩ := rowAt_peek HOW1.out (i := j * 2 + 1) (by omega) T1.out
      obtain ⟨A1, c1, rfl⟩ := rows_slice hr1
      clear hr1
      have hf := HOW1.out.frozen
      have hgw := HOW1.out.lt.2
      obtain ⟨x1, H1, hx1, ho1, hn1, hs1, back1⟩ := rowAt_markR HOW1.out T1.out
      rw [E1.out] at back1
      obtain rfl : .slice A1 xs[j].su.length c1 = x1 := Option.some.inj ((hz1).symm.trans hx1)
      have HO1 := Lib.hid ho1
      have BK1 := Lib.hid back1
      have HS1 := Lib.hid hs1
      clear hx1 ho1 hs1 back1
      go_wp2_with fail
      clear hf hgw hz1
      refine (markIntSS_t (Q + (trSt xs[j].st).cnt) B xs[j].su _ H1 _ (by exact HO1.out) hn1 (by omega) (by omega)).mono ?_
      rintro e w1_ ⟨K1, rfl, o, h, hs, hw⟩
      obtain ⟨G1, m1, ms1, mw1⟩ := BK1.out _ K1 o h hs hw
      have HOW2 := Lib.hid m1
      have HSUB2 := Lib.hid (fun x hx => HSUB1.out x (ms1 x hx))
      have HWR2 := Lib.hid (HWR1.out.trans (mw1.sub (fun x hx => HSUB1.out x hx)))
      clear m1 ms1 mw1 HOW1 HSUB1 HWR1 o h hs hw hn1 HO1 BK1 HS1
      have HF := Lib.hid (show RowAt _ B 98 2 xs.length g cap (mixC k (xs.flatMap cellsR) ((j + 1) * 2)) _ from by rw [HN_.out]; exact HOW2.out)
      have HC := Lib.hid (show k + cntL ((xs.flatMap cellsR).take ((j + 1) * 2)) = Q + (trSt xs[j].st).cnt + (trSu xs[j].su).cnt from by rw [HN_.out]; exact E2.out)
      go_wp2
      go_roundw
      case rel => exact ⟨j + 1, by omega, by go_num, by rw [HC.out]; rfl, ⟨_, HF.out, HSUB2.out⟩, HWR2.out⟩
      case measure => simp [intOf]; omega
    · have hge : ¬ (j : Int) < (xs.length : Int) := by omega
      obtain rfl : j = xs.length := by omega
      have hfl := flatMap_len cellsR_len xs
      rw [mixC_full k _ (by omega)] at how
      rw [List.take_of_length_le (by omega)]
      have HW := Lib.hid how
      have HB := Lib.hid hwr
      have HS := Lib.hid hsub
      clear how hwr hsub hfl
      go_wp2
      go_ret
      first | exact ⟨rfl, F1, HW.out.1, HW.out.2, HS.out, HB.out⟩ | exact ⟨F1, rfl, HW.out.1, HW.out.2, HS.out, HB.out⟩

end Go.Proofs.YtgbpomakomddjabGreatDoor
end

section
namespace Go.Proofs.YtgbpomakomddjabGreatDoor
open Go.RowKit
set_option linter.unusedVariables false

theorem thin_ProjectL (d : Pj) : thinL (cellsPj d) := ⟨trivial, thin_ActivityS _, thin_LinkS _, thin_ResourceS _, thin_ints _, trivial⟩

set_option maxRecDepth 100000 in
set_option maxHeartbeats 1000000 in
theorem szProject_t (d : Pj) (v : Value) (left : Int) (w : World) (hr : (trPj d).rd w v) (hk : (trPj d).ok) (h0 : 0 ≤ left) (h3 : left ≤ 1048576) :
    Calls Tryz.prog 5 #[v, .int .i64 left] w fun e w' => e = .returned (.int .i64 (if left < (trPj d).sz then -1 else left - (trPj d).sz)) ∧ Below w.heap.size w w' := by
  obtain ⟨A1, c1, A2, c2, A3, c3, A4, c4, rfl, r1, r2, r3, r4⟩ := rdProject_t hr
  clear hr
  obtain ⟨k0, k1, k2, k3, k4, _⟩ := hk
  have R1 := Lib.hid r1
  have K1 := Lib.hid k1
  clear r1 k1
  have R2 := Lib.hid r2
  have K2 := Lib.hid k2
  clear r2 k2
  have R3 := Lib.hid r3
  have K3 := Lib.hid k3
  clear r3 k3
  have R4 := Lib.hid r4
  have K4 := Lib.hid k4
  clear r4 k4
  clear k0
  have HZ := Lib.hid (show (trPj d).sz = 0 + ((trAs d.acts).sz + ((trLs d.lks).sz + ((trRs d.ress).sz + ((trI d.stk).sz + 0)))) from rfl)
  generalize (trPj d).sz = Z at HZ ⊢
  generalize hz1 : (trAs d.acts).sz = z1 at HZ
  have Z1 := Lib.hid hz1
  clear hz1
  generalize hz2 : (trLs d.lks).sz = z2 at HZ
  have Z2 := Lib.hid hz2
  clear hz2
  generalize hz3 : (trRs d.ress).sz = z3 at HZ
  have Z3 := Lib.hid hz3
  clear hz3
  generalize hz4 : (trI d.stk).sz = z4 at HZ
  have Z4 := Lib.hid hz4
  clear hz4
  generalize hres : (if left < (Z : Int) then -1 else left - (Z : Int)) = res
  have RES := Lib.hid hres
  clear hres
  have S0 := Lib.hid ((Sn.start w).box 27 [.int .i64 d.dl, .slice A1 d.acts.length c1, .slice A2 d.lks.length c2, .slice A3 d.ress.length c3, .slice A4 d.stk.length c4])
  go_enter Tryz.func5, Tryz.ntmps5
  go_wp2_with fail
  refine (szActivityS_t d.acts _ _ _ (by exact S0.out.old R1.out) K1.out (by omega) (by omega)).mono ?_
  rintro e w1 ⟨rfl, b⟩
  rw [Z1.out]
  have S1 := Lib.hid (S0.out.go b)
  clear S0 b
  by_cases hb1 : left < (z1 : Int)
  · rw [if_pos hb1]
    go_wp2
    go_ret
    exact ⟨ret_numZ (by rw [← RES.out, if_pos (by have := HZ.out; omega)]), S1.out.1⟩
  rw [if_neg hb1]
  have hq1 : 0 ≤ left - (z1 : Int) := by omega
  obtain ⟨e0, e1, e2, e3, e4, ef⟩ := (S1.out.bk 0 rfl).c5
  go_wp2_with fail
  clear e0 e1 e2 e3 e4 ef
  refine (szLinkS_t d.lks _ _ _ (by exact S1.out.old R2.out) K2.out (by omega) (by omega)).mono ?_
  rintro e w2 ⟨rfl, b⟩
  rw [Z2.out]
  have S2 := Lib.hid (S1.out.go b)
  clear S1 b
  by_cases hb2 : left - (z1 : Int) < (z2 : Int)
  · rw [if_pos hb2]
    go_wp2
    go_ret
    exact ⟨ret_numZ (by rw [← RES.out, if_pos (by have := HZ.out; omega)]), S2.out.1⟩
  rw [if_neg hb2]
  have hq2 : 0 ≤ left - (z1 : Int) - (z2 : Int) := by omega
  obtain ⟨e0, e1, e2, e3, e4, ef⟩ := (S2.out.bk 0 rfl).c5
  go_wp2_with fail
  clear e0 e1 e2 e3 e4 ef
  refine (szResourceS_t d.ress _ _ _ (by exact S2.out.old R3.out) K3.out (by omega) (by omega)).mono ?_
  rintro e w3 ⟨rfl, b⟩
  rw [Z3.out]
  have S3 := Lib.hid (S2.out.go b)
  clear S2 b
  by_cases hb3 : left - (z1 : Int) - (z2 : Int) < (z3 : Int)
  · rw [if_pos hb3]
    go_wp2
    go_ret
    exact ⟨ret_numZ (by rw [← RES.out, if_pos (by have := HZ.out; omega)]), S3.out.1⟩
  rw [if_neg hb3]
  have hq3 : 0 ≤ left - (z1 : Int) - (z2 : Int) - (z3 : Int) := by omega
  obtain ⟨e0, e1, e2, e3, e4, ef⟩ := (S3.out.bk 0 rfl).c5
  go_wp2_with fail
  clear e0 e1 e2 e3 e4 ef
  refine (szIntS_t d.stk _ _ _ (by exact S3.out.old R4.out) K4.out (by omega) (by omega)).mono ?_
  rintro e w4 ⟨rfl, b⟩
  rw [Z4.out]
  have S4 := Lib.hid (S3.out.go b)
  clear S3 b
  by_cases hb4 : left - (z1 : Int) - (z2 : Int) - (z3 : Int) < (z4 : Int)
  · rw [if_pos hb4]
    go_wp2
    go_ret
    exact ⟨ret_numZ (by rw [← RES.out, if_pos (by have := HZ.out; omega)]), S4.out.1⟩
  rw [if_neg hb4]
  have hq4 : 0 ≤ left - (z1 : Int) - (z2 : Int) - (z3 : Int) - (z4 : Int) := by omega
  go_wp2
  go_ret
  exact ⟨ret_numZ (by rw [← RES.out, if_neg (by have := HZ.out; omega)]; have := HZ.out; omega), S4.out.1⟩

set_option maxRecDepth 100000 in
set_option maxHeartbeats 1000000 in
theorem eqProject_t (d : Pj) (v u : Value) (w : World) (hv : (trPj d).rd w v) (hu : (trPj d).rd w u) :
    Calls Tryz.prog 11 #[v, u] w fun e w' => e = .returned (.bool true) ∧ Below w.heap.size w w' := by
  obtain ⟨A1, c1, A2, c2, A3, c3, A4, c4, rfl, r1, r2, r3, r4⟩ := rdProject_t hv
  obtain ⟨B1, b1, B2, b2, B3, b3, B4, b4, rfl, s1, s2, s3, s4⟩ := rdProject_t hu
  clear hv hu
  have R1 := Lib.hid r1
  have Q1 := Lib.hid s1
  clear r1 s1
  have R2 := Lib.hid r2
  have Q2 := Lib.hid s2
  clear r2 s2
  have R3 := Lib.hid r3
  have Q3 := Lib.hid s3
  clear r3 s3
  have R4 := Lib.hid r4
  have Q4 := Lib.hid s4
  clear r4 s4
  have S0 := Lib.hid (((Sn.start w).box 36 [.int .i64 d.dl, .slice A1 d.acts.length c1, .slice A2 d.lks.length c2, .slice A3 d.ress.length c3, .slice A4 d.stk.length c4]).box 36 [.int .i64 d.dl, .slice B1 d.acts.length b1, .slice B2 d.lks.length b2, .slice B3 d.ress.length b3, .slice B4 d.stk.length b4])
  simp only [World.size_alloc] at S0
  go_enter Tryz.func11, Tryz.ntmps11
  go_wp2_with fail
  refine (eqActivityS_t d.acts _ _ _ (by exact S0.out.old R1.out) (by exact S0.out.old Q1.out)).mono ?_
  rintro e w1 ⟨rfl, b⟩
  have S1 := Lib.hid (S0.out.go b)
  clear S0 b
  obtain ⟨e0, e1, e2, e3, e4, ef⟩ := (S1.out.bk 1 rfl).c5
  obtain ⟨g0, g1, g2, g3, g4, gf⟩ := (S1.out.bk 0 rfl).c5
  go_wp2_with fail
  clear e0 e1 e2 e3 e4 ef g0 g1 g2 g3 g4 gf
  refine (eqLinkS_t d.lks _ _ _ (by exact S1.out.old R2.out) (by exact S1.out.old Q2.out)).mono ?_
  rintro e w2 ⟨rfl, b⟩
  have S2 := Lib.hid (S1.out.go b)
  clear S1 b
  obtain ⟨e0, e1, e2, e3, e4, ef⟩ := (S2.out.bk 1 rfl).c5
  obtain ⟨g0, g1, g2, g3, g4, gf⟩ := (S2.out.bk 0 rfl).c5
  go_wp2_with fail
  clear e0 e1 e2 e3 e4 ef g0 g1 g2 g3 g4 gf
  refine (eqResourceS_t d.ress _ _ _ (by exact S2.out.old R3.out) (by exact S2.out.old Q3.out)).mono ?_
  rintro e w3 ⟨rfl, b⟩
  have S3 := Lib.hid (S2.out.go b)
  clear S2 b
  obtain ⟨e0, e1, e2, e3, e4, ef⟩ := (S3.out.bk 1 rfl).c5
  obtain ⟨g0, g1, g2, g3, g4, gf⟩ := (S3.out.bk 0 rfl).c5
  go_wp2_with fail
  clear e0 e1 e2 e3 e4 ef g0 g1 g2 g3 g4 gf
  refine (eqIntS_t d.stk _ _ _ (by exact S3.out.old R4.out) (by exact S3.out.old Q4.out)).mono ?_
  rintro e w4 ⟨rfl, b⟩
  have S4 := Lib.hid (S3.out.go b)
  clear S3 b
  go_wp2
  go_ret
  exact ⟨rfl, S4.out.1⟩

set_option maxRecDepth 100000 in
set_option maxHeartbeats 1000000 in
theorem toProject_t (d : Pj) (v : Value) (w : World) (hv : (trPj d).rd w v) (hl : (trPj d).sz ≤ 1073741824) :
    Calls Tryz.prog 8 #[v] w fun e w' => ∃ u F, e = .returned u ∧ (trPj d).own w' w.heap.size u F ∧ F.Nodup ∧ Below w.heap.size w w' := by
  obtain ⟨A1, c1, A2, c2, A3, c3, A4, c4, rfl, r1, r2, r3, r4⟩ := rdProject_t hv
  clear hv
  have R1 := Lib.hid r1
  clear r1
  have R2 := Lib.hid r2
  clear r2
  have R3 := Lib.hid r3
  clear r3
  have R4 := Lib.hid r4
  clear r4
  have hz : (trPj d).sz = 0 + ((trAs d.acts).sz + ((trLs d.lks).sz + ((trRs d.ress).sz + ((trI d.stk).sz + 0)))) := rfl
  have hl1 : (trAs d.acts).sz ≤ 1073741824 := by omega
  have hl2 : (trLs d.lks).sz ≤ 1073741824 := by omega
  have hl3 : (trRs d.ress).sz ≤ 1073741824 := by omega
  have hl4 : (trI d.stk).sz ≤ 1073741824 := by omega
  clear hz hl
  have S0 := Lib.hid ((((Sn.start w).box 27 [.int .i64 d.dl, .slice A1 d.acts.length c1, .slice A2 d.lks.length c2, .slice A3 d.ress.length c3, .slice A4 d.stk.length c4]).box 36 [.int .i64 0, .slice none 0 0, .slice none 0 0, .slice none 0 0, .slice none 0 0]).box 36 [.int .i64 d.dl, .slice none 0 0, .slice none 0 0, .slice none 0 0, .slice none 0 0])
  simp only [World.size_alloc] at S0
  go_enter Tryz.func8, Tryz.ntmps8
  go_wp2_with fail
  refine (toActivityS_t d.acts _ _ (by exact S0.out.old R1.out) hl1).mono ?_
  rintro e w1 ⟨u1, F1, rfl, o, h, b⟩
  obtain ⟨U1, n1, rfl⟩ := rows_slice (Tr.own_rd _ _ _ o)
  have S1 := Lib.hid (S0.out.new o h b)
  clear S0 o h b
  obtain ⟨e0, e1, e2, e3, e4, ef⟩ := (S1.out.bk 3 rfl).c5
  obtain ⟨g0, g1, g2, g3, g4, gf⟩ := (S1.out.bk 1 rfl).c5
  go_wp2_with fail
  clear e0 e1 e2 e3 e4 ef g0 g1 g2 g3 g4 gf
  have S1' := Lib.hid (S1.out.boxSet 1 rfl 1 (.slice U1 d.acts.length n1))
  clear S1
  have S1 := S1'
  clear S1'
  refine (toLinkS_t d.lks _ _ (by exact S1.out.old R2.out) hl2).mono ?_
  rintro e w2 ⟨u2, F2, rfl, o, h, b⟩
  obtain ⟨U2, n2, rfl⟩ := rows_slice (Tr.own_rd _ _ _ o)
  have S2 := Lib.hid (S1.out.new o h b)
  clear S1 o h b
  obtain ⟨e0, e1, e2, e3, e4, ef⟩ := (S2.out.bk 4 rfl).c5
  obtain ⟨g0, g1, g2, g3, g4, gf⟩ := (S2.out.bk 2 rfl).c5
  go_wp2_with fail
  clear e0 e1 e2 e3 e4 ef g0 g1 g2 g3 g4 gf
  have S2' := Lib.hid (S2.out.boxSet 2 rfl 2 (.slice U2 d.lks.length n2))
  clear S2
  have S2 := S2'
  clear S2'
  refine (toResourceS_t d.ress _ _ (by exact S2.out.old R3.out) hl3).mono ?_
  rintro e w3 ⟨u3, F3, rfl, o, h, b⟩
  obtain ⟨U3, n3, rfl⟩ := rows_slice (Tr.own_rd _ _ _ o)
  have S3 := Lib.hid (S2.out.new o h b)
  clear S2 o h b
  obtain ⟨e0, e1, e2, e3, e4, ef⟩ := (S3.out.bk 5 rfl).c5
  obtain ⟨g0, g1, g2, g3, g4, gf⟩ := (S3.out.bk 3 rfl).c5
  go_wp2_with fail
  clear e0 e1 e2 e3 e4 ef g0 g1 g2 g3 g4 gf
  have S3' := Lib.hid (S3.out.boxSet 3 rfl 3 (.slice U3 d.ress.length n3))
  clear S3
  have S3 := S3'
  clear S3'
  refine (toIntS_t d.stk _ _ (by exact S3.out.old R4.out) hl4).mono ?_
  rintro e w4 ⟨u4, F4, rfl, o, h, b⟩
  obtain ⟨U4, n4, rfl⟩ := slice_ints (Tr.own_rd _ _ _ o)
  have S4 := Lib.hid (S3.out.new o h b)
  clear S3 o h b
  obtain ⟨e0, e1, e2, e3, e4, ef⟩ := (S4.out.bk 6 rfl).c5
  obtain ⟨g0, g1, g2, g3, g4, gf⟩ := (S4.out.bk 4 rfl).c5
  obtain ⟨z0, z1, z2, z3, z4, zf⟩ := (S4.out.bk 5 rfl).c5
  go_wp2
  clear e0 e1 e2 e3 e4 ef g0 g1 g2 g3 g4 gf
  have SZ := (((((S4.out.boxSet 4 rfl 4 (.slice U4 d.stk.length n4)).boxSet 5 rfl 0 (.int .i64 d.dl)).boxSet 5 rfl 1 (.slice U1 d.acts.length n1)).boxSet 5 rfl 2 (.slice U2 d.lks.length n2)).boxSet 5 rfl 3 (.slice U3 d.ress.length n3)).boxSet 5 rfl 4 (.slice U4 d.stk.length n4)
  have P := SZ.nil0
  have P := (P.pick 1 rfl).pack
  have P := (P.pick 1 rfl).pack
  have P := (P.pick 1 rfl).pack
  have P := (P.pick 1 rfl).pack
  have P := P.pack1 (.int .i64 d.dl)
  refine bodyPost_ret (v := .agg #[.int .i64 d.dl, .slice U1 d.acts.length n1, .slice U2 d.lks.length n2, .slice U3 d.ress.length n3, .slice U4 d.stk.length n4]) (by simp [results, Tryz.results8, go_sem, z0, z1, z2, z3, z4]) rfl ⟨_, _, rfl, (P.own 0 rfl).1, (P.own 0 rfl).2, P.1⟩

set_option maxRecDepth 100000 in
set_option maxHeartbeats 1000000 in
theorem markProject_t (k B : Nat) (d : Pj) (v : Value) (F : List Nat) (w : World) (hown : (trPj d).own w B v F) (hn : F.Nodup) (h0 : 0 < k) (hk : k + cntO (cellsPj d) ≤ 1000000000) :
    Calls Tryz.prog 15 #[v, .int .i64 k] w fun e w' => ∃ F', e = .returned (.int .i64 (k + cntO (cellsPj d) : Nat)) ∧ (Tr.agg (mkdO k (cellsPj d))).own w' B v F' ∧ F'.Nodup ∧ (∀ x ∈ F', x ∈ F) ∧ Wr F w w' := by
  obtain ⟨A1, c1, A2, c2, A3, c3, A4, c4, rfl, _, _, _, _⟩ := rdProject_t (Tr.own_rd _ _ _ hown)
  have hlt := Tr.own_lt _ _ _ hown
  obtain ⟨vs, hvs, hL⟩ := hown
  obtain rfl : vs = [.int .i64 d.dl, .slice A1 d.acts.length c1, .slice A2 d.lks.length c2, .slice A3 d.ress.length c3, .slice A4 d.stk.length c4] := by
    injection hvs with hvs
    exact (congrArg Array.toList hvs).symm
  clear hvs
  have hC : cntO (cellsPj d) = (trAs d.acts).cnt + ((trLs d.lks).cnt + ((trRs d.ress).cnt + ((trI d.stk).cnt + 0))) := rfl
  have CO := Lib.hid (show k + cntO (cellsPj d) = k + (trAs d.acts).cnt + (trLs d.lks).cnt + (trRs d.ress).cnt + (trI d.stk).cnt from by omega)
  have hk2 : k + (trAs d.acts).cnt + (trLs d.lks).cnt + (trRs d.ress).cnt + (trI d.stk).cnt ≤ 1000000000 := by omega
  clear hC hk
  generalize cntO (cellsPj d) = co at CO ⊢
  obtain ⟨hb0, hk0, hs0⟩ := boxes1 w 36 #[.int .i64 d.dl, .slice A1 d.acts.length c1, .slice A2 d.lks.length c2, .slice A3 d.ress.length c3, .slice A4 d.stk.length c4]
  have L0 := Lib.hid (ownL_keep _ _ _ hL (fun j hj => hb0.block j (hlt j hj).2))
  have N0 := Lib.hid hn
  have LT := Lib.hid hlt
  have W0 := Lib.hid (Wr.of_below (F := F) hb0 (Nat.le_refl _))
  clear hL hn hlt hb0 hs0
  go_enter Tryz.func15, Tryz.ntmps15
  go_wp2_with fail
  generalize w.alloc (.cells #[.int .i64 d.dl, .slice A1 d.acts.length c1, .slice A2 d.lks.length c2, .slice A3 d.ress.length c3, .slice A4 d.stk.length c4] 36) = w0 at hk0 L0 W0 ⊢
  have K0 := Lib.hid hk0
  have SUB0 := Lib.hid (fun x (hx : x ∈ F) => hx)
  clear hk0
  obtain ⟨x1, G1, hx1, ho1, hn1, hs1, back1⟩ := ownL_mark L0.out N0.out (i := 1) rfl
  obtain rfl : .slice A1 d.acts.length c1 = x1 := Option.some.inj hx1
  clear hx1
  have BK1 := Lib.hid back1
  have HS1 := Lib.hid hs1
  have HO1 := Lib.hid ho1
  clear back1 hs1 ho1
  refine (markActivityS_t (k) B d.acts _ G1 _ (by exact HO1.out) hn1 (by omega) (by omega)).mono ?_
  rintro e w1 ⟨G1_, rfl, o, h, hs, hw⟩
  obtain ⟨F1, l, nn, ss, ww⟩ := BK1.out _ _ G1_ o h hs hw
  have L1 := Lib.hid l
  have N1 := Lib.hid nn
  have SUB1 := Lib.hid (fun x hx => SUB0.out x (ss x hx))
  have W1 := Lib.hid (W0.out.trans (ww.sub (fun x hx => SUB0.out x hx)))
  have K1 := Lib.hid (K0.out.wr hw (fun e => by have := (LT.out _ (SUB0.out _ (HS1.out _ e))).2; omega))
  clear l nn ss ww o h hs hw L0 N0 SUB0 W0 K0 BK1 HS1 HO1
  obtain ⟨x2, G2, hx2, ho2, hn2, hs2, back2⟩ := ownL_mark L1.out N1.out (i := 2) rfl
  obtain rfl : .slice A2 d.lks.length c2 = x2 := Option.some.inj hx2
  clear hx2
  have BK2 := Lib.hid back2
  have HS2 := Lib.hid hs2
  have HO2 := Lib.hid ho2
  clear back2 hs2 ho2
  obtain ⟨e0, e1, e2, e3, e4, ef⟩ := K1.out.c5
  go_wp2_with fail
  clear e0 e1 e2 e3 e4 ef
  refine (markLinkS_t (k + (trAs d.acts).cnt) B d.lks _ G2 _ (by exact HO2.out) hn2 (by omega) (by omega)).mono ?_
  rintro e w2 ⟨G2_, rfl, o, h, hs, hw⟩
  obtain ⟨F2, l, nn, ss, ww⟩ := BK2.out _ _ G2_ o h hs hw
  have L2 := Lib.hid l
  have N2 := Lib.hid nn
  have SUB2 := Lib.hid (fun x hx => SUB1.out x (ss x hx))
  have W2 := Lib.hid (W1.out.trans (ww.sub (fun x hx => SUB1.out x hx)))
  have K2 := Lib.hid (K1.out.wr hw (fun e => by have := (LT.out _ (SUB1.out _ (HS2.out _ e))).2; omega))
  clear l nn ss ww o h hs hw L1 N1 SUB1 W1 K1 BK2 HS2 HO2
  obtain ⟨x3, G3, hx3, ho3, hn3, hs3, back3⟩ := ownL_mark L2.out N2.out (i := 3) rfl
  obtain rfl : .slice A3 d.ress.length c3 = x3 := Option.some.inj hx3
  clear hx3
  have BK3 := Lib.hid back3
  have HS3 := Lib.hid hs3
  have HO3 := Lib.hid ho3
  clear back3 hs3 ho3
  obtain ⟨e0, e1, e2, e3, e4, ef⟩ := K2.out.c5
  go_wp2_with fail
  clear e0 e1 e2 e3 e4 ef
  refine (markResourceS_t (k + (trAs d.acts).cnt + (trLs d.lks).cnt) B d.ress _ G3 _ (by exact HO3.out) hn3 (by omega) (by omega)).mono ?_
  rintro e w3 ⟨G3_, rfl, o, h, hs, hw⟩
  obtain ⟨F3, l, nn, ss, ww⟩ := BK3.out _ _ G3_ o h hs hw
  have L3 := Lib.hid l
  have N3 := Lib.hid nn
  have SUB3 := Lib.hid (fun x hx => SUB2.out x (ss x hx))
  have W3 := Lib.hid (W2.out.trans (ww.sub (fun x hx => SUB2.out x hx)))
  have K3 := Lib.hid (K2.out.wr hw (fun e => by have := (LT.out _ (SUB2.out _ (HS3.out _ e))).2; omega))
  clear l nn ss ww o h hs hw L2 N2 SUB2 W2 K2 BK3 HS3 HO3
  obtain ⟨x4, G4, hx4, ho4, hn4, hs4, back4⟩ := ownL_mark L3.out N3.out (i := 4) rfl
  obtain rfl : .slice A4 d.stk.length c4 = x4 := Option.some.inj hx4
  clear hx4
  have BK4 := Lib.hid back4
  have HS4 := Lib.hid hs4
  have HO4 := Lib.hid ho4
  clear back4 hs4 ho4
  obtain ⟨e0, e1, e2, e3, e4, ef⟩ := K3.out.c5
  go_wp2_with fail
  clear e0 e1 e2 e3 e4 ef
  refine (markIntS_t (k + (trAs d.acts).cnt + (trLs d.lks).cnt + (trRs d.ress).cnt) B d.stk _ G4 _ (by exact HO4.out) hn4 (by omega) (by omega)).mono ?_
  rintro e w4 ⟨G4_, rfl, o, h, hs, hw⟩
  obtain ⟨F4, l, nn, ss, ww⟩ := BK4.out _ _ G4_ o h hs hw
  have L4 := Lib.hid l
  have N4 := Lib.hid nn
  have SUB4 := Lib.hid (fun x hx => SUB3.out x (ss x hx))
  have W4 := Lib.hid (W3.out.trans (ww.sub (fun x hx => SUB3.out x hx)))
  have K4 := Lib.hid (K3.out.wr hw (fun e => by have := (LT.out _ (SUB3.out _ (HS4.out _ e))).2; omega))
  clear l nn ss ww o h hs hw L3 N3 SUB3 W3 K3 BK4 HS4 HO4
  go_wp2
  go_ret
  first | exact ⟨ret_numZ (by rw [CO.out]; rfl), F4, ⟨_, rfl, L4.out⟩, N4.out, SUB4.out, W4.out⟩ | exact ⟨F4, ret_numZ (by rw [CO.out]; rfl), ⟨_, rfl, L4.out⟩, N4.out, SUB4.out, W4.out⟩

end Go.Proofs.YtgbpomakomddjabGreatDoor
end
