/- DERIVED. CONTRACTS of the laws' helpers over Step and slices of it, by trees. -/
import Derived.Test.YtaglfdkeomjpdaaGreatDats
import Derived.Test.YtaglfdkeomjpdaaGreatModT
import Derived.Deep.RegionWith
import Derived.Deep.RegionHeld3
namespace Go.Proofs.YtaglfdkeomjpdaaGreat
open Go.RowKit
set_option linter.unusedVariables false

theorem thin_StepL (d : (Int × Int)) : thinL (cellsPt d) := ⟨trivial, trivial, trivial⟩
theorem thin_StepS (xs : List (Int × Int)) : (trSt xs).thins := thin_rows cellsPt_len (by omega) thin_StepL xs
theorem szL_Step0 : ∀ xs : List (Int × Int), szL (xs.flatMap cellsPt) = 0
  | [] => rfl
  | x :: xs => by rw [List.flatMap_cons, szL_app, szL_Step0 xs]; rfl

set_option maxRecDepth 100000 in
set_option maxHeartbeats 1000000 in
theorem szStepS_t (xs : List (Int × Int)) (v : Value) (left : Int) (w : World) (hr : (trSt xs).rd w v) (hk : (trSt xs).ok) (h0 : 0 ≤ left) (h3 : left ≤ 1048576) :
    Calls Tryz.prog 82 #[v, .int .i64 left] w fun e w' => e = .returned (.int .i64 (if left < (trSt xs).sz then -1 else left - (trSt xs).sz)) ∧ Below w.heap.size w w' := by
  obtain ⟨hl, A, c, rfl, ga⟩ := rdStepS_t hr
  have GA := Lib.hid ga
  clear ga hr
  have HZ := Lib.hid (show (trSt xs).sz = xs.length + szL (xs.flatMap cellsPt) from rfl)
  generalize (trSt xs).sz = Z at HZ ⊢
  generalize hres : (if left < (Z : Int) then -1 else left - (Z : Int)) = res
  have RES := Lib.hid hres
  clear hres
  have hflat : szL (xs.flatMap cellsPt) = 0 := szL_Step0 xs
  by_cases hn : left < (xs.length : Int)
  · have hn' : left - (xs.length : Int) < 0 := by omega
    go_enter Tryz.func82, Tryz.ntmps82
    go_wp2
    go_ret
    exact ⟨ret_numZ (by rw [← RES.out, if_pos (by have := HZ.out; omega)]), Below.refl _ _⟩
  · have hn' : ¬ left - (xs.length : Int) < 0 := by omega
    go_enter Tryz.func82, Tryz.ntmps82
    go_wp2
    go_ret
    exact ⟨ret_numZ (by rw [← RES.out, if_neg (by have := HZ.out; omega)]; have := HZ.out; omega), Below.refl _ _⟩

set_option maxRecDepth 100000 in
set_option maxHeartbeats 1000000 in
theorem eqStep_t (d : (Int × Int)) (v u : Value) (w : World) (hv : (trPt d).rd w v) (hu : (trPt d).rd w u) :
    Calls Tryz.prog 119 #[v, u] w fun e w' => e = .returned (.bool true) ∧ Below w.heap.size w w' := by
  obtain rfl := rdStep_t hv
  obtain rfl := rdStep_t hu
  clear hv hu
  have S0 := Lib.hid (((Sn.start w).box 158 [.int .i64 d.1, .int .i64 d.2]).box 158 [.int .i64 d.1, .int .i64 d.2])
  simp only [World.size_alloc] at S0
  go_enter Tryz.func119, Tryz.ntmps119
  go_wp2
  go_ret
  exact ⟨rfl, S0.out.1⟩

set_option maxRecDepth 100000 in
set_option maxHeartbeats 1000000 in
theorem eqStepS_t (xs : List (Int × Int)) (v u : Value) (w : World) (hv : (trSt xs).rd w v) (hu : (trSt xs).rd w u) :
    Calls Tryz.prog 102 #[v, u] w fun e w' => e = .returned (.bool true) ∧ Below w.heap.size w w' := by
  obtain ⟨hl, A, c, rfl, ga⟩ := rdStepS_t hv
  obtain ⟨_, B, c2, rfl, gb⟩ := rdStepS_t hu
  have GA := Lib.hid ga
  have GB := Lib.hid gb
  clear ga gb hv hu
  go_enter Tryz.func102, Tryz.ntmps102
  go_wp2
  go_loopw [5] (fun i wr => ∃ k : Nat, k ≤ xs.length ∧ i = .int .i64 k ∧ Below w.heap.size w wr) (fun i _ => xs.length - (intOf i).toNat)
  case atStart => exact ⟨0, Nat.zero_le _, rfl, Below.refl _ _⟩
  case round =>
    obtain ⟨k, hk, rfl, hbel⟩ := hrel
    by_cases hlt : k < xs.length
    · have hlt' : (k : Int) < (xs.length : Int) := by omega
      obtain ⟨b1, o1, rfl, hb1, hc⟩ := GA.out k hlt
      obtain ⟨b2, o2, rfl, hb2, hd⟩ := GB.out k hlt
      obtain ⟨hc0, hc1⟩ := hc k hlt
      obtain ⟨hd0, hd1⟩ := hd k hlt
      have hx0 := (hbel.cell (p := ⟨b1, o1 + k * 2, none⟩) hb1).trans hc0
      have hx1 := (hbel.cell (p := ⟨b1, o1 + k * 2 + 1, none⟩) hb1).trans hc1
      have hy0 := (hbel.cell (p := ⟨b2, o2 + k * 2, none⟩) hb2).trans hd0
      have hy1 := (hbel.cell (p := ⟨b2, o2 + k * 2 + 1, none⟩) hb2).trans hd1
      have HM := Lib.hid (mk_rdStep_t (w := wr.drew) (d := xs[k]) )
      have HN := Lib.hid (mk_rdStep_t (w := wr.drew) (d := xs[k]) )
      clear hc hd hc0 hd0 hc1 hd1 
      have HB := Lib.hid hbel
      clear hbel
      generalize xs[k] = m at hx0 hy0 hx1 hy1 HM HN
      go_wp2
      go_region_with (go_at_call 119; refine (eqStep_t m _ _ _ (by exact HM.out) (by exact HN.out)).mono ?_; rintro e w1 ⟨rfl, hb3⟩)
      all_goals
        go_wp2
        go_roundw
        case rel => exact ⟨k + 1, by omega, by go_num, HB.out.drew.trans (hb3.mono HB.out.size)⟩
        case measure => simp [intOf]; omega
    · have hge : ¬ (k : Int) < (xs.length : Int) := by omega
      have HB := Lib.hid hbel
      clear hbel
      go_wp2
      go_ret
      exact ⟨rfl, HB.out⟩

set_option maxRecDepth 100000 in
set_option maxHeartbeats 1000000 in
theorem toStep_t (d : (Int × Int)) (v : Value) (w : World) (hv : (trPt d).rd w v) (hl : (trPt d).sz ≤ 1073741824) :
    Calls Tryz.prog 111 #[v] w fun e w' => ∃ u F, e = .returned u ∧ (trPt d).own w' w.heap.size u F ∧ F.Nodup ∧ Below w.heap.size w w' := by
  obtain rfl := rdStep_t hv
  clear hv hl
  go_enter Tryz.func111, Tryz.ntmps111
  go_wp2
  refine bodyPost_ret (v := .agg #[.int .i64 d.1, .int .i64 d.2]) (by simp [results, Tryz.results111, go_sem]) rfl ⟨_, [], rfl, ⟨_, rfl, ownL_ones (xs := [.int .i64 d.1, .int .i64 d.2]) |>.2 ⟨rfl, rfl⟩⟩, by simp, ?_⟩
  repeat (first | exact Below.refl _ _ | refine Below.setCell ?_ (by simp) _ | refine Below.alloc ?_ (by first | (simp; done) | (simp; omega)) _)

theorem infoStep_t : (Tryz.prog.info? 158).map (fun i => (i.zero, i.size, i.bytes)) = some (some (.agg #[.int .i64 0, .int .i64 0]), 2, 16) := by kernel_rfl

set_option maxRecDepth 100000 in
set_option maxHeartbeats 1000000 in
theorem toStepS_t (xs : List (Int × Int)) (v : Value) (w : World) (hv : (trSt xs).rd w v) (hl : (trSt xs).sz ≤ 1073741824) :
    Calls Tryz.prog 88 #[v] w fun e w' => ∃ u F, e = .returned u ∧ (trSt xs).own w' w.heap.size u F ∧ F.Nodup ∧ Below w.heap.size w w' := by
  obtain ⟨hla, A, c, rfl, ga⟩ := rdStepS_t hv
  have GA := Lib.hid ga
  clear ga hv
  have hsz : (trSt xs).sz = xs.length + szL (xs.flatMap cellsPt) := rfl
  rw [hsz] at hl
  clear hsz
  obtain ⟨i0, hi, hz0, hz1, hz2⟩ := info_parts infoStep_t
  go_enter Tryz.func88, Tryz.ntmps88
  go_wp2_with (at_make; refine wpList_make_full _ rfl _ _ 101 rfl w.heap.size 158 i0 (.agg #[.int .i64 0, .int .i64 0]) 2 Tryz.underlying101 hi hz0 hz1 .i64 .i64 _ _ xs.length rfl rfl rfl rfl (by rw [hz2]; omega) (by unfold maxLen; omega) (Nat.le_refl _) ?_; intro w1 hown1 hgrow1)
  have hbel1 : Below w.heap.size w w1 := (Below.refl _ _).grown hgrow1 (Nat.le_refl _) (by simp)
  have hm := hown1.1
  generalize hms : (madeCells _ (xs.length * 2)).toList = raw at hown1 hm
  have HM := Lib.hid hm
  have HO := Lib.hid hown1
  clear hm hms hgrow1 hown1
  go_loopw [4] (fun i wr => ∃ k : Nat, k ≤ xs.length ∧ i = .int .i64 k ∧ (∃ F, RowAt wr w.heap.size 158 2 xs.length w.heap.size xs.length (mixR cellsPt 2 raw xs k) F) ∧ Below w.heap.size w wr) (fun i _ => xs.length - (intOf i).toNat)
  case atStart => exact ⟨0, Nat.zero_le _, rfl, ⟨_, by rw [mixR_zero]; exact row_made HO.out⟩, hbel1⟩
  case round =>
    obtain ⟨k, hk, rfl, ⟨F, how⟩, hbel⟩ := hrel
    by_cases hlt : k < xs.length
    · have hlt' : (k : Int) < (xs.length : Int) := by omega
      obtain ⟨b, o, rfl, hb, hc⟩ := GA.out k hlt
      obtain ⟨hc0, hc1⟩ := hc k hlt
      have hx0 := (hbel.cell (p := ⟨b, o + k * 2, none⟩) hb).trans hc0
      have hx1 := (hbel.cell (p := ⟨b, o + k * 2 + 1, none⟩) hb).trans hc1
      have hse := szL_flat_at (f := cellsPt) hlt
      have HRD := Lib.hid (mk_rdStep_t (w := wr) (d := xs[k]) )
      have hle : (trPt xs[k]).sz ≤ 1073741824 := by
        have : (trPt xs[k]).sz = szL (cellsPt xs[k]) := rfl
        omega
      have HST := Lib.hid (mixR_set cellsPt_len HM.out hlt)
      have HLEN := Lib.hid (mixR_len cellsPt_len HM.out hk)
      clear hc hse hc0 hc1 
      generalize xs[k] = m at hx0 hx1 HRD HST hle
      have HB := Lib.hid hbel
      have HW := Lib.hid how
      clear hbel how
      go_wp2_with fail
      refine (toStep_t m _ _ HRD.out hle).mono ?_
      rintro e w2 ⟨u, H, rfl, ho, hn, hb2⟩
      obtain rfl := rdStep_t (Tr.own_rd _ _ _ ho)
      have how2 := HW.out.below hb2 (Nat.le_refl _)
      have hcl : (mixR cellsPt 2 raw xs k).length = xs.length * 2 := HLEN.out
      obtain ⟨y0, hy0⟩ := how2.some (i := k * 2) (by omega)
      obtain ⟨y1, hy1⟩ := how2.some (i := k * 2 + 1) (by omega)
      have hf := how2.frozen
      have hgw := how2.lt.2
      have hw0 := HW.out.lt.2
      obtain ⟨vs, hvs, hoL⟩ := ho
      obtain rfl : vs = [.int .i64 m.1, .int .i64 m.2] := by
        injection hvs with hvs
        exact (congrArg Array.toList hvs).symm
      obtain ⟨F', hp, _⟩ := RowAt.putL (K := wr.heap.size) HB.out.size hw0 (cellsPt m) _ w2 _ F H (k * 2) how2 (by rw [cellsPt_len]; omega) hoL hn (fun j hj hj2 => by
        have h1 := (ownL_lt _ _ _ hoL j hj).1
        have h2 := (HW.out.allLt j hj2).2
        omega)
      rw [HST.out] at hp
      have HP := Lib.hid hp
      have HBZ := Lib.hid (setL_below (Nat.le_refl _) [.int .i64 m.1, .int .i64 m.2] w2 (k * 2) (HB.out.trans (hb2.mono HB.out.size)))
      clear hp hoL how2 hb2 hn hcl hvs
      go_wp2
      go_roundw
      case rel => exact ⟨k + 1, by omega, by go_num, ⟨F', HP.out⟩, HBZ.out⟩
      case measure => simp [intOf]; omega
    · have hge : ¬ (k : Int) < (xs.length : Int) := by omega
      obtain rfl : k = xs.length := by omega
      rw [mixR_full HM.out] at how
      have HW := Lib.hid how
      have HB := Lib.hid hbel
      clear how hbel
      go_wp2
      go_ret
      exact ⟨_, rfl, F, HW.out.1, HW.out.2, HB.out⟩

set_option maxRecDepth 100000 in
set_option maxHeartbeats 2000000 in
theorem markStepS_t (k B : Nat) (xs : List (Int × Int)) (v : Value) (F : List Nat) (w : World) (hown : (trSt xs).own w B v F) (hn : F.Nodup) (h0 : 0 < k) (hk : k + (trSt xs).cnt ≤ 1000000000) :
    Calls Tryz.prog 79 #[v, .int .i64 k] w fun e w' => ∃ F', e = .returned (.int .i64 (k + (trSt xs).cnt : Nat)) ∧ ((trSt xs).mkd k).own w' B v F' ∧ F'.Nodup ∧ (∀ x ∈ F', x ∈ F) ∧ Wr F w w' := by
  rcases own_form hown with ⟨rfl, hl⟩ | ⟨g, cap, rfl, hcap, hmx⟩
  · obtain rfl : xs = [] := List.eq_nil_of_length_eq_zero hl
    have HO := Lib.hid hown
    have HN := Lib.hid hn
    clear hown hn hl
    go_enter Tryz.func79, Tryz.ntmps79
    go_wp2
    refine wp_loop_rounds 1 ?_
    rw [rounds_succ]
    go_wp2
    go_ret
    first | exact ⟨rfl, F, HO.out, HN.out, fun _ h => h, Wr.refl _ _⟩ | exact ⟨F, rfl, HO.out, HN.out, fun _ h => h, Wr.refl _ _⟩
  have HO := Lib.hid (show RowAt w B 158 2 xs.length g cap (xs.flatMap cellsPt) F from ⟨hown, hn⟩)
  clear hown hn
  have hC : (trSt xs).cnt = cntL (xs.flatMap cellsPt) := rfl
  rw [hC] at hk ⊢
  clear hC
  go_enter Tryz.func79, Tryz.ntmps79
  go_wp2
  go_loopw [1, 5] (fun q i wr => ∃ j : Nat, j ≤ xs.length ∧ i = .int .i64 j ∧ q = .int .i64 (k + cntL ((xs.flatMap cellsPt).take (j * 2)) : Nat) ∧ (∃ F', RowAt wr B 158 2 xs.length g cap (mixC k (xs.flatMap cellsPt) (j * 2)) F' ∧ ∀ x ∈ F', x ∈ F) ∧ Wr F w wr) (fun _ i _ => xs.length - (intOf i).toNat)
  case atStart => exact ⟨0, Nat.zero_le _, rfl, by simp [cntL], ⟨F, by rw [Nat.zero_mul]; rw [mixC_zero]; exact HO.out, fun _ h => h⟩, Wr.refl _ _⟩
  case round =>
    obtain ⟨j, hj, rfl, rfl, ⟨F1, how, hsub⟩, hwr⟩ := hrel
    by_cases hlt : j < xs.length
    · have hlt' : (j : Int) < (xs.length : Int) := by omega
      have t0 : (xs.flatMap cellsPt)[j * 2]? = some (.one (.int .i64 xs[j].1)) := by simpa [cellsPt] using flatMap_get cellsPt_len xs j hlt 0 (by omega)
      have a0 : cntL ((xs.flatMap cellsPt).take (j * 2 + 1)) = cntL ((xs.flatMap cellsPt).take (j * 2)) + 1 := cntL_take t0
      have t1 : (xs.flatMap cellsPt)[j * 2 + 1]? = some (.one (.int .i64 xs[j].2)) := by simpa [cellsPt] using flatMap_get cellsPt_len xs j hlt 1 (by omega)
      have a1 : cntL ((xs.flatMap cellsPt).take (j * 2 + 2)) = cntL ((xs.flatMap cellsPt).take (j * 2 + 1)) + 1 := cntL_take t1
      have hle := cntL_le (xs.flatMap cellsPt) (j * 2 + 2)
      generalize hQ : k + cntL ((xs.flatMap cellsPt).take (j * 2)) = Q
      have e0 : k + cntL ((xs.flatMap cellsPt).take (j * 2)) = Q := by omega
      have e1 : k + cntL ((xs.flatMap cellsPt).take (j * 2 + 1)) = Q + 1 := by omega
      have e2 : k + cntL ((xs.flatMap cellsPt).take (j * 2 + 2)) = Q + 1 + 1 := by omega
      have hbd : Q + 1 + 1 ≤ 1000000000 := by omega
      have hQ0 : 0 < Q := by omega
      clear hle a0 a1
      have T0 := Lib.hid t0
      clear t0
      have T1 := Lib.hid t1
      clear t1
      have E0 := Lib.hid e0
      clear e0
      have E1 := Lib.hid e1
      clear e1
      have E2 := Lib.hid e2
      clear e2
      have HQ := Lib.hid hQ
      clear hQ
      have hlen := how.len
      rw [mixC_len] at hlen
      have hjs : j * 2 + 2 ≤ xs.length * 2 := by omega
      have HN_ := Lib.hid (show ((j + 1) * 2 = j * 2 + 2) from by omega)
      have HOW0 := Lib.hid how
      have HSUB0 := Lib.hid hsub
      have HWR0 := Lib.hid hwr
      clear how hsub hwr
      obtain ⟨z0, hz0⟩ := HOW0.out.some (i := j * 2) (by rw [mixC_len]; omega)
      obtain ⟨z1, hz1⟩ := HOW0.out.some (i := j * 2 + 1) (by rw [mixC_len]; omega)
      have hf := HOW0.out.frozen
      have hgw := HOW0.out.lt.2
      obtain ⟨G0, m0, ms0, mw0⟩ := rowAt_mark1 HOW0.out T0.out (y := .int .i64 ((Q : Nat) : Int)) (by show Value.int .i64 ((k + cntL _ : Nat) : Int) = _; rw [E0.out])
      have HOW1 := Lib.hid m0
      have HSUB1 := Lib.hid (fun x hx => HSUB0.out x (ms0 x hx))
      have HWR1 := Lib.hid (HWR0.out.trans (mw0.sub (fun x hx => HSUB0.out x hx)))
      clear m0 ms0 mw0 HOW0 HSUB0 HWR0
      obtain ⟨G1, m1, ms1, mw1⟩ := rowAt_mark1 HOW1.out T1.out (y := .int .i64 ((Q + 1 : Nat) : Int)) (by show Value.int .i64 ((k + cntL _ : Nat) : Int) = _; rw [E1.out])
      have HOW2 := Lib.hid m1
      have HSUB2 := Lib.hid (fun x hx => HSUB1.out x (ms1 x hx))
      have HWR2 := Lib.hid (HWR1.out.trans (mw1.sub (fun x hx => HSUB1.out x hx)))
      clear m1 ms1 mw1 HOW1 HSUB1 HWR1
      have HF := Lib.hid (show RowAt _ B 158 2 xs.length g cap (mixC k (xs.flatMap cellsPt) ((j + 1) * 2)) _ from by rw [HN_.out]; exact HOW2.out)
      have HC := Lib.hid (show k + cntL ((xs.flatMap cellsPt).take ((j + 1) * 2)) = Q + 1 + 1 from by rw [HN_.out]; exact E2.out)
      go_wp2
      go_roundw
      case rel => exact ⟨j + 1, by omega, by go_num, by rw [HC.out]; rfl, ⟨_, HF.out, HSUB2.out⟩, HWR2.out⟩
      case measure => simp [intOf]; omega
    · have hge : ¬ (j : Int) < (xs.length : Int) := by omega
      obtain rfl : j = xs.length := by omega
      have hfl := flatMap_len cellsPt_len xs
      rw [mixC_full k _ (by omega)] at how
      rw [List.take_of_length_le (by omega)]
      have HW := Lib.hid how
      have HB := Lib.hid hwr
      have HS := Lib.hid hsub
      clear how hwr hsub hfl
      go_wp2
      go_ret
      first | exact ⟨rfl, F1, HW.out.1, HW.out.2, HS.out, HB.out⟩ | exact ⟨F1, rfl, HW.out.1, HW.out.2, HS.out, HB.out⟩

end Go.Proofs.YtaglfdkeomjpdaaGreat
