/- DERIVED. CONTRACTS of the laws' helpers over Step and slices of it, by trees. -/
import Derived.Test.YtaglfdkeomjpdabDats
import Derived.Test.YtaglfdkeomjpdabModT
import Derived.Deep.RegionWith
import Derived.Deep.RegionHeld3
namespace Go.Proofs.Ytaglfdkeomjpdab
open Go.RowKit
set_option linter.unusedVariables false

theorem thin_StepL (d : (Int × Int)) : thinL (cellsPt d) := ⟨trivial, trivial, trivial⟩
theorem thin_StepS (xs : List (Int × Int)) : (trSt xs).thins := thin_rows cellsPt_len (by omega) thin_StepL xs
theorem szL_Step0 : ∀ xs : List (Int × Int), szL (xs.flatMap cellsPt) = 0
  | [] => rfl
  | x :: xs => by rw [List.flatMap_cons, szL_app, szL_Step0 xs]; rfl

set_option maxRecDepth 100000 in
set_option maxHeartbeats 1000000 in
theorem szStepS_t (xs : List (Int × Int)) (v : Value) (left : Int) (w : World) (hr : (trSt xs).rd w v) (hk : (trSt xs).ok) (h0 : 0 ≤ left) (h3 : left ≤ 1048576) :
    Calls Try.prog 90 #[v, .int .i64 left] w fun e w' => e = .returned (.int .i64 (if left < (trSt xs).sz then -1 else left - (trSt xs).sz)) ∧ Below w.heap.size w w' := by
  obtain ⟨hl, A, c, rfl, ga⟩ := rdStepS_t hr
  have GA := Lib.hid ga
  clear ga hr
  have HZ := Lib.hid (show (trSt xs).sz = xs.length + szL (xs.flatMap cellsPt) from rfl)
  generalize (trSt xs).sz = Z at HZ ⊢
  generalize hres : (if left < (Z : Int) then -1 else left - (Z : Int)) = res
  have RES := Lib.hid hres
  clear hres
  have hflat : szL (xs.flatMap cellsPt) = 0 := szL_Step0 xs
  by_cases hn : left < (xs.length : Int)
  · have hn' : left - (xs.length : Int) < 0 := by omega
    go_enter Try.func90, Try.ntmps90
    go_wp2
    go_ret
    exact ⟨ret_numZ (by rw [← RES.out, if_pos (by have := HZ.out; omega)]), Below.refl _ _⟩
  · have hn' : ¬ left - (xs.length : Int) < 0 := by omega
    go_enter Try.func90, Try.ntmps90
    go_wp2
    go_ret
    exact ⟨ret_numZ (by rw [← RES.out, if_neg (by have := HZ.out; omega)]; have := HZ.out; omega), Below.refl _ _⟩

set_option maxRecDepth 100000 in
set_option maxHeartbeats 1000000 in
theorem eqStep_t (d : (Int × Int)) (v u : Value) (w : World) (hv : (trPt d).rd w v) (hu : (trPt d).rd w u) :
    Calls Try.prog 120 #[v, u] w fun e w' => e = .returned (.bool true) ∧ Below w.heap.size w w' := by
  obtain rfl := rdStep_t hv
  obtain rfl := rdStep_t hu
  clear hv hu
  have S0 := Lib.hid (((Sn.start w).box 110 [.int .i64 d.1, .int .i64 d.2]).box 110 [.int .i64 d.1, .int .i64 d.2])
  simp only [World.size_alloc] at S0
  go_enter Try.func120, Try.ntmps120
  go_wp2
  go_ret
  exact ⟨rfl, S0.out.1⟩

set_option maxRecDepth 100000 in
set_option maxHeartbeats 1000000 in
theorem eqStepS_t (xs : List (Int × Int)) (v u : Value) (w : World) (hv : (trSt xs).rd w v) (hu : (trSt xs).rd w u) :
    Calls Try.prog 104 #[v, u] w fun e w' => e = .returned (.bool true) ∧ Below w.heap.size w w' := by
  obtain ⟨hl, A, c, rfl, ga⟩ := rdStepS_t hv
  obtain ⟨_, B, c2, rfl, gb⟩ := rdStepS_t hu
  have GA := Lib.hid ga
  have GB := Lib.hid gb
  clear ga gb hv hu
  go_enter Try.func104, Try.ntmps104
  go_wp2
  go_loopw [5] (fun i wr => ∃ k : Nat, k ≤ xs.length ∧ i = .int .i64 k ∧ Below w.heap.size w wr) (fun i _ => xs.length - (intOf i).toNat)
  case atStart => exact ⟨0, Nat.zero_le _, rfl, Below.refl _ _⟩
  case round =>
    obtain ⟨k, hk, rfl, hbel⟩ := hrel
    by_cases hlt : k < xs.length
    · have hlt' : (k : Int) < (xs.length : Int) := by omega
      obtain ⟨b1, o1, rfl, hb1, hc⟩ := GA.out k hlt
      obtain ⟨b2, o2, rfl, hb2, hd⟩ := GB.out k hlt
      obtain ⟨hc0, hc1⟩ := hc k hlt
      obtain ⟨hd0, hd1⟩ := hd k hlt
      have hx0 := (hbel.cell (p := ⟨b1, o1 + k * 2, none⟩) hb1).trans hc0
      have hx1 := (hbel.cell (p := ⟨b1, o1 + k * 2 + 1, none⟩) hb1).trans hc1
      have hy0 := (hbel.cell (p := ⟨b2, o2 + k * 2, none⟩) hb2).trans hd0
      have hy1 := (hbel.cell (p := ⟨b2, o2 + k * 2 + 1, none⟩) hb2).trans hd1
      have HM := Lib.hid (mk_rdStep_t (w := wr.drew) (d := xs[k]) )
      have HN := Lib.hid (mk_rdStep_t (w := wr.drew) (d := xs[k]) )
      clear hc hd hc0 hd0 hc1 hd1 
      have HB := Lib.hid hbel
      clear hbel
      generalize xs[k] = m at hx0 hy0 hx1 hy1 HM HN
      go_wp2
      go_region_with (go_at_call 120; refine (eqStep_t m _ _ _ (by exact HM.out) (by exact HN.out)).mono ?_; rintro e w1 ⟨rfl, hb3⟩)
      all_goals
        go_wp2
        go_roundw
        case rel => exact ⟨k + 1, by omega, by go_num, HB.out.drew.trans (hb3.mono HB.out.size)⟩
        case measure => simp [intOf]; omega
    · have hge : ¬ (k : Int) < (xs.length : Int) := by omega
      have HB := Lib.hid hbel
      clear hbel
      go_wp2
      go_ret
      exact ⟨rfl, HB.out⟩

set_option maxRecDepth 100000 in
set_option maxHeartbeats 1000000 in
theorem toStep_t (d : (Int × Int)) (v : Value) (w : World) (hv : (trPt d).rd w v) (hl : (trPt d).sz ≤ 1073741824) :
    Calls Try.prog 111 #[v] w fun e w' => ∃ u F, e = .returned u ∧ (trPt d).own w' w.heap.size u F ∧ F.Nodup ∧ Below w.heap.size w w' := by
  obtain rfl := rdStep_t hv
  clear hv hl
  go_enter Try.func111, Try.ntmps111
  go_wp2
  refine bodyPost_ret (v := .agg #[.int .i64 d.1, .int .i64 d.2]) (by simp [results, Try.results111, go_sem]) rfl ⟨_, [], rfl, ⟨_, rfl, ownL_ones (xs := [.int .i64 d.1, .int .i64 d.2]) |>.2 ⟨rfl, rfl⟩⟩, by simp, ?_⟩
  repeat (first | exact Below.refl _ _ | refine Below.setCell ?_ (by simp) _ | refine Below.alloc ?_ (by first | (simp; done) | (simp; omega)) _)

theorem infoStep_t : (Try.prog.info? 110).map (fun i => (i.zero, i.size, i.bytes)) = some (some (.agg #[.int .i64 0, .int .i64 0]), 2, 16) := by kernel_rfl

set_option maxRecDepth 100000 in
set_option maxHeartbeats 1000000 in
theorem toStepS_t (xs : List (Int × Int)) (v : Value) (w : World) (hv : (trSt xs).rd w v) (hl : (trSt xs).sz ≤ 1073741824) :
    Calls Try.prog 96 #[v] w fun e w' => ∃ u F, e = .returned u ∧ (trSt xs).own w' w.heap.size u F ∧ F.Nodup ∧ Below w.heap.size w w' := by
  obtain ⟨hla, A, c, rfl, ga⟩ := rdStepS_t hv
  have GA := Lib.hid ga
  clear ga hv
  have hsz : (trSt xs).sz = xs.length + szL (xs.flatMap cellsPt) := rfl
  rw [hsz] at hl
  clear hsz
  obtain ⟨i0, hi, hz0, hz1, hz2⟩ := info_parts infoStep_t
  go_enter Try.func96, Try.ntmps96
  go_wp2_with (at_make; refine wpList_make_full _ rfl _ _ 54 rfl w.heap.size 110 i0 (.agg #[.int .i64 0, .int .i64 0]) 2 Try.underlying54 hi hz0 hz1 .i64 .i64 _ _ xs.length rfl rfl rfl rfl (by rw [hz2]; omega) (by unfold maxLen; omega) (Nat.le_refl _) ?_; intro w1 hown1 hgrow1)
  have hbel1 : Below w.heap.size w w1 := (Below.refl _ _).grown hgrow1 (Nat.le_refl _) (by simp)
  have hm := hown1.1
  generalize hms : (madeCells _ (xs.length * 2)).toList = raw at hown1 hm
  have HM := Lib.hid hm
  have HO := Lib.hid hown1
  clear hm hms hgrow1 hown1
  go_loopw [4] (fun i wr => ∃ k : Nat, k ≤ xs.length ∧ i = .int .i64 k ∧ (∃ F, RowAt wr w.heap.size 110 2 xs.length w.heap.size xs.length (mixR cellsPt 2 raw xs k) F) ∧ Below w.heap.size w wr) (fun i _ => xs.length - (intOf i).toNat)
  case atStart => exact ⟨0, Nat.zero_le _, rfl, ⟨_, by rw [mixR_zero]; exact row_made HO.out⟩, hbel1⟩
  case round =>
    obtain ⟨k, hk, rfl, ⟨F, how⟩, hbel⟩ := hrel
    by_cases hlt : k < xs.length
    · have hlt' : (k : Int) < (xs.length : Int) := by omega
      obtain ⟨b, o, rfl, hb, hc⟩ := GA.out k hlt
      obtain ⟨hc0, hc1⟩ := hc k hlt
      have hx0 := (hbel.cell (p := ⟨b, o + k * 2, none⟩) hb).trans hc0
      have hx1 := (hbel.cell (p := ⟨b, o + k * 2 + 1, none⟩) hb).trans hc1
      have hse := szL_flat_at (f := cellsPt) hlt
      have HRD := Lib.hid (mk_rdStep_t (w := wr) (d := xs[k]) )
      have hle : (trPt xs[k]).sz ≤ 1073741824 := by
        have : (trPt xs[k]).sz = szL (cellsPt xs[k]) := rfl
        omega
      have HST := Lib.hid (mixR_set cellsPt_len HM.out hlt)
      have HLEN := Lib.hid (mixR_len cellsPt_len HM.out hk)
      clear hc hse hc0 hc1 
      generalize xs[k] = m at hx0 hx1 HRD HST hle
      have HB := Lib.hid hbel
      have HW := Lib.hid how
      clear hbel how
      go_wp2_with fail
      refine (toStep_t m _ _ HRD.out hle).mono ?_
      rintro e w2 ⟨u, H, rfl, ho, hn, hb2⟩
      obtain rfl := rdStep_t (Tr.own_rd _ _ _ ho)
      have how2 := HW.out.below hb2 (Nat.le_refl _)
      have hcl : (mixR cellsPt 2 raw xs k).length = xs.length * 2 := HLEN.out
      obtain ⟨y0, hy0⟩ := how2.some (i := k * 2) (by omega)
      obtain ⟨y1, hy1⟩ := how2.some (i := k * 2 + 1) (by omega)
      have hf := how2.frozen
      have hgw := how2.lt.2
      have hw0 := HW.out.lt.2
      obtain ⟨vs, hvs, hoL⟩ := ho
      obtain rfl : vs = [.int .i64 m.1, .int .i64 m.2] := by
        injection hvs with hvs
        exact (congrArg Array.toList hvs).symm
      obtain ⟨F', hp, _⟩ := RowAt.putL (K := wr.heap.size) HB.out.size hw0 (cellsPt m) _ w2 _ F H (k * 2) how2 (by rw [cellsPt_len]; omega) hoL hn (fun j hj hj2 => by
        have h1 := (ownL_lt _ _ _ hoL j hj).1
        have h2 := (HW.out.allLt j hj2).2
        omega)
      rw [HST.out] at hp
      have HP := Lib.hid hp
      have HBZ := Lib.hid (setL_below (Nat.le_refl _) [.int .i64 m.1, .int .i64 m.2] w2 (k * 2) (HB.out.trans (hb2.mono HB.out.size)))
      clear hp hoL how2 hb2 hn hcl hvs
      go_wp2
      go_roundw
      case rel => exact ⟨k + 1, by omega, by go_num, ⟨F', HP.out⟩, HBZ.out⟩
      case measure => simp [intOf]; omega
    · have hge : ¬ (k : Int) < (xs.length : Int) := by omega
      obtain rfl : k = xs.length := by omega
      rw [mixR_full HM.out] at how
      have HW := Lib.hid how
      have HB := Lib.hid hbel
      clear how hbel
      go_wp2
      go_ret
      exact ⟨_, rfl, F, HW.out.1, HW.out.2, HB.out⟩

end Go.Proofs.Ytaglfdkeomjpdab
