/- DERIVED. CONTRACTS of the laws' helpers over Link and slices of it, by trees. -/
import Derived.Test.YtaglfdkeomjpdabDats
import Derived.Test.YtaglfdkeomjpdabModT
import Derived.Deep.RegionWith
import Derived.Deep.RegionHeld3
namespace Go.Proofs.Ytaglfdkeomjpdab
open Go.RowKit
set_option linter.unusedVariables false

theorem thin_LinkL (d : Lk) : thinL (cellsL d) := ⟨trivial, trivial, trivial, trivial, trivial⟩
theorem thin_LinkS (xs : List Lk) : (trLs xs).thins := thin_rows cellsL_len (by omega) thin_LinkL xs
theorem szL_Link0 : ∀ xs : List Lk, szL (xs.flatMap cellsL) = 0
  | [] => rfl
  | x :: xs => by rw [List.flatMap_cons, szL_app, szL_Link0 xs]; rfl

set_option maxRecDepth 100000 in
set_option maxHeartbeats 1000000 in
theorem szLinkS_t (xs : List Lk) (v : Value) (left : Int) (w : World) (hr : (trLs xs).rd w v) (hk : (trLs xs).ok) (h0 : 0 ≤ left) (h3 : left ≤ 1048576) :
    Calls Try.prog 22 #[v, .int .i64 left] w fun e w' => e = .returned (.int .i64 (if left < (trLs xs).sz then -1 else left - (trLs xs).sz)) ∧ Below w.heap.size w w' := by
  obtain ⟨hl, A, c, rfl, ga⟩ := rdLinkS_t hr
  have GA := Lib.hid ga
  clear ga hr
  have HZ := Lib.hid (show (trLs xs).sz = xs.length + szL (xs.flatMap cellsL) from rfl)
  generalize (trLs xs).sz = Z at HZ ⊢
  generalize hres : (if left < (Z : Int) then -1 else left - (Z : Int)) = res
  have RES := Lib.hid hres
  clear hres
  have hflat : szL (xs.flatMap cellsL) = 0 := szL_Link0 xs
  by_cases hn : left < (xs.length : Int)
  · have hn' : left - (xs.length : Int) < 0 := by omega
    go_enter Try.func22, Try.ntmps22
    go_wp2
    go_ret
    exact ⟨ret_numZ (by rw [← RES.out, if_pos (by have := HZ.out; omega)]), Below.refl _ _⟩
  · have hn' : ¬ left - (xs.length : Int) < 0 := by omega
    go_enter Try.func22, Try.ntmps22
    go_wp2
    go_ret
    exact ⟨ret_numZ (by rw [← RES.out, if_neg (by have := HZ.out; omega)]; have := HZ.out; omega), Below.refl _ _⟩

set_option maxRecDepth 100000 in
set_option maxHeartbeats 1000000 in
theorem eqLink_t (d : Lk) (v u : Value) (w : World) (hv : (trLk d).rd w v) (hu : (trLk d).rd w u) :
    Calls Try.prog 78 #[v, u] w fun e w' => e = .returned (.bool true) ∧ Below w.heap.size w w' := by
  obtain rfl := rdLink_t hv
  obtain rfl := rdLink_t hu
  clear hv hu
  have S0 := Lib.hid (((Sn.start w).box 123 [.int .i64 d.fr, .int .i64 d.to, .bool d.fe, .int .i64 d.lag]).box 123 [.int .i64 d.fr, .int .i64 d.to, .bool d.fe, .int .i64 d.lag])
  simp only [World.size_alloc] at S0
  go_enter Try.func78, Try.ntmps78
  go_wp2
  go_ret
  exact ⟨rfl, S0.out.1⟩

set_option maxRecDepth 100000 in
set_option maxHeartbeats 1000000 in
theorem eqLinkS_t (xs : List Lk) (v u : Value) (w : World) (hv : (trLs xs).rd w v) (hu : (trLs xs).rd w u) :
    Calls Try.prog 37 #[v, u] w fun e w' => e = .returned (.bool true) ∧ Below w.heap.size w w' := by
  obtain ⟨hl, A, c, rfl, ga⟩ := rdLinkS_t hv
  obtain ⟨_, B, c2, rfl, gb⟩ := rdLinkS_t hu
  have GA := Lib.hid ga
  have GB := Lib.hid gb
  clear ga gb hv hu
  go_enter Try.func37, Try.ntmps37
  go_wp2
  go_loopw [5] (fun i wr => ∃ k : Nat, k ≤ xs.length ∧ i = .int .i64 k ∧ Below w.heap.size w wr) (fun i _ => xs.length - (intOf i).toNat)
  case atStart => exact ⟨0, Nat.zero_le _, rfl, Below.refl _ _⟩
  case round =>
    obtain ⟨k, hk, rfl, hbel⟩ := hrel
    by_cases hlt : k < xs.length
    · have hlt' : (k : Int) < (xs.length : Int) := by omega
      obtain ⟨b1, o1, rfl, hb1, hc⟩ := GA.out k hlt
      obtain ⟨b2, o2, rfl, hb2, hd⟩ := GB.out k hlt
      obtain ⟨hc0, hc1, hc2, hc3⟩ := hc k hlt
      obtain ⟨hd0, hd1, hd2, hd3⟩ := hd k hlt
      have hx0 := (hbel.cell (p := ⟨b1, o1 + k * 4, none⟩) hb1).trans hc0
      have hx1 := (hbel.cell (p := ⟨b1, o1 + k * 4 + 1, none⟩) hb1).trans hc1
      have hx2 := (hbel.cell (p := ⟨b1, o1 + k * 4 + 2, none⟩) hb1).trans hc2
      have hx3 := (hbel.cell (p := ⟨b1, o1 + k * 4 + 3, none⟩) hb1).trans hc3
      have hy0 := (hbel.cell (p := ⟨b2, o2 + k * 4, none⟩) hb2).trans hd0
      have hy1 := (hbel.cell (p := ⟨b2, o2 + k * 4 + 1, none⟩) hb2).trans hd1
      have hy2 := (hbel.cell (p := ⟨b2, o2 + k * 4 + 2, none⟩) hb2).trans hd2
      have hy3 := (hbel.cell (p := ⟨b2, o2 + k * 4 + 3, none⟩) hb2).trans hd3
      have HM := Lib.hid (mk_rdLink_t (w := wr.drew) (d := xs[k]) )
      have HN := Lib.hid (mk_rdLink_t (w := wr.drew) (d := xs[k]) )
      clear hc hd hc0 hd0 hc1 hd1 hc2 hd2 hc3 hd3 
      have HB := Lib.hid hbel
      clear hbel
      generalize xs[k] = m at hx0 hy0 hx1 hy1 hx2 hy2 hx3 hy3 HM HN
      go_wp2
      go_region_with (go_at_call 78; refine (eqLink_t m _ _ _ (by exact HM.out) (by exact HN.out)).mono ?_; rintro e w1 ⟨rfl, hb3⟩)
      all_goals
        go_wp2
        go_roundw
        case rel => exact ⟨k + 1, by omega, by go_num, HB.out.drew.trans (hb3.mono HB.out.size)⟩
        case measure => simp [intOf]; omega
    · have hge : ¬ (k : Int) < (xs.length : Int) := by omega
      have HB := Lib.hid hbel
      clear hbel
      go_wp2
      go_ret
      exact ⟨rfl, HB.out⟩

set_option maxRecDepth 100000 in
set_option maxHeartbeats 1000000 in
theorem toLink_t (d : Lk) (v : Value) (w : World) (hv : (trLk d).rd w v) (hl : (trLk d).sz ≤ 1073741824) :
    Calls Try.prog 63 #[v] w fun e w' => ∃ u F, e = .returned u ∧ (trLk d).own w' w.heap.size u F ∧ F.Nodup ∧ Below w.heap.size w w' := by
  obtain rfl := rdLink_t hv
  clear hv hl
  go_enter Try.func63, Try.ntmps63
  go_wp2
  refine bodyPost_ret (v := .agg #[.int .i64 d.fr, .int .i64 d.to, .bool d.fe, .int .i64 d.lag]) (by simp [results, Try.results63, go_sem]) rfl ⟨_, [], rfl, ⟨_, rfl, ownL_ones (xs := [.int .i64 d.fr, .int .i64 d.to, .bool d.fe, .int .i64 d.lag]) |>.2 ⟨rfl, rfl⟩⟩, by simp, ?_⟩
  repeat (first | exact Below.refl _ _ | refine Below.setCell ?_ (by simp) _ | refine Below.alloc ?_ (by first | (simp; done) | (simp; omega)) _)

theorem infoLink_t : (Try.prog.info? 123).map (fun i => (i.zero, i.size, i.bytes)) = some (some (.agg #[.int .i64 0, .int .i64 0, .bool false, .int .i64 0]), 4, 32) := by kernel_rfl

set_option maxRecDepth 100000 in
set_option maxHeartbeats 1000000 in
theorem toLinkS_t (xs : List Lk) (v : Value) (w : World) (hv : (trLs xs).rd w v) (hl : (trLs xs).sz ≤ 1073741824) :
    Calls Try.prog 29 #[v] w fun e w' => ∃ u F, e = .returned u ∧ (trLs xs).own w' w.heap.size u F ∧ F.Nodup ∧ Below w.heap.size w w' := by
  obtain ⟨hla, A, c, rfl, ga⟩ := rdLinkS_t hv
  have GA := Lib.hid ga
  clear ga hv
  have hsz : (trLs xs).sz = xs.length + szL (xs.flatMap cellsL) := rfl
  rw [hsz] at hl
  clear hsz
  obtain ⟨i0, hi, hz0, hz1, hz2⟩ := info_parts infoLink_t
  go_enter Try.func29, Try.ntmps29
  go_wp2_with (at_make; refine wpList_make_full _ rfl _ _ 31 rfl w.heap.size 123 i0 (.agg #[.int .i64 0, .int .i64 0, .bool false, .int .i64 0]) 4 Try.underlying31 hi hz0 hz1 .i64 .i64 _ _ xs.length rfl rfl rfl rfl (by rw [hz2]; omega) (by unfold maxLen; omega) (Nat.le_refl _) ?_; intro w1 hown1 hgrow1)
  have hbel1 : Below w.heap.size w w1 := (Below.refl _ _).grown hgrow1 (Nat.le_refl _) (by simp)
  have hm := hown1.1
  generalize hms : (madeCells _ (xs.length * 4)).toList = raw at hown1 hm
  have HM := Lib.hid hm
  have HO := Lib.hid hown1
  clear hm hms hgrow1 hown1
  go_loopw [4] (fun i wr => ∃ k : Nat, k ≤ xs.length ∧ i = .int .i64 k ∧ (∃ F, RowAt wr w.heap.size 123 4 xs.length w.heap.size xs.length (mixR cellsL 4 raw xs k) F) ∧ Below w.heap.size w wr) (fun i _ => xs.length - (intOf i).toNat)
  case atStart => exact ⟨0, Nat.zero_le _, rfl, ⟨_, by rw [mixR_zero]; exact row_made HO.out⟩, hbel1⟩
  case round =>
    obtain ⟨k, hk, rfl, ⟨F, how⟩, hbel⟩ := hrel
    by_cases hlt : k < xs.length
    · have hlt' : (k : Int) < (xs.length : Int) := by omega
      obtain ⟨b, o, rfl, hb, hc⟩ := GA.out k hlt
      obtain ⟨hc0, hc1, hc2, hc3⟩ := hc k hlt
      have hx0 := (hbel.cell (p := ⟨b, o + k * 4, none⟩) hb).trans hc0
      have hx1 := (hbel.cell (p := ⟨b, o + k * 4 + 1, none⟩) hb).trans hc1
      have hx2 := (hbel.cell (p := ⟨b, o + k * 4 + 2, none⟩) hb).trans hc2
      have hx3 := (hbel.cell (p := ⟨b, o + k * 4 + 3, none⟩) hb).trans hc3
      have hse := szL_flat_at (f := cellsL) hlt
      have HRD := Lib.hid (mk_rdLink_t (w := wr) (d := xs[k]) )
      have hle : (trLk xs[k]).sz ≤ 1073741824 := by
        have : (trLk xs[k]).sz = szL (cellsL xs[k]) := rfl
        omega
      have HST := Lib.hid (mixR_set cellsL_len HM.out hlt)
      have HLEN := Lib.hid (mixR_len cellsL_len HM.out hk)
      clear hc hse hc0 hc1 hc2 hc3 
      generalize xs[k] = m at hx0 hx1 hx2 hx3 HRD HST hle
      have HB := Lib.hid hbel
      have HW := Lib.hid how
      clear hbel how
      go_wp2_with fail
      refine (toLink_t m _ _ HRD.out hle).mono ?_
      rintro e w2 ⟨u, H, rfl, ho, hn, hb2⟩
      obtain rfl := rdLink_t (Tr.own_rd _ _ _ ho)
      have how2 := HW.out.below hb2 (Nat.le_refl _)
      have hcl : (mixR cellsL 4 raw xs k).length = xs.length * 4 := HLEN.out
      obtain ⟨y0, hy0⟩ := how2.some (i := k * 4) (by omega)
      obtain ⟨y1, hy1⟩ := how2.some (i := k * 4 + 1) (by omega)
      obtain ⟨y2, hy2⟩ := how2.some (i := k * 4 + 2) (by omega)
      obtain ⟨y3, hy3⟩ := how2.some (i := k * 4 + 3) (by omega)
      have hf := how2.frozen
      have hgw := how2.lt.2
      have hw0 := HW.out.lt.2
      obtain ⟨vs, hvs, hoL⟩ := ho
      obtain rfl : vs = [.int .i64 m.fr, .int .i64 m.to, .bool m.fe, .int .i64 m.lag] := by
        injection hvs with hvs
        exact (congrArg Array.toList hvs).symm
      obtain ⟨F', hp, _⟩ := RowAt.putL (K := wr.heap.size) HB.out.size hw0 (cellsL m) _ w2 _ F H (k * 4) how2 (by rw [cellsL_len]; omega) hoL hn (fun j hj hj2 => by
        have h1 := (ownL_lt _ _ _ hoL j hj).1
        have h2 := (HW.out.allLt j hj2).2
        omega)
      rw [HST.out] at hp
      have HP := Lib.hid hp
      have HBZ := Lib.hid (setL_below (Nat.le_refl _) [.int .i64 m.fr, .int .i64 m.to, .bool m.fe, .int .i64 m.lag] w2 (k * 4) (HB.out.trans (hb2.mono HB.out.size)))
      clear hp hoL how2 hb2 hn hcl hvs
      go_wp2
      go_roundw
      case rel => exact ⟨k + 1, by omega, by go_num, ⟨F', HP.out⟩, HBZ.out⟩
      case measure => simp [intOf]; omega
    · have hge : ¬ (k : Int) < (xs.length : Int) := by omega
      obtain rfl : k = xs.length := by omega
      rw [mixR_full HM.out] at how
      have HW := Lib.hid how
      have HB := Lib.hid hbel
      clear how hbel
      go_wp2
      go_ret
      exact ⟨_, rfl, F, HW.out.1, HW.out.2, HB.out⟩

end Go.Proofs.Ytaglfdkeomjpdab
