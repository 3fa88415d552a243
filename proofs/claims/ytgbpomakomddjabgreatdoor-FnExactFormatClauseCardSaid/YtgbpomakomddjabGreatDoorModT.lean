/- DERIVED. CONTRACTS of the laws' helpers over modes and activities: to, eq. -/
import Derived.Test.YtgbpomakomddjabGreatDoorDats
import Derived.Test.YtgbpomakomddjabGreatDoorCore
namespace Go.Proofs.YtgbpomakomddjabGreatDoor
open Go.RowKit

theorem ret_bool {a b : Bool} (h : a = b) : Ending.returned (.bool a) = .returned (.bool b) := by rw [h]

theorem dec_md (m n : Md) : decide (m = n) = (decide (m.du = n.du) && (decide (m.us = n.us) && decide (m.co = n.co))) := by
  rw [Bool.eq_iff_iff]
  simp [md_ext]

set_option maxRecDepth 100000 in
set_option maxHeartbeats 1000000 in
theorem eqM_any (m n : Md) (v u : Value) (w : World) (hv : (trM m).rd w v) (hu : (trM n).rd w u) :
    Calls Tryz.prog 131 #[v, u] w fun e w' => e = .returned (.bool (decide (m = n))) ∧ Below w.heap.size w w' := by
  obtain ⟨U, cu, C, cc, rfl, r1, r2⟩ := rdM hv
  obtain ⟨V, cv, D, cd, rfl, s1, s2⟩ := rdM hu
  clear hv hu
  generalize hres : decide (m = n) = res
  rw [dec_md] at hres
  have RES := Lib.hid hres
  clear hres
  have R1 := Lib.hid r1
  have R2 := Lib.hid r2
  have S1 := Lib.hid s1
  have S2 := Lib.hid s2
  clear r1 r2 s1 s2
  by_cases h1 : m.du = n.du
  · have H1 := Lib.hid h1
    have h1' : (m.du != n.du) = false := by simp [h1]
    clear h1
    go_enter Tryz.func131, Tryz.ntmps131
    go_wp2_with fail
    refine (eqI_any m.us n.us _ _ _ (R1.out.below (((Below.refl _ _).alloc (Nat.le_refl _) _).alloc (by simp) _) (Nat.le_refl _)) (S1.out.below (((Below.refl _ _).alloc (Nat.le_refl _) _).alloc (by simp) _) (Nat.le_refl _))).mono ?_
    rintro e w1 ⟨rfl, q, rfl⟩
    by_cases h2 : m.us = n.us
    · have H2 := Lib.hid h2
      rw [decide_eq_true h2]
      clear h2
      go_wp2_with fail
      refine (eqI_any m.co n.co _ _ _ (R2.out.below (below_drewN (((Below.refl _ _).alloc (Nat.le_refl _) _).alloc (by simp) _) _) (Nat.le_refl _)) (S2.out.below (below_drewN (((Below.refl _ _).alloc (Nat.le_refl _) _).alloc (by simp) _) _) (Nat.le_refl _))).mono ?_
      rintro e w1 ⟨rfl, q2, rfl⟩
      by_cases h3 : m.co = n.co
      · have H3 := Lib.hid h3
        rw [decide_eq_true h3]
        clear h3
        go_wp2
        go_ret
        exact ⟨ret_bool (by rw [← RES.out]; simp [H1.out, H2.out, H3.out]), below_drewN (((Below.refl _ _).alloc (Nat.le_refl _) _).alloc (by simp) _) _⟩
      · have H3 := Lib.hid h3
        rw [decide_eq_false h3]
        clear h3
        go_wp2
        go_ret
        exact ⟨ret_bool (by rw [← RES.out]; simp [H3.out]), below_drewN (((Below.refl _ _).alloc (Nat.le_refl _) _).alloc (by simp) _) _⟩
    · have H2 := Lib.hid h2
      rw [decide_eq_false h2]
      clear h2
      go_wp2
      go_ret
      exact ⟨ret_bool (by rw [← RES.out]; simp [H2.out]), below_drewN (((Below.refl _ _).alloc (Nat.le_refl _) _).alloc (by simp) _) _⟩
  · have H1 := Lib.hid h1
    have h1' : (m.du != n.du) = true := by simp [h1]
    clear h1
    go_enter Tryz.func131, Tryz.ntmps131
    go_wp2
    go_ret
    exact ⟨ret_bool (by rw [← RES.out]; simp [H1.out]), ((Below.refl _ _).alloc (Nat.le_refl _) _).alloc (by simp) _⟩

set_option maxRecDepth 100000 in
set_option maxHeartbeats 1000000 in
theorem toM_any (m : Md) (v : Value) (w : World) (hv : (trM m).rd w v) (h1 : m.us.length ≤ 1073741824) (h2 : m.co.length ≤ 1073741824) :
    Calls Tryz.prog 112 #[v] w fun e w' => ∃ u F, e = .returned u ∧ (trM m).own w' w.heap.size u F ∧ F.Nodup ∧ Below w.heap.size w w' := by
  obtain ⟨U, cu, C, cc, rfl, r1, r2⟩ := rdM hv
  clear hv
  have R1 := Lib.hid r1
  have R2 := Lib.hid r2
  clear r1 r2
  go_enter Tryz.func112, Tryz.ntmps112
  go_wp2_with fail
  obtain ⟨hb0, k1, k2, k3, hs0⟩ := boxes3 w 153 149 149 #[.int .i64 m.du, .slice U m.us.length cu, .slice C m.co.length cc] #[.int .i64 0, .slice none 0 0, .slice none 0 0] #[.int .i64 m.du, .slice none 0 0, .slice none 0 0]
  generalize (((w.alloc (Obj.cells #[.int .i64 m.du, .slice U m.us.length cu, .slice C m.co.length cc] 153)).alloc (Obj.cells #[.int .i64 0, .slice none 0 0, .slice none 0 0] 149)).alloc (Obj.cells #[.int .i64 m.du, .slice none 0 0, .slice none 0 0] 149)) = w0 at hb0 k1 k2 k3 hs0 ⊢
  refine (toI_any m.us _ _ (R1.out.below hb0 (Nat.le_refl _)) h1).mono ?_
  rintro e w1 ⟨u1, rfl, o1, hb1⟩
  obtain ⟨A1, c1, rfl, _⟩ := rdI_slice (own_rd o1 (by unfold maxLen; omega))
  have O1 := Lib.hid (flat_own o1)
  clear o1
  have K1 := k1.below hb1 (Nat.le_refl _)
  have K2 := k2.below hb1 (Nat.le_refl _)
  have K3 := k3.below hb1 (Nat.le_refl _)
  have hs1 := hb1.size
  rw [hs0] at hs1
  have B1 := Lib.hid (hb0.trans (hb1.mono (by omega)))
  clear k1 k2 k3 hb0 hb1
  obtain ⟨_, _, hk12, _⟩ := K1.c3
  obtain ⟨_, hk31, _, hf3⟩ := K3.c3
  have K1' := K1.far (p := ⟨w.heap.size + 1 + 1, 1, none⟩) (by show _ ≠ w.heap.size + 1 + 1; omega) (.slice A1 m.us.length c1)
  have K2' := K2.far (p := ⟨w.heap.size + 1 + 1, 1, none⟩) (by show _ ≠ w.heap.size + 1 + 1; omega) (.slice A1 m.us.length c1)
  have K3' := K3.set 1 (.slice A1 m.us.length c1)
  have B1' := Lib.hid (B1.out.setCell (p := ⟨w.heap.size + 1 + 1, 1, none⟩) (by show _ ≤ w.heap.size + 1 + 1; omega) (.slice A1 m.us.length c1))
  have O1' := Lib.hid (Tr.own_setCell O1.out.1 (p := ⟨w.heap.size + 1 + 1, 1, none⟩) (by show w.heap.size + 1 + 1 < _; omega) (.slice A1 m.us.length c1))
  have ON := Lib.hid O1.out.2
  have OL := Lib.hid (fun k hk => (Tr.own_lt _ _ _ O1.out.1 k hk).2)
  have hs1' : (w1.setCell ⟨w.heap.size + 1 + 1, 1, none⟩ (.slice A1 m.us.length c1)).heap.size = w1.heap.size := by simp [World.setCell]
  clear K1 K2 K3 B1 O1
  have Z1 := Lib.hid K1'
  have Z2 := Lib.hid K2'
  have Z3 := Lib.hid K3'
  clear K1' K2' K3'
  go_wp2_with fail
  generalize w1.setCell ⟨w.heap.size + 1 + 1, 1, none⟩ (.slice A1 m.us.length c1) = w1' at Z1 Z2 Z3 B1' O1' hs1' ⊢
  refine (toI_any m.co _ _ (R2.out.below B1'.out (Nat.le_refl _)) h2).mono ?_
  rintro e w2 ⟨u2, rfl, o2, hb2⟩
  obtain ⟨A2, c2, rfl, _⟩ := rdI_slice (own_rd o2 (by unfold maxLen; omega))
  have O2 := Lib.hid (flat_own o2)
  clear o2
  have K1 := Z1.out.below hb2 (Nat.le_refl _)
  have K2 := Z2.out.below hb2 (Nat.le_refl _)
  have K3 := Z3.out.below hb2 (Nat.le_refl _)
  have hs2 := hb2.size
  have B2 := Lib.hid (B1'.out.trans (hb2.mono (by omega)))
  have O3 := Lib.hid (Tr.own_below O1'.out hb2 (Nat.le_refl _))
  clear Z1 Z2 Z3 B1' O1' hb2
  obtain ⟨hk30, hk31', hk32, hf3'⟩ := K3.c3
  obtain ⟨hk20, hk21, hk22, hf2⟩ := K2.c3
  clear K1 K2 K3 hk12 hk31 hf3
  go_wp2
  refine bodyPost_ret (v := .agg #[.int .i64 m.du, .slice A1 m.us.length c1, .slice A2 m.co.length c2]) (by simp [results, Tryz.results112, go_sem, hk20, hk21, hk22]) rfl ⟨_, _, rfl, mk_ownM (F := (Value.slice A1 m.us.length c1).ownBlock.toList) (G := (Value.slice A2 m.co.length c2).ownBlock.toList) ?_ ?_, ?_, ?_⟩
  · refine Tr.own_base (B := w0.heap.size) (by omega) _ _ _ ?_
    exact Tr.own_setCell (Tr.own_setCell (Tr.own_setCell (Tr.own_setCell O3.out (p := ⟨w.heap.size + 1 + 1, 2, none⟩) (by show w.heap.size + 1 + 1 < _; omega) _) (p := ⟨w.heap.size + 1, 0, none⟩) (by show w.heap.size + 1 < _; omega) _) (p := ⟨w.heap.size + 1, 1, none⟩) (by show w.heap.size + 1 < _; omega) _) (p := ⟨w.heap.size + 1, 2, none⟩) (by show w.heap.size + 1 < _; omega) _
  · refine Tr.own_base (B := w1'.heap.size) (by omega) _ _ _ ?_
    exact Tr.own_setCell (Tr.own_setCell (Tr.own_setCell (Tr.own_setCell O2.out.1 (p := ⟨w.heap.size + 1 + 1, 2, none⟩) (by show w.heap.size + 1 + 1 < _; omega) _) (p := ⟨w.heap.size + 1, 0, none⟩) (by show w.heap.size + 1 < _; omega) _) (p := ⟨w.heap.size + 1, 1, none⟩) (by show w.heap.size + 1 < _; omega) _) (p := ⟨w.heap.size + 1, 2, none⟩) (by show w.heap.size + 1 < _; omega) _
  · exact nodup_apart ON.out O2.out.2 (K := w1'.heap.size) (fun k hk => by have := OL.out k hk; omega) (fun k hk => (Tr.own_lt _ _ _ O2.out.1 k hk).1)
  · exact (((B2.out.setCell (p := ⟨w.heap.size + 1 + 1, 2, none⟩) (by show _ ≤ w.heap.size + 1 + 1; omega) _).setCell (p := ⟨w.heap.size + 1, 0, none⟩) (by show _ ≤ w.heap.size + 1; omega) _).setCell (p := ⟨w.heap.size + 1, 1, none⟩) (by show _ ≤ w.heap.size + 1; omega) _).setCell (p := ⟨w.heap.size + 1, 2, none⟩) (by show _ ≤ w.heap.size + 1; omega) _

theorem infoMode : (Tryz.prog.info? 149).map (fun i => (i.zero, i.size, i.bytes)) = some (some (.agg #[.int .i64 0, .slice none 0 0, .slice none 0 0]), 3, 56) := by kernel_rfl

set_option maxRecDepth 100000 in
set_option maxHeartbeats 1000000 in
theorem toMs_any (ms : List Md) (v : Value) (w : World) (hv : (trMs ms).rd w v) (hl : ms.length + szMs ms ≤ 1073741824) :
    Calls Tryz.prog 84 #[v] w fun e w' => ∃ u F, e = .returned u ∧ (trMs ms).own w' w.heap.size u F ∧ F.Nodup ∧ Below w.heap.size w w' := by
  obtain ⟨hla, A, c, rfl, ga⟩ := rdMs hv
  have GA := Lib.hid ga
  clear ga hv
  obtain ⟨i0, hi, hz0, hz1, hz2⟩ := info_parts infoMode
  go_enter Tryz.func84, Tryz.ntmps84
  go_wp2_with (at_make; refine wpList_make_full _ rfl _ _ 87 rfl w.heap.size 149 i0 (.agg #[.int .i64 0, .slice none 0 0, .slice none 0 0]) 3 Tryz.underlying87 hi hz0 hz1 .i64 .i64 _ _ ms.length rfl rfl rfl rfl (by rw [hz2]; omega) (by unfold maxLen; omega) (Nat.le_refl _) ?_; intro w1 hown1 hgrow1)
  have hbel1 : Below w.heap.size w w1 := (Below.refl _ _).grown hgrow1 (Nat.le_refl _) (by simp)
  have hm := hown1.1
  generalize hms : (madeCells _ (ms.length * 3)).toList = raw at hown1 hm
  have HM := Lib.hid hm
  have HO := Lib.hid hown1
  clear hm hms hgrow1 hown1
  go_loopw [4] (fun i wr => ∃ k : Nat, k ≤ ms.length ∧ i = .int .i64 k ∧ (∃ F, RowAt wr w.heap.size 149 3 ms.length w.heap.size ms.length (mixR cellsM 3 raw ms k) F) ∧ Below w.heap.size w wr) (fun i _ => ms.length - (intOf i).toNat)
  case atStart => exact ⟨0, Nat.zero_le _, rfl, ⟨_, by rw [mixR_zero]; exact row_made HO.out⟩, hbel1⟩
  case round =>
    obtain ⟨k, hk, rfl, ⟨F, how⟩, hbel⟩ := hrel
    by_cases hlt : k < ms.length
    · have hlt' : (k : Int) < (ms.length : Int) := by omega
      obtain ⟨b, o, rfl, hb, hc⟩ := GA.out k hlt
      obtain ⟨U, cu, C, cc, hc0, hc1, hc2, r1, r2⟩ := hc k hlt
      have hx0 := (hbel.cell (p := ⟨b, o + k * 3, none⟩) hb).trans hc0
      have hx1 := (hbel.cell (p := ⟨b, o + k * 3 + 1, none⟩) hb).trans hc1
      have hx2 := (hbel.cell (p := ⟨b, o + k * 3 + 2, none⟩) hb).trans hc2
      clear hc hc0 hc1 hc2
      have HSZ := szMs_at hlt
      have hd : szM ms[k] = ms[k].us.length + ms[k].co.length := rfl
      have HRD := Lib.hid (mk_rdM (m := ms[k]) (r1.below hbel (Nat.le_refl _)) (r2.below hbel (Nat.le_refl _)))
      have HST := Lib.hid (mixR_set cellsM_len HM.out hlt)
      have HLEN := Lib.hid (mixR_len cellsM_len HM.out hk)
      clear r1 r2
      have hlu : ms[k].us.length ≤ 1073741824 := by omega
      have hlc : ms[k].co.length ≤ 1073741824 := by omega
      generalize ms[k] = m at hx0 hx1 hx2 HRD HST hlu hlc
      clear HSZ hd
      have HB := Lib.hid hbel
      have HW := Lib.hid how
      clear hbel how
      go_wp2_with fail
      refine (toM_any m _ _ HRD.out hlu hlc).mono ?_
      rintro e w2 ⟨u, H, rfl, ho, hn, hb2⟩
      obtain ⟨u1, u2, G1, G2, rfl, g1, g2, hH⟩ := ownM ho
      obtain ⟨A1, c1, rfl, _⟩ := rdI_slice (own_rd (own_flat g1).1 (own_le (own_flat g1).1))
      obtain ⟨A2, c2, rfl, _⟩ := rdI_slice (own_rd (own_flat g2).1 (own_le (own_flat g2).1))
      have how2 := HW.out.below hb2 (Nat.le_refl _)
      have hcl : (mixR cellsM 3 raw ms k).length = ms.length * 3 := HLEN.out
      obtain ⟨z0, hz0⟩ := how2.some (i := k * 3) (by omega)
      obtain ⟨z1, hz1⟩ := how2.some (i := k * 3 + 1) (by omega)
      obtain ⟨z2, hz2⟩ := how2.some (i := k * 3 + 2) (by omega)
      have hf := how2.frozen
      have hgw := how2.lt.2
      have hw0 := HW.out.lt.2
      obtain ⟨vs, hvs, hoL⟩ := ho
      obtain rfl : vs = [.int .i64 m.du, .slice A1 m.us.length c1, .slice A2 m.co.length c2] := by
        injection hvs with hvs
        exact (congrArg Array.toList hvs).symm
      obtain ⟨F', hp, _⟩ := RowAt.putL (K := wr.heap.size) HB.out.size hw0 (cellsM m) _ w2 _ F H (k * 3) how2 (by rw [cellsM_len]; omega) hoL hn (fun j hj hj2 => by
        have h1 := (ownL_lt _ _ _ hoL j hj).1
        have h2 := (HW.out.allLt j hj2).2
        omega)
      rw [HST.out] at hp
      have HP := Lib.hid hp
      have HBZ := Lib.hid (setL_below (Nat.le_refl _) [.int .i64 m.du, .slice A1 m.us.length c1, .slice A2 m.co.length c2] w2 (k * 3) (HB.out.trans (hb2.mono HB.out.size)))
      clear hp hoL hvs how2 hb2 g1 g2 hn hH hcl
      go_wp2
      go_roundw
      case rel => exact ⟨k + 1, by omega, by go_num, ⟨F', HP.out⟩, HBZ.out⟩
      case measure => simp [intOf]; omega
    · have hge : ¬ (k : Int) < (ms.length : Int) := by omega
      obtain rfl : k = ms.length := by omega
      rw [mixR_full HM.out] at how
      have HW := Lib.hid how
      have HB := Lib.hid hbel
      clear how hbel
      go_wp2
      go_ret
      exact ⟨_, rfl, F, HW.out.1, HW.out.2, HB.out⟩
end Go.Proofs.YtgbpomakomddjabGreatDoor
