/- DERIVED. CONTRACTS of the laws' helpers over modes and activities: to, eq. -/
import Derived.Test.YtlnbkhfjbpnbfaaDoorModS
import Derived.Test.YtlnbkhfjbpnbfaaDoorBlk
namespace Go.Proofs.YtlnbkhfjbpnbfaaDoor
open Go.RowKit

theorem ret_bool {a b : Bool} (h : a = b) : Ending.returned (.bool a) = .returned (.bool b) := by rw [h]

theorem dec_md (m n : Md) : decide (m = n) = (decide (m.du = n.du) && (decide (m.us = n.us) && decide (m.co = n.co))) := by
  rw [Bool.eq_iff_iff]
  simp [md_ext]

set_option maxRecDepth 100000 in
set_option maxHeartbeats 1000000 in
theorem eqM_any (m n : Md) (v u : Value) (w : World) (hv : (trM m).rd w v) (hu : (trM n).rd w u) :
    Calls Tryd.prog 9 #[v, u] w fun e w' => e = .returned (.bool (decide (m = n))) ∧ Below w.heap.size w w' := by
  obtain ⟨U, cu, C, cc, rfl, r1, r2⟩ := rdM hv
  obtain ⟨V, cv, D, cd, rfl, s1, s2⟩ := rdM hu
  clear hv hu
  generalize hres : decide (m = n) = res
  rw [dec_md] at hres
  have RES := Lib.hid hres
  clear hres
  have R1 := Lib.hid r1
  have R2 := Lib.hid r2
  have S1 := Lib.hid s1
  have S2 := Lib.hid s2
  clear r1 r2 s1 s2
  by_cases h1 : m.du = n.du
  · have H1 := Lib.hid h1
    have h1' : (m.du != n.du) = false := by simp [h1]
    clear h1
    go_enter Tryd.func9, Tryd.ntmps9
    go_wp2_with fail
    refine (eqI_any m.us n.us _ _ _ (R1.out.below (((Below.refl _ _).alloc (Nat.le_refl _) _).alloc (by simp) _) (Nat.le_refl _)) (S1.out.below (((Below.refl _ _).alloc (Nat.le_refl _) _).alloc (by simp) _) (Nat.le_refl _))).mono ?_
    rintro e w1 ⟨rfl, q, rfl⟩
    by_cases h2 : m.us = n.us
    · have H2 := Lib.hid h2
      rw [decide_eq_true h2]
      clear h2
      go_wp2_with fail
      refine (eqI_any m.co n.co _ _ _ (R2.out.below (below_drewN (((Below.refl _ _).alloc (Nat.le_refl _) _).alloc (by simp) _) _) (Nat.le_refl _)) (S2.out.below (below_drewN (((Below.refl _ _).alloc (Nat.le_refl _) _).alloc (by simp) _) _) (Nat.le_refl _))).mono ?_
      rintro e w1 ⟨rfl, q2, rfl⟩
      by_cases h3 : m.co = n.co
      · have H3 := Lib.hid h3
        rw [decide_eq_true h3]
        clear h3
        go_wp2
        go_ret
        exact ⟨ret_bool (by rw [← RES.out]; simp [H1.out, H2.out, H3.out]), below_drewN (((Below.refl _ _).alloc (Nat.le_refl _) _).alloc (by simp) _) _⟩
      · have H3 := Lib.hid h3
        rw [decide_eq_false h3]
        clear h3
        go_wp2
        go_ret
        exact ⟨ret_bool (by rw [← RES.out]; simp [H3.out]), below_drewN (((Below.refl _ _).alloc (Nat.le_refl _) _).alloc (by simp) _) _⟩
    · have H2 := Lib.hid h2
      rw [decide_eq_false h2]
      clear h2
      go_wp2
      go_ret
      exact ⟨ret_bool (by rw [← RES.out]; simp [H2.out]), below_drewN (((Below.refl _ _).alloc (Nat.le_refl _) _).alloc (by simp) _) _⟩
  · have H1 := Lib.hid h1
    have h1' : (m.du != n.du) = true := by simp [h1]
    clear h1
    go_enter Tryd.func9, Tryd.ntmps9
    go_wp2
    go_ret
    exact ⟨ret_bool (by rw [← RES.out]; simp [H1.out]), ((Below.refl _ _).alloc (Nat.le_refl _) _).alloc (by simp) _⟩

set_option maxRecDepth 100000 in
set_option maxHeartbeats 1000000 in
theorem toM_any (m : Md) (v : Value) (w : World) (hv : (trM m).rd w v) (h1 : m.us.length ≤ 1073741824) (h2 : m.co.length ≤ 1073741824) :
    Calls Tryd.prog 7 #[v] w fun e w' => ∃ u F, e = .returned u ∧ (trM m).own w' w.heap.size u F ∧ F.Nodup ∧ Below w.heap.size w w' := by
  obtain ⟨U, cu, C, cc, rfl, r1, r2⟩ := rdM hv
  clear hv
  have R1 := Lib.hid r1
  have R2 := Lib.hid r2
  clear r1 r2
  go_enter Tryd.func7, Tryd.ntmps7
  go_wp2_with fail
  obtain ⟨hb0, k1, k2, k3, hs0⟩ := boxes3 w 24 27 27 #[.int .i64 m.du, .slice U m.us.length cu, .slice C m.co.length cc] #[.int .i64 0, .slice none 0 0, .slice none 0 0] #[.int .i64 m.du, .slice none 0 0, .slice none 0 0]
  generalize (((w.alloc (Obj.cells #[.int .i64 m.du, .slice U m.us.length cu, .slice C m.co.length cc] 24)).alloc (Obj.cells #[.int .i64 0, .slice none 0 0, .slice none 0 0] 27)).alloc (Obj.cells #[.int .i64 m.du, .slice none 0 0, .slice none 0 0] 27)) = w0 at hb0 k1 k2 k3 hs0 ⊢
  refine (toI_any m.us _ _ (R1.out.below hb0 (Nat.le_refl _)) h1).mono ?_
  rintro e w1 ⟨u1, rfl, o1, hb1⟩
  obtain ⟨A1, c1, rfl, _⟩ := rdI_slice (own_rd o1 (by unfold maxLen; omega))
  have O1 := Lib.hid (flat_own o1)
  clear o1
  have K1 := k1.below hb1 (Nat.le_refl _)
  have K2 := k2.below hb1 (Nat.le_refl _)
  have K3 := k3.below hb1 (Nat.le_refl _)
  have hs1 := hb1.size
  rw [hs0] at hs1
  have B1 := Lib.hid (hb0.trans (hb1.mono (by omega)))
  clear k1 k2 k3 hb0 hb1
  obtain ⟨_, _, hk12, _⟩ := K1.c3
  obtain ⟨_, hk31, _, hf3⟩ := K3.c3
  have K1' := K1.far (p := ⟨w.heap.size + 1 + 1, 1, none⟩) (by show _ ≠ w.heap.size + 1 + 1; omega) (.slice A1 m.us.length c1)
  have K2' := K2.far (p := ⟨w.heap.size + 1 + 1, 1, none⟩) (by show _ ≠ w.heap.size + 1 + 1; omega) (.slice A1 m.us.length c1)
  have K3' := K3.set 1 (.slice A1 m.us.length c1)
  have B1' := Lib.hid (B1.out.setCell (p := ⟨w.heap.size + 1 + 1, 1, none⟩) (by show _ ≤ w.heap.size + 1 + 1; omega) (.slice A1 m.us.length c1))
  have O1' := Lib.hid (Tr.own_setCell O1.out.1 (p := ⟨w.heap.size + 1 + 1, 1, none⟩) (by show w.heap.size + 1 + 1 < _; omega) (.slice A1 m.us.length c1))
  have ON := Lib.hid O1.out.2
  have OL := Lib.hid (fun k hk => (Tr.own_lt _ _ _ O1.out.1 k hk).2)
  have hs1' : (w1.setCell ⟨w.heap.size + 1 + 1, 1, none⟩ (.slice A1 m.us.length c1)).heap.size = w1.heap.size := by simp [World.setCell]
  clear K1 K2 K3 B1 O1
  have Z1 := Lib.hid K1'
  have Z2 := Lib.hid K2'
  have Z3 := Lib.hid K3'
  clear K1' K2' K3'
  go_wp2_with fail
  generalize w1.setCell ⟨w.heap.size + 1 + 1, 1, none⟩ (.slice A1 m.us.length c1) = w1' at Z1 Z2 Z3 B1' O1' hs1' ⊢
  refine (toI_any m.co _ _ (R2.out.below B1'.out (Nat.le_refl _)) h2).mono ?_
  rintro e w2 ⟨u2, rfl, o2, hb2⟩
  obtain ⟨A2, c2, rfl, _⟩ := rdI_slice (own_rd o2 (by unfold maxLen; omega))
  have O2 := Lib.hid (flat_own o2)
  clear o2
  have K1 := Z1.out.below hb2 (Nat.le_refl _)
  have K2 := Z2.out.below hb2 (Nat.le_refl _)
  have K3 := Z3.out.below hb2 (Nat.le_refl _)
  have hs2 := hb2.size
  have B2 := Lib.hid (B1'.out.trans (hb2.mono (by omega)))
  have O3 := Lib.hid (Tr.own_below O1'.out hb2 (Nat.le_refl _))
  clear Z1 Z2 Z3 B1' O1' hb2
  obtain ⟨hk30, hk31', hk32, hf3'⟩ := K3.c3
  obtain ⟨hk20, hk21, hk22, hf2⟩ := K2.c3
  clear K1 K2 K3 hk12 hk31 hf3
  go_wp2
  refine bodyPost_ret (v := .agg #[.int .i64 m.du, .slice A1 m.us.length c1, .slice A2 m.co.length c2]) (by simp [results, Tryd.results7, go_sem, hk20, hk21, hk22]) rfl ⟨_, _, rfl, mk_ownM (F := (Value.slice A1 m.us.length c1).ownBlock.toList) (G := (Value.slice A2 m.co.length c2).ownBlock.toList) ?_ ?_, ?_, ?_⟩
  · refine Tr.own_base (B := w0.heap.size) (by omega) _ _ _ ?_
    exact Tr.own_setCell (Tr.own_setCell (Tr.own_setCell (Tr.own_setCell O3.out (p := ⟨w.heap.size + 1 + 1, 2, none⟩) (by show w.heap.size + 1 + 1 < _; omega) _) (p := ⟨w.heap.size + 1, 0, none⟩) (by show w.heap.size + 1 < _; omega) _) (p := ⟨w.heap.size + 1, 1, none⟩) (by show w.heap.size + 1 < _; omega) _) (p := ⟨w.heap.size + 1, 2, none⟩) (by show w.heap.size + 1 < _; omega) _
  · refine Tr.own_base (B := w1'.heap.size) (by omega) _ _ _ ?_
    exact Tr.own_setCell (Tr.own_setCell (Tr.own_setCell (Tr.own_setCell O2.out.1 (p := ⟨w.heap.size + 1 + 1, 2, none⟩) (by show w.heap.size + 1 + 1 < _; omega) _) (p := ⟨w.heap.size + 1, 0, none⟩) (by show w.heap.size + 1 < _; omega) _) (p := ⟨w.heap.size + 1, 1, none⟩) (by show w.heap.size + 1 < _; omega) _) (p := ⟨w.heap.size + 1, 2, none⟩) (by show w.heap.size + 1 < _; omega) _
  · exact nodup_apart ON.out O2.out.2 (K := w1'.heap.size) (fun k hk => by have := OL.out k hk; omega) (fun k hk => (Tr.own_lt _ _ _ O2.out.1 k hk).1)
  · exact (((B2.out.setCell (p := ⟨w.heap.size + 1 + 1, 2, none⟩) (by show _ ≤ w.heap.size + 1 + 1; omega) _).setCell (p := ⟨w.heap.size + 1, 0, none⟩) (by show _ ≤ w.heap.size + 1; omega) _).setCell (p := ⟨w.heap.size + 1, 1, none⟩) (by show _ ≤ w.heap.size + 1; omega) _).setCell (p := ⟨w.heap.size + 1, 2, none⟩) (by show _ ≤ w.heap.size + 1; omega) _

theorem infoMode : (Tryd.prog.info? 27).map (fun i => (i.zero, i.size, i.bytes)) = some (some (.agg #[.int .i64 0, .slice none 0 0, .slice none 0 0]), 3, 56) := by kernel_rfl

end Go.Proofs.YtlnbkhfjbpnbfaaDoor
