/- DERIVED. CONTRACTS of the laws' helpers over activities: toActivity, eqModeS, eqActivity. -/
import Derived.Test.YtfgmbgdbnjpclaaModT
namespace Go.Proofs.Ytfgmbgdbnjpclaa
open Go.RowKit

theorem ms_pre {xs ys : List Md} {k : Nat} (hl : xs.length = ys.length) (hk : ¬ k < xs.length) (h : ∀ j, (h1 : j < xs.length) → (h2 : j < ys.length) → j < k → xs[j] = ys[j]) : xs = ys :=
  List.ext_getElem hl fun j h1 h2 => h j h1 h2 (by omega)

set_option maxRecDepth 100000 in
set_option maxHeartbeats 1000000 in
theorem eqMs_any (xs ys : List Md) (va vb : Value) (w : World) (ha : (trMs xs).rd w va) (hb : (trMs ys).rd w vb) :
    Calls Try.prog 139 #[va, vb] w fun e w' => e = .returned (.bool (decide (xs = ys))) ∧ Below w.heap.size w w' := by
  obtain ⟨hla, A, ca, rfl, ga⟩ := rdMs ha
  obtain ⟨hlb, B, cb, rfl, gb⟩ := rdMs hb
  clear ha hb
  have GA := Lib.hid ga
  have GB := Lib.hid gb
  clear ga gb
  by_cases hne : xs.length = ys.length
  · have hne' : ((xs.length : Int) != (ys.length : Int)) = false := by simp; omega
    have HL := Lib.hid hne
    clear hne
    go_enter Try.func139, Try.ntmps139
    go_wp2
    go_loopw [5] (fun i wr => ∃ k : Nat, k ≤ xs.length ∧ i = .int .i64 k ∧ Below w.heap.size w wr ∧ ∀ j, (h1 : j < xs.length) → (h2 : j < ys.length) → j < k → xs[j] = ys[j]) (fun i _ => xs.length - (intOf i).toNat)
    case atStart => exact ⟨0, Nat.zero_le _, rfl, Below.refl _ _, fun j _ _ h => absurd h (by omega)⟩
    case round =>
      obtain ⟨k, hk, rfl, hbel, hall⟩ := hrel
      by_cases hlt : k < xs.length
      · have hlt' : (k : Int) < (xs.length : Int) := by omega
        have hlt2 : k < ys.length := by have := HL.out; omega
        have hlt2' : (k : Int) < (ys.length : Int) := by omega
        obtain ⟨b1, o1, rfl, hb1, hc⟩ := GA.out k hlt
        obtain ⟨U, cu, C, cc, hc0, hc1, hc2, r1, r2⟩ := hc k hlt
        obtain ⟨b2, o2, rfl, hb2, hd⟩ := GB.out k hlt2
        obtain ⟨V, cv, D, cd, hd0, hd1, hd2, s1, s2⟩ := hd k hlt2
        have hx0 := (hbel.cell (p := ⟨b1, o1 + k * 3, none⟩) hb1).trans hc0
        have hx1 := (hbel.cell (p := ⟨b1, o1 + k * 3 + 1, none⟩) hb1).trans hc1
        have hx2 := (hbel.cell (p := ⟨b1, o1 + k * 3 + 2, none⟩) hb1).trans hc2
        have hy0 := (hbel.cell (p := ⟨b2, o2 + k * 3, none⟩) hb2).trans hd0
        have hy1 := (hbel.cell (p := ⟨b2, o2 + k * 3 + 1, none⟩) hb2).trans hd1
        have hy2 := (hbel.cell (p := ⟨b2, o2 + k * 3 + 2, none⟩) hb2).trans hd2
        clear hc hc0 hc1 hc2 hd hd0 hd1 hd2
        have HM := Lib.hid (mk_rdM (m := xs[k]) (r1.below hbel.drew (Nat.le_refl _)) (r2.below hbel.drew (Nat.le_refl _)))
        have HN := Lib.hid (mk_rdM (m := ys[k]) (s1.below hbel.drew (Nat.le_refl _)) (s2.below hbel.drew (Nat.le_refl _)))
        clear r1 r2 s1 s2
        have HB := Lib.hid hbel
        clear hbel
        by_cases he : xs[k] = ys[k]
        · have STEP := Lib.hid (fun j (h1 : j < xs.length) (h2 : j < ys.length) (h : j < k + 1) => show xs[j] = ys[j] from by
            by_cases e : j = k
            · subst e; exact he
            · exact hall j h1 h2 (by omega))
          have HD := Lib.hid (decide_eq_true he)
          clear hall he
          generalize xs[k] = m at hx0 hx1 hx2 HM HD
          generalize ys[k] = n at hy0 hy1 hy2 HN HD
          go_wp2
          go_region_with (go_at_call 156; refine (eqM_any m n _ _ _ (by exact HM.out) (by exact HN.out)).mono ?_; rintro e w1 ⟨rfl, hb3⟩; rw [HD.out])
          all_goals
            go_wp2
            go_roundw
            case rel => exact ⟨k + 1, by omega, by go_num, HB.out.drew.trans (hb3.mono HB.out.size), STEP.out⟩
            case measure => simp [intOf]; omega
        · have hfin : decide (xs = ys) = false := by
            rw [decide_eq_false_iff_not]; intro e; subst e; exact he rfl
          have HF := Lib.hid hfin
          have HD := Lib.hid (decide_eq_false he)
          clear hall hfin he
          generalize xs[k] = m at hx0 hx1 hx2 HM HD
          generalize ys[k] = n at hy0 hy1 hy2 HN HD
          go_wp2
          go_region_with (go_at_call 156; refine (eqM_any m n _ _ _ (by exact HM.out) (by exact HN.out)).mono ?_; rintro e w1 ⟨rfl, hb3⟩; rw [HD.out])
          all_goals
            go_wp2
            go_ret
            exact ⟨ret_bool HF.out.symm, HB.out.drew.trans (hb3.mono HB.out.size)⟩
      · have hge : ¬ (k : Int) < (xs.length : Int) := by omega
        have HF := Lib.hid (decide_eq_true (ms_pre HL.out hlt hall))
        clear hall
        have HB := Lib.hid hbel
        clear hbel
        go_wp2
        go_ret
        exact ⟨ret_bool HF.out.symm, HB.out⟩
  · have HF : Hid (decide (xs = ys) = false) := Lib.hid (by rw [decide_eq_false_iff_not]; intro e; exact hne (by rw [e]))
    have hne' : ((xs.length : Int) != (ys.length : Int)) = true := by simp; omega
    clear hne
    go_enter Try.func139, Try.ntmps139
    go_wp2
    go_ret
    exact ⟨ret_bool HF.out.symm, Below.refl _ _⟩

theorem dec_ac (a b : Ac) : decide (a = b) = (decide (a.nm = b.nm) && (decide (a.fa = b.fa) && decide (a.ms = b.ms))) := by
  rw [Bool.eq_iff_iff]
  simp [ac_ext]

set_option maxRecDepth 100000 in
set_option maxHeartbeats 1000000 in
theorem eqA_any (a b : Ac) (v u : Value) (w : World) (hv : (trA a).rd w v) (hu : (trA b).rd w u) :
    Calls Try.prog 107 #[v, u] w fun e w' => e = .returned (.bool (decide (a = b))) ∧ Below w.heap.size w w' := by
  obtain ⟨A, ca, rfl, r1⟩ := rdA hv
  obtain ⟨B, cb, rfl, s1⟩ := rdA hu
  clear hv hu
  generalize hres : decide (a = b) = res
  rw [dec_ac] at hres
  have RES := Lib.hid hres
  clear hres
  have R1 := Lib.hid r1
  have S1 := Lib.hid s1
  clear r1 s1
  by_cases h1 : a.nm = b.nm
  · have H1 := Lib.hid h1
    rw [h1]
    clear h1
    by_cases h2 : a.fa = b.fa
    · have H2 := Lib.hid h2
      rw [h2]
      clear h2
      go_enter Try.func107, Try.ntmps107
      go_wp2_with fail
      refine (eqMs_any a.ms b.ms _ _ _ (Tr.rd_below (((Below.refl _ _).alloc (Nat.le_refl _) _).alloc (by simp) _) (Nat.le_refl _) _ _ R1.out) (Tr.rd_below (((Below.refl _ _).alloc (Nat.le_refl _) _).alloc (by simp) _) (Nat.le_refl _) _ _ S1.out)).mono ?_
      rintro e w1 ⟨rfl, hb⟩
      have HB := Lib.hid ((((Below.refl _ _).alloc (Nat.le_refl _) _).alloc (by simp) _).trans (hb.mono (by simp; omega)))
      clear hb
      by_cases h3 : a.ms = b.ms
      · have H3 := Lib.hid h3
        rw [decide_eq_true h3]
        clear h3
        go_wp2
        go_ret
        exact ⟨ret_bool (by rw [← RES.out]; simp [H1.out, H2.out, H3.out]), HB.out⟩
      · have H3 := Lib.hid h3
        rw [decide_eq_false h3]
        clear h3
        go_wp2
        go_ret
        exact ⟨ret_bool (by rw [← RES.out]; simp [H3.out]), HB.out⟩
    · have H2 := Lib.hid h2
      have h2' : (a.fa != b.fa) = true := by simp [h2]
      clear h2
      go_enter Try.func107, Try.ntmps107
      go_wp2
      go_ret
      exact ⟨ret_bool (by rw [← RES.out]; simp [H2.out]), ((Below.refl _ _).alloc (Nat.le_refl _) _).alloc (by simp) _⟩
  · have H1 := Lib.hid h1
    have h1' := str_ne h1
    have h1'' : (a.nm.toList != b.nm.toList) = true := by rw [bne, h1']; rfl
    clear h1
    go_enter Try.func107, Try.ntmps107
    go_wp2
    go_ret
    exact ⟨ret_bool (by rw [← RES.out]; simp [H1.out]), ((Below.refl _ _).alloc (Nat.le_refl _) _).alloc (by simp) _⟩

set_option maxRecDepth 100000 in
set_option maxHeartbeats 1000000 in
theorem toA_any (a : Ac) (v : Value) (w : World) (hv : (trA a).rd w v) (hl : a.ms.length + szMs a.ms ≤ 1073741824) :
    Calls Try.prog 105 #[v] w fun e w' => ∃ u F, e = .returned u ∧ (trA a).own w' w.heap.size u F ∧ F.Nodup ∧ Below w.heap.size w w' := by
  obtain ⟨A, ca, rfl, r1⟩ := rdA hv
  clear hv
  have R1 := Lib.hid r1
  clear r1
  go_enter Try.func105, Try.ntmps105
  go_wp2_with fail
  obtain ⟨hb0, k1, k2, k3, hs0⟩ := boxes3 w 141 68 68 #[.string a.nm, .int .i64 a.fa, .slice A a.ms.length ca] #[.string ⟨#[]⟩, .int .i64 0, .slice none 0 0] #[.string a.nm, .int .i64 a.fa, .slice none 0 0]
  generalize hw0 : (((w.alloc (Obj.cells #[.string a.nm, .int .i64 a.fa, .slice A a.ms.length ca] 141)).alloc (Obj.cells #[.string ⟨#[]⟩, .int .i64 0, .slice none 0 0] 68)).alloc (Obj.cells #[.string a.nm, .int .i64 a.fa, .slice none 0 0] 68)) = w0 at hb0 k1 k2 k3 hs0 ⊢
  clear hw0
  refine (toMs_any a.ms _ _ (Tr.rd_below hb0 (Nat.le_refl _) _ _ R1.out) hl).mono ?_
  rintro e w1 ⟨u1, F, rfl, o1, hn, hb1⟩
  obtain ⟨_, A1, c1, rfl, _⟩ := rdMs (Tr.own_rd _ _ _ o1)
  have O1 := Lib.hid o1
  have ON := Lib.hid hn
  clear o1 hn
  have K2 := k2.below hb1 (Nat.le_refl _)
  have K3 := k3.below hb1 (Nat.le_refl _)
  have hs1 := hb1.size
  rw [hs0] at hs1
  have B1 := Lib.hid (hb0.trans (hb1.mono (by omega)))
  clear k1 k2 k3 hb0 hb1
  obtain ⟨hk30, hk31, hk32, hf3⟩ := K3.c3
  obtain ⟨hk20, hk21, hk22, hf2⟩ := K2.c3
  clear K2 K3
  go_wp2
  refine bodyPost_ret (v := .agg #[.string a.nm, .int .i64 a.fa, .slice A1 a.ms.length c1]) (by simp [results, Try.results105, go_sem, hk20, hk21, hk22]) rfl ⟨_, F, rfl, mk_ownA ?_, ON.out, ?_⟩
  · refine Tr.own_base (B := w0.heap.size) (by omega) _ _ _ ?_
    exact Tr.own_setCell (Tr.own_setCell (Tr.own_setCell (Tr.own_setCell O1.out (p := ⟨w.heap.size + 1 + 1, 2, none⟩) (by show w.heap.size + 1 + 1 < _; omega) _) (p := ⟨w.heap.size + 1, 0, none⟩) (by show w.heap.size + 1 < _; omega) _) (p := ⟨w.heap.size + 1, 1, none⟩) (by show w.heap.size + 1 < _; omega) _) (p := ⟨w.heap.size + 1, 2, none⟩) (by show w.heap.size + 1 < _; omega) _
  · exact (((B1.out.setCell (p := ⟨w.heap.size + 1 + 1, 2, none⟩) (by show _ ≤ w.heap.size + 1 + 1; omega) _).setCell (p := ⟨w.heap.size + 1, 0, none⟩) (by show _ ≤ w.heap.size + 1; omega) _).setCell (p := ⟨w.heap.size + 1, 1, none⟩) (by show _ ≤ w.heap.size + 1; omega) _).setCell (p := ⟨w.heap.size + 1, 2, none⟩) (by show _ ≤ w.heap.size + 1; omega) _
end Go.Proofs.Ytfgmbgdbnjpclaa
