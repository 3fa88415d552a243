/- DERIVED. CONTRACTS of chapter 10: ScheduleForm of the program and of the model. -/
import Derived.Test.YtaglfdkeomjpdaaGreatScI
import Derived.Test.YtaglfdkeomjpdaaGreatPrC
import Derived.Test.YtaglfdkeomjpdaaGreatPrD
import Derived.Deep.QuietTactic
namespace Go.Proofs.YtaglfdkeomjpdaaGreat
open Go.RowKit Go.Shelf
set_option linter.unusedVariables false

set_option maxRecDepth 100000 in
set_option maxHeartbeats 8000000 in
theorem implForm_any (p : Pj) (s : Sc) (v u : Value) (w : World) (hv : (trPj p).rd w v) (hk : (trPj p).ok) (hs : (trSc s).rd w u) :
    Calls Tryz.prog 46 #[v, u] w fun e w' => e = .returned (.bool (formB p s)) ∧ Below w.heap.size w w' := by
  have HV := Lib.hid hv
  obtain ⟨A1, c1, A2, c2, A3, c3, A4, c4, rfl, r1, r2, r3, r4⟩ := rdProject_t hv
  obtain ⟨hl2, B2, d2, he, g2⟩ := rdLinkS_t r2
  injection he with he _ he2
  subst he he2
  have G2 := Lib.hid g2
  obtain ⟨hl1, B1, d1, he, g1⟩ := rdActivityS_t r1
  injection he with he _ he2
  subst he he2
  have G1 := Lib.hid g1
  clear hv r1 r2 r3 r4 g1 g2
  have S0 := Lib.hid ((Sn.start w).box 36 [.int .i64 p.dl, .slice A1 p.acts.length c1, .slice A2 p.lks.length c2, .slice A3 p.ress.length c3, .slice A4 p.stk.length c4])
  have HQ := Lib.hid hs
  obtain ⟨E1, f1, E2, f2, rfl, q1, q2⟩ := rdSchedule_t hs
  obtain ⟨ht1, B8, d8, he, x1⟩ := rdI (rd_flat q1)
  injection he with he _ he2
  subst he he2
  have X1 := Lib.hid x1
  obtain ⟨ht2, B9, d9, he, x2⟩ := rdI (rd_flat q2)
  injection he with he _ he2
  subst he he2
  have X2 := Lib.hid x2
  clear hs q1 q2 x1 x2
  have HK := Lib.hid hk
  clear hk
  have S1 := Lib.hid (S0.out.box 46 [.slice E1 s.st.length f1, .slice E2 s.mo.length f2])
  simp only [World.size_alloc] at S1
  clear S0
  go_enter Tryz.func46, Tryz.ntmps46
  by_cases h1 : s.st.length = p.acts.length
  rotate_left
  · have HR := Lib.hid (form_st h1)
    have h1' : ¬ (s.st.length : Int) = (p.acts.length : Int) := by omega
    go_wp2
    go_ret
    exact ⟨ret_boo HR.out.symm, S1.out.1⟩
  by_cases h2 : s.mo.length = p.acts.length
  rotate_left
  · have HR := Lib.hid (form_mo h2)
    have h2' : ¬ (s.mo.length : Int) = (p.acts.length : Int) := by omega
    rw [h1] at S1 ⊢
    clear h1
    go_wp2
    go_ret
    exact ⟨ret_boo HR.out.symm, S1.out.1⟩
  rw [h1, h2] at HQ S1 ⊢
  go_wp2_with fail
  refine (implProjectOk_any p _ _ (by exact S1.out.old HV.out) HK.out).mono ?_
  rintro e w1 ⟨rfl, b⟩
  have S2 := Lib.hid (S1.out.go b)
  clear S1 b
  rcases hok : pokB p with _ | _
  · have HR := Lib.hid (form_bad (s := s) hok)
    clear hok
    go_wp2
    go_ret
    exact ⟨ret_boo HR.out.symm, S2.out.1⟩
  have HOK := Lib.hid hok
  obtain ⟨e0, e1, e2, e3, e4, ef⟩ := (S2.out.bk 1 rfl).c5
  have H1 := Lib.hid h1
  have H2 := Lib.hid h2
  clear hok h1 h2
  go_wp2_with fail
  clear e0 e1 e2 e3 e4 ef
  go_loopw [31] (fun i wr => ∃ k : Nat, k ≤ p.acts.length ∧ i = .int .i64 k ∧ Sn w wr [boxI (w.heap.size + 1) 46 [.slice E1 p.acts.length f1, .slice E2 p.acts.length f2], boxI w.heap.size 36 [.int .i64 p.dl, .slice A1 p.acts.length c1, .slice A2 p.lks.length c2, .slice A3 p.ress.length c3, .slice A4 p.stk.length c4]] ∧ Hid (∀ a, a < k → goodA p s a = true)) (fun i _ => p.acts.length - (intOf i).toNat)
  case atStart => exact ⟨0, Nat.zero_le _, rfl, S2.out, Lib.hid (fun a ha => absurd ha (by omega))⟩
  case round =>
    obtain ⟨k, hkl, rfl, hS, GD⟩ := hrel
    have S3 := Lib.hid hS
    clear hS S2
    by_cases hlt : k < p.acts.length
    · have hlt' : (k : Int) < (p.acts.length : Int) := by omega
      obtain ⟨b1, o1, rfl, hb1, hc1⟩ := G1.out k hlt
      obtain ⟨M, cm, x0, x1, x2, rm⟩ := hc1 k hlt
      have z0 := (S3.out.1.cell (p := ⟨b1, o1 + k * 3, none⟩) hb1).trans x0
      have z1 := (S3.out.1.cell (p := ⟨b1, o1 + k * 3 + 1, none⟩) hb1).trans x1
      have z2 := (S3.out.1.cell (p := ⟨b1, o1 + k * 3 + 2, none⟩) hb1).trans x2
      obtain ⟨b8, o8, rfl, hb8, hc8⟩ := X1.out k (by rw [H1.out]; exact hlt)
      obtain ⟨b9, o9, rfl, hb9, hc9⟩ := X2.out k (by rw [H2.out]; exact hlt)
      have y8 := hc8 k (by rw [H1.out]; exact hlt)
      have y9 := hc9 k (by rw [H2.out]; exact hlt)
      rw [← stA_at] at y8
      rw [← moA_at] at y9
      have k0 : (0 : Int) ≤ (k : Int) := by omega
      have HC := Lib.hid (acA_at hlt)
      have GN := Lib.hid (fun (h : goodA p s k = false) => form_at hlt h)
      have GS := Lib.hid (fun h => good_st (p := p) (s := s) (a := k) h)
      have GM := Lib.hid (fun h => good_mo (p := p) (s := s) (a := k) h)
      have GY := Lib.hid (fun h h2 => good_yes (p := p) (s := s) (a := k) h h2)
      rw [HC.out] at GM GY
      generalize stA s k = st at y8 GS GY
      generalize moA s k = mo at y9 GM GY
      generalize p.acts[k].ms.length = nm at x2 z2 rm GM GY
      have S4 := Lib.hid (S3.out.box 98 [.string p.acts[k].nm, .int .i64 p.acts[k].fa, .slice M nm cm])
      clear hc1 x0 x1 x2 rm hc8 hc9 S3
      generalize p.acts[k].nm = anm at z0 S4
      generalize p.acts[k].fa = afa at z1 S4
      go_wp2_with fail
      clear z0 z1 z2
      generalize wr.heap.size = ga at S4 ⊢
      obtain ⟨c0, c1, c2, cf⟩ := (S4.out.bk 0 rfl).c3
      obtain ⟨q0, q1, qf⟩ := (S4.out.bk 1 rfl).c2
      replace y8 := (S4.out.1.cell (p := ⟨b8, o8 + k, none⟩) hb8).trans y8
      replace y9 := (S4.out.1.cell (p := ⟨b9, o9 + k, none⟩) hb9).trans y9
      by_cases t1 : 0 ≤ st ∧ st ≤ 60
      rotate_left
      · have HR := Lib.hid (GN.out (GS.out t1))
        have i1 := inB_no t1
        clear t1
        go_quiet (first | (go_at_call 74; exact quiet_left (isTime_any _ _)) | (go_at_call 75; exact quiet_left (isBelow_any _ _ _)))
        go_wp2
        go_ret
        exact ⟨ret_boo HR.out.symm, below_drewN S4.out.1 _⟩
      have i1 := inB_yes t1
      have T1 := Lib.hid t1
      clear t1
      by_cases t2 : 0 ≤ mo ∧ mo ≤ (nm : Int) - 1
      rotate_left
      · have HR := Lib.hid (GN.out (GM.out t2))
        have i2 := inB_no t2
        clear t2
        go_quiet (first | (go_at_call 74; exact quiet_left (isTime_any _ _)) | (go_at_call 75; exact quiet_left (isBelow_any _ _ _)))
        go_wp2
        go_ret
        exact ⟨ret_boo HR.out.symm, below_drewN S4.out.1 _⟩
      have i2 := inB_yes t2
      have GD2 := Lib.hid (show ∀ a, a < k + 1 → goodA p s a = true from fun a ha => by
        by_cases e : a = k
        · subst e; exact GY.out T1.out t2
        · exact GD.out a (by omega))
      clear t2
      go_quiet (first | (go_at_call 74; exact quiet_left (isTime_any _ _)) | (go_at_call 75; exact quiet_left (isBelow_any _ _ _)))
      go_wp2
      go_roundw
      case rel => exact ⟨k + 1, by omega, by go_num, (S4.out.drop 0).go (below_drewN (Below.refl _ _) _), GD2⟩
      case measure => simp [intOf]; omega
    · have hge : ¬ (k : Int) < (p.acts.length : Int) := by omega
      obtain rfl : k = p.acts.length := by omega
      have HR := Lib.hid (form_yes HOK.out H1.out H2.out GD.out)
      go_wp2
      go_ret
      exact ⟨ret_boo HR.out.symm, S3.out.1⟩
set_option maxRecDepth 100000 in
set_option maxHeartbeats 8000000 in
theorem specForm_any (p : Pj) (s : Sc) (v u : Value) (w : World) (hv : (trPj p).rd w v) (hk : (trPj p).ok) (hs : (trSc s).rd w u) :
    Calls Tryz.prog 43 #[v, u] w fun e w' => e = .returned (.bool (formB p s)) ∧ Below w.heap.size w w' := by
  have HV := Lib.hid hv
  obtain ⟨A1, c1, A2, c2, A3, c3, A4, c4, rfl, r1, r2, r3, r4⟩ := rdProject_t hv
  obtain ⟨hl2, B2, d2, he, g2⟩ := rdLinkS_t r2
  injection he with he _ he2
  subst he he2
  have G2 := Lib.hid g2
  obtain ⟨hl1, B1, d1, he, g1⟩ := rdActivityS_t r1
  injection he with he _ he2
  subst he he2
  have G1 := Lib.hid g1
  clear hv r1 r2 r3 r4 g1 g2
  have S0 := Lib.hid ((Sn.start w).box 36 [.int .i64 p.dl, .slice A1 p.acts.length c1, .slice A2 p.lks.length c2, .slice A3 p.ress.length c3, .slice A4 p.stk.length c4])
  have HQ := Lib.hid hs
  obtain ⟨E1, f1, E2, f2, rfl, q1, q2⟩ := rdSchedule_t hs
  obtain ⟨ht1, B8, d8, he, x1⟩ := rdI (rd_flat q1)
  injection he with he _ he2
  subst he he2
  have X1 := Lib.hid x1
  obtain ⟨ht2, B9, d9, he, x2⟩ := rdI (rd_flat q2)
  injection he with he _ he2
  subst he he2
  have X2 := Lib.hid x2
  clear hs q1 q2 x1 x2
  have HK := Lib.hid hk
  clear hk
  have S1 := Lib.hid (S0.out.box 46 [.slice E1 s.st.length f1, .slice E2 s.mo.length f2])
  simp only [World.size_alloc] at S1
  clear S0
  go_enter Tryz.func43, Tryz.ntmps43
  go_wp2_with fail
  refine (specProjectOk_any p _ _ (by exact S1.out.old HV.out) HK.out).mono ?_
  rintro e w1 ⟨rfl, b⟩
  have S2 := Lib.hid (S1.out.go b)
  clear S1 b
  obtain ⟨e0, e1, e2, e3, e4, ef⟩ := (S2.out.bk 1 rfl).c5
  obtain ⟨q0, q1, qf⟩ := (S2.out.bk 0 rfl).c2
  rcases hok : pokB p with _ | _
  · have HR := Lib.hid (form_bad (s := s) hok)
    clear hok
    go_wp2
    go_ret
    exact ⟨ret_boo HR.out.symm, S2.out.1⟩
  have HOK := Lib.hid hok
  clear hok
  by_cases h1 : s.st.length = p.acts.length
  rotate_left
  · have HR := Lib.hid (form_st h1)
    have h1' : ¬ (s.st.length : Int) = (p.acts.length : Int) := by omega
    go_wp2
    go_ret
    exact ⟨ret_boo HR.out.symm, S2.out.1⟩
  have H1 := Lib.hid h1
  rw [h1] at HQ S2 q0 ⊢
  clear h1
  by_cases h2 : s.mo.length = p.acts.length
  rotate_left
  · have HR := Lib.hid (form_mo h2)
    have h2' : ¬ (s.mo.length : Int) = (p.acts.length : Int) := by omega
    go_wp2
    go_ret
    exact ⟨ret_boo HR.out.symm, S2.out.1⟩
  have H2 := Lib.hid h2
  rw [h2] at HQ S2 q1 ⊢
  clear h2
  go_wp2_with fail
  clear e0 e1 e2 e3 e4 ef q0 q1 qf
  go_loopw [31] (fun i wr => ∃ k : Nat, k ≤ p.acts.length ∧ i = .int .i64 k ∧ Sn w wr [boxI (w.heap.size + 1) 46 [.slice E1 p.acts.length f1, .slice E2 p.acts.length f2], boxI w.heap.size 36 [.int .i64 p.dl, .slice A1 p.acts.length c1, .slice A2 p.lks.length c2, .slice A3 p.ress.length c3, .slice A4 p.stk.length c4]] ∧ Hid (∀ a, a < k → goodA p s a = true)) (fun i _ => p.acts.length - (intOf i).toNat)
  case atStart => exact ⟨0, Nat.zero_le _, rfl, S2.out, Lib.hid (fun a ha => absurd ha (by omega))⟩
  case round =>
    obtain ⟨k, hkl, rfl, hS, GD⟩ := hrel
    have S3 := Lib.hid hS
    clear hS S2
    by_cases hlt : k < p.acts.length
    · have hlt' : (k : Int) < (p.acts.length : Int) := by omega
      obtain ⟨b1, o1, rfl, hb1, hc1⟩ := G1.out k hlt
      obtain ⟨M, cm, x0, x1, x2, rm⟩ := hc1 k hlt
      have z0 := (S3.out.1.cell (p := ⟨b1, o1 + k * 3, none⟩) hb1).trans x0
      have z1 := (S3.out.1.cell (p := ⟨b1, o1 + k * 3 + 1, none⟩) hb1).trans x1
      have z2 := (S3.out.1.cell (p := ⟨b1, o1 + k * 3 + 2, none⟩) hb1).trans x2
      obtain ⟨b8, o8, rfl, hb8, hc8⟩ := X1.out k (by rw [H1.out]; exact hlt)
      obtain ⟨b9, o9, rfl, hb9, hc9⟩ := X2.out k (by rw [H2.out]; exact hlt)
      have y8 := hc8 k (by rw [H1.out]; exact hlt)
      have y9 := hc9 k (by rw [H2.out]; exact hlt)
      rw [← stA_at] at y8
      rw [← moA_at] at y9
      have k0 : (0 : Int) ≤ (k : Int) := by omega
      have HC := Lib.hid (acA_at hlt)
      have hnm := (rdModeS_t rm).1
      have GN := Lib.hid (fun (h : goodA p s k = false) => form_at hlt h)
      have GS := Lib.hid (fun h => good_st (p := p) (s := s) (a := k) h)
      have GM := Lib.hid (fun h => good_mo (p := p) (s := s) (a := k) h)
      have GY := Lib.hid (fun h h2 => good_yes (p := p) (s := s) (a := k) h h2)
      rw [HC.out] at GM GY
      generalize stA s k = st at y8 GS GY
      generalize moA s k = mo at y9 GM GY
      generalize p.acts[k].ms.length = nm at x2 z2 rm GM GY hnm
      have S4 := Lib.hid (S3.out.box 98 [.string p.acts[k].nm, .int .i64 p.acts[k].fa, .slice M nm cm])
      clear hc1 x0 x1 x2 rm hc8 hc9 S3
      generalize p.acts[k].nm = anm at z0 S4
      generalize p.acts[k].fa = afa at z1 S4
      go_wp2_with fail
      clear z0 z1 z2
      generalize wr.heap.size = ga at S4 ⊢
      obtain ⟨c0, c1, c2, cf⟩ := (S4.out.bk 0 rfl).c3
      obtain ⟨q0, q1, qf⟩ := (S4.out.bk 1 rfl).c2
      replace y8 := (S4.out.1.cell (p := ⟨b8, o8 + k, none⟩) hb8).trans y8
      replace y9 := (S4.out.1.cell (p := ⟨b9, o9 + k, none⟩) hb9).trans y9
      have hw : IntKind.i64.wrap ((nm : Int) - 1) = (nm : Int) - 1 := by rw [IntKind.wrap_i64]; omega
      by_cases t1 : 0 ≤ st ∧ st ≤ 60
      rotate_left
      · have HR := Lib.hid (GN.out (GS.out t1))
        have i1 := inB_no t1
        clear t1
        go_quiet (first | (go_at_call 32; exact quiet_left (in_any _ _ _ _)) | fail)
        go_wp2
        go_ret
        exact ⟨ret_boo HR.out.symm, below_drewN S4.out.1 _⟩
      have i1 := inB_yes t1
      have T1 := Lib.hid t1
      clear t1
      by_cases t2 : 0 ≤ mo ∧ mo ≤ (nm : Int) - 1
      rotate_left
      · have HR := Lib.hid (GN.out (GM.out t2))
        have i2 := inB_no t2
        clear t2
        go_quiet (first | (go_at_call 32; exact quiet_left (in_any _ _ _ _)) | fail)
        go_wp2
        go_ret
        exact ⟨ret_boo HR.out.symm, below_drewN S4.out.1 _⟩
      have i2 := inB_yes t2
      have GD2 := Lib.hid (show ∀ a, a < k + 1 → goodA p s a = true from fun a ha => by
        by_cases e : a = k
        · subst e; exact GY.out T1.out t2
        · exact GD.out a (by omega))
      clear t2
      go_quiet (first | (go_at_call 32; exact quiet_left (in_any _ _ _ _)) | fail)
      go_wp2
      go_roundw
      case rel => exact ⟨k + 1, by omega, by go_num, (S4.out.drop 0).go (below_drewN (Below.refl _ _) _), GD2⟩
      case measure => simp [intOf]; omega
    · have hge : ¬ (k : Int) < (p.acts.length : Int) := by omega
      obtain rfl : k = p.acts.length := by omega
      have HR := Lib.hid (form_yes HOK.out H1.out H2.out GD.out)
      go_wp2
      go_ret
      exact ⟨ret_boo HR.out.symm, S3.out.1⟩
end Go.Proofs.YtaglfdkeomjpdaaGreat
