/- DERIVED. CONTRACTS of chapter 11, of the model: the usage at a time, a pair of activities. -/
import Derived.Test.YtaglfdkeomjpdaaGreatRuW
namespace Go.Proofs.YtaglfdkeomjpdaaGreat
open Go.RowKit Go.Shelf
set_option linter.unusedVariables false

/-- The mode of an activity: its value is told by the world that the schedule is read in. -/
theorem specMode_ex (p : Pj) (s : Sc) (a : Nat) (v u : Value) (w0 : World) (hv : (trPj p).rd w0 v) (hs : (trSc s).rd w0 u) (hf : Form p s) (ha : a < p.acts.length) :
    ∃ M1 m1 M2 m2, (trM (mdA p s a)).rd w0 (.agg #[.int .i64 (mdA p s a).du, .slice M1 (mdA p s a).us.length m1, .slice M2 (mdA p s a).co.length m2]) ∧ ∀ w, Below w0.heap.size w0 w → Calls Tryz.prog 104 #[v, u, .int .i64 (a : Int)] w fun e w' => e = .returned (.agg #[.int .i64 (mdA p s a).du, .slice M1 (mdA p s a).us.length m1, .slice M2 (mdA p s a).co.length m2]) ∧ Below w.heap.size w w' := by
  obtain ⟨A1, c1, A2, c2, A3, c3, A4, c4, rfl, r1, r2, r3, r4⟩ := rdProject_t hv
  obtain ⟨hl1, B1, d1, he, g1⟩ := rdActivityS_t r1
  injection he with he _ he2
  subst he he2
  have HQ := Lib.hid hs
  obtain ⟨E1, f1, E2, f2, rfl, q1, q2⟩ := rdSchedule_t hs
  obtain ⟨ht1, B8, d8, he, x1⟩ := rdI (rd_flat q1)
  injection he with he _ he2
  subst he he2
  have X1 := Lib.hid x1
  obtain ⟨ht2, B9, d9, he, x2⟩ := rdI (rd_flat q2)
  injection he with he _ he2
  subst he he2
  have X2 := Lib.hid x2
  clear hs q1 q2 x1 x2
  have ha2 : a < s.mo.length := by rw [hf.h2]; exact ha
  obtain ⟨j, hj, hm, he⟩ := hf.mo a ha
  rw [he]
  obtain ⟨b1, o1, rfl, hb1, hc1⟩ := g1 a ha
  obtain ⟨M, cm, x0, x1, x2, rm⟩ := hc1 a ha
  obtain ⟨hlm, M', cm', he, g⟩ := rdModeS_t rm
  injection he with he _ he2
  subst he he2
  obtain ⟨b2, o2, rfl, hb2, hc2⟩ := g j hj
  obtain ⟨M1, m1, M2, m2, y0, y1, y2, r1, r2⟩ := hc2 j hj
  obtain ⟨b3, o3, rfl, hb3, hc3⟩ := X2.out a ha2
  have z3 := hc3 a ha2
  rw [← moA_at ha2, hm] at z3
  refine ⟨M1, m1, M2, m2, mk_rdMode_t r1 r2, fun w hb0 => ?_⟩
  exact specMode_w p.dl p.acts.length c1 p.lks.length c2 p.ress.length c3 p.stk.length c4 A2 A3 A4 E1 s.st.length f1 s.mo.length f2 p.acts[a].ms.length cm b1 o1 b2 o2 b3 o3 a j p.acts[a].ms[j].du M1 M2 p.acts[a].ms[j].us.length m1 p.acts[a].ms[j].co.length m2 w (Nat.lt_of_lt_of_le hb1 hb0.size) (Nat.lt_of_lt_of_le hb2 hb0.size) (Nat.lt_of_lt_of_le hb3 hb0.size) ((hb0.cell (p := ⟨b1, o1 + a * 3 + 2, none⟩) hb1).trans x2) ((hb0.cell (p := ⟨b3, o3 + a, none⟩) hb3).trans z3) ((hb0.cell (p := ⟨b2, o2 + j * 3, none⟩) hb2).trans y0) ((hb0.cell (p := ⟨b2, o2 + j * 3 + 1, none⟩) hb2).trans y1) ((hb0.cell (p := ⟨b2, o2 + j * 3 + 2, none⟩) hb2).trans y2) (by omega) (by omega) (by omega)

theorem use_lo {p : Pj} {s : Sc} {r : Nat} {t : Int} {k : Nat} (h : ¬ stA s k ≤ t) : useK p s r t (k + 1) = useK p s r t k := useK_no (by simp only [runA, Bool.and_eq_false_iff, decide_eq_false_iff_not]; exact .inl h)
theorem use_hi {p : Pj} {s : Sc} {r : Nat} {t : Int} {k : Nat} (h : endA p s k ≤ t) : useK p s r t (k + 1) = useK p s r t k := useK_no (by simp only [runA, Bool.and_eq_false_iff, decide_eq_false_iff_not]; exact .inr (by omega))
theorem use_in {p : Pj} {s : Sc} {r : Nat} {t : Int} {k : Nat} (h : stA s k ≤ t) (h2 : endA p s k > t) : useK p s r t (k + 1) = useK p s r t k + usA p s r k := useK_yes (by simp only [runA, Bool.and_eq_true, decide_eq_true_eq]; exact ⟨h, by omega⟩)

set_option maxRecDepth 100000 in
set_option maxHeartbeats 8000000 in
theorem specUse_any (p : Pj) (s : Sc) (r : Nat) (t : Int) (v u : Value) (w : World) (hv : (trPj p).rd w v) (hs : (trSc s).rd w u) (hf : Form p s) (hr : r < p.ress.length) :
    Calls Tryz.prog 69 #[v, u, .int .i64 (r : Int), .int .i64 t] w fun e w' => e = .returned (.int .i64 (useK p s r t p.acts.length)) ∧ Below w.heap.size w w' := by
  have HV := Lib.hid hv
  obtain ⟨A1, c1, A2, c2, A3, c3, A4, c4, rfl, _⟩ := rdProject_t hv
  clear hv
  have HQ := Lib.hid hs
  obtain ⟨E1, f1, E2, f2, rfl, q1, q2⟩ := rdSchedule_t hs
  obtain ⟨ht1, B8, d8, he, x1⟩ := rdI (rd_flat q1)
  injection he with he _ he2
  subst he he2
  have X1 := Lib.hid x1
  obtain ⟨ht2, B9, d9, he, x2⟩ := rdI (rd_flat q2)
  injection he with he _ he2
  subst he he2
  have X2 := Lib.hid x2
  clear hs q1 q2 x1 x2
  have S0 := Lib.hid (((Sn.start w).box 36 [.int .i64 p.dl, .slice A1 p.acts.length c1, .slice A2 p.lks.length c2, .slice A3 p.ress.length c3, .slice A4 p.stk.length c4]).box 46 [.slice E1 s.st.length f1, .slice E2 s.mo.length f2])
  simp only [World.size_alloc] at S0
  go_enter Tryz.func69, Tryz.ntmps69
  have h6 := hf.n6
  have H1 := Lib.hid hf.h1
  have HF := Lib.hid hf
  rw [H1.out] at HQ S0 ⊢
  have r0 : (0 : Int) ≤ (r : Int) := by omega
  clear hf
  go_wp2
  go_loopw [9, 14] (fun q i wr => ∃ k : Nat, k ≤ p.acts.length ∧ i = .int .i64 k ∧ q = .int .i64 (useK p s r t k) ∧ Sn w wr [boxI (w.heap.size + 1) 46 [.slice E1 p.acts.length f1, .slice E2 s.mo.length f2], boxI w.heap.size 36 [.int .i64 p.dl, .slice A1 p.acts.length c1, .slice A2 p.lks.length c2, .slice A3 p.ress.length c3, .slice A4 p.stk.length c4]]) (fun _ i _ => p.acts.length - (intOf i).toNat)
  case atStart => exact ⟨0, Nat.zero_le _, rfl, rfl, S0.out⟩
  case round =>
    obtain ⟨k, hkl, rfl, rfl, hS⟩ := hrel
    have S1 := Lib.hid hS
    clear hS S0
    by_cases hlt : k < p.acts.length
    · have hlt' : (k : Int) < (p.acts.length : Int) := by omega
      have k0 : (0 : Int) ≤ (k : Int) := by omega
      obtain ⟨b8, o8, rfl, hb8, hc8⟩ := X1.out k (by rw [H1.out]; exact hlt)
      have y8 := (S1.out.1.cell (p := ⟨b8, o8 + k, none⟩) hb8).trans (hc8 k (by rw [H1.out]; exact hlt))
      rw [← stA_at] at y8
      have UL := Lib.hid (@use_lo p s r t k)
      have UH := Lib.hid (@use_hi p s r t k)
      have UI := Lib.hid (@use_in p s r t k)
      have hs0 := useK_hi (t := t) HF.out hr k hkl
      have hus := HF.out.us hlt hr
      generalize hnx : useK p s r t (k + 1) = nx at UL UH UI
      have HNX := Lib.hid hnx
      clear hnx
      generalize useK p s r t k = su at UL UH UI hs0 ⊢
      generalize stA s k = st at y8 UL UI
      clear hc8
      obtain ⟨e0, e1, e2, e3, e4, ef⟩ := (S1.out.bk 1 rfl).c5
      obtain ⟨q0, q1, qf⟩ := (S1.out.bk 0 rfl).c2
      by_cases ht1 : st ≤ t
      rotate_left
      · have HT := Lib.hid (UL.out ht1)
        clear UL UH UI
        go_wp2
        go_roundw
        case rel => exact ⟨k + 1, by omega, by go_num, by rw [HNX.out, HT.out], S1.out⟩
        case measure => simp [intOf]; omega
      go_wp2_with fail
      clear e0 e1 e2 e3 e4 ef
      clear q0 q1 qf
      clear y8
      refine (specEnd_any p s k _ _ _ (by exact S1.out.old HV.out) (by exact S1.out.old HQ.out) HF.out hlt).mono ?_
      rintro e w2 ⟨rfl, b⟩
      have S2 := Lib.hid (S1.out.go b)
      clear S1 b
      generalize endA p s k = en at UH UI ⊢
      by_cases ht2 : en > t
      rotate_left
      · have HT := Lib.hid (UH.out (by omega))
        clear UL UH UI
        go_wp2
        go_roundw
        case rel => exact ⟨k + 1, by omega, by go_num, by rw [HNX.out, HT.out], S2.out⟩
        case measure => simp [intOf]; omega
      have HT := Lib.hid (UI.out ht1 ht2)
      clear UL UH UI
      obtain ⟨e0, e1, e2, e3, e4, ef⟩ := (S2.out.bk 1 rfl).c5
      obtain ⟨q0, q1, qf⟩ := (S2.out.bk 0 rfl).c2
      have hfd := field_mode1
      go_wp2_with fail
      clear e0 e1 e2 e3 e4 ef
      clear q0 q1 qf
      refine (specMode_at p s k _ _ w _ (by exact S2.out.1) (by exact HV.out) (by exact HQ.out) HF.out hlt).mono ?_
      rintro e w3 ⟨M1, m1, M2, m2, rfl, rm, b⟩
      obtain ⟨N1, k1, N2, k2, he, ru, _⟩ := rdMode_t rm
      obtain ⟨rfl, rfl⟩ : M1 = N1 ∧ m1 = k1 := by
        injection he with he
        injection he with he
        simp at he
        exact ⟨he.1.1, he.1.2⟩
      obtain ⟨hlu, N, n, he, gu⟩ := rdI (rd_flat ru)
      injection he with he _ he2
      subst he he2
      obtain ⟨b7, o7, rfl, hb7, hc7⟩ := gu r (by rw [hus.1]; exact hr)
      have S3 := Lib.hid (S2.out.go b)
      have y7 := (S3.out.1.cell (p := ⟨b7, o7 + r, none⟩) hb7).trans (hc7 r (by rw [hus.1]; exact hr))
      have hua : (mdA p s k).us[r]'(by rw [hus.1]; exact hr) = usA p s r k := by simp [usA, List.getD, List.getElem?_eq_getElem (show r < (mdA p s k).us.length by rw [hus.1]; exact hr)]
      rw [hua] at y7
      have hxl : (r : Int) < ((mdA p s k).us.length : Int) := by rw [hus.1]; omega
      have hub := hus.2
      generalize usA p s r k = ua at y7 HT hub
      generalize (mdA p s k).us.length = nu at hxl ⊢
      have hw : IntKind.i64.wrap (su + ua) = su + ua := by rw [IntKind.wrap_i64]; omega
      clear S2 b rm hc7 hua hus gu ru
      go_wp2
      go_roundw
      case rel => exact ⟨k + 1, by omega, by go_num, by rw [HNX.out, HT.out], S3.out⟩
      case measure => simp [intOf]; omega
    · have hge : ¬ (k : Int) < (p.acts.length : Int) := by omega
      obtain rfl : k = p.acts.length := by omega
      go_wp2
      go_ret
      exact ⟨rfl, S1.out.1⟩
end Go.Proofs.YtaglfdkeomjpdaaGreat
