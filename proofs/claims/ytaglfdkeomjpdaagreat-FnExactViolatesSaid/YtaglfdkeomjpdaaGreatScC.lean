/- DERIVED. CONTRACTS of chapter 10: ConsumptionOf of the program and of the model. -/
import Derived.Test.YtaglfdkeomjpdaaGreatScJ
namespace Go.Proofs.YtaglfdkeomjpdaaGreat
open Go.RowKit Go.Shelf
set_option linter.unusedVariables false

set_option maxRecDepth 100000 in
set_option maxHeartbeats 8000000 in
theorem implConsumptionOf_any (p : Pj) (s : Sc) (r : Int) (v u : Value) (w : World) (hv : (trPj p).rd w v) (hk : (trPj p).ok) (hs : (trSc s).rd w u) :
    Calls Tryz.prog 174 #[v, u, .int .i64 r] w fun e w' => e = .returned (.int .i64 (conB p s r)) ∧ Below w.heap.size w w' := by
  have HK := Lib.hid hk
  clear hk
  have hrl : (p.stk.length : Int) ≤ 9223372036854775807 := by
    obtain ⟨_, _, _, _, _, _, _, _, rfl, _, _, _, r4⟩ := rdProject_t hv
    have := (rdI (rd_flat r4)).1
    unfold maxLen at this
    omega
  have hwr : IntKind.i64.wrap ((p.stk.length : Int) - 1) = (p.stk.length : Int) - 1 := by rw [IntKind.wrap_i64]; omega
  have HV := Lib.hid hv
  obtain ⟨A1, c1, A2, c2, A3, c3, A4, c4, rfl, _⟩ := rdProject_t hv
  have HQ := Lib.hid hs
  obtain ⟨E1, f1, E2, f2, rfl, _⟩ := rdSchedule_t hs
  clear hv hs
  have S0 := Lib.hid (((Sn.start w).box 36 [.int .i64 p.dl, .slice A1 p.acts.length c1, .slice A2 p.lks.length c2, .slice A3 p.ress.length c3, .slice A4 p.stk.length c4]).box 46 [.slice E1 s.st.length f1, .slice E2 s.mo.length f2])
  simp only [World.size_alloc] at S0
  go_enter Tryz.func174, Tryz.ntmps174
  go_wp2_with fail
  refine (implForm_any p s _ _ _ (by exact S0.out.old HV.out) HK.out (by exact S0.out.old HQ.out)).mono ?_
  rintro e w1 ⟨rfl, b⟩
  have S1 := Lib.hid (S0.out.go b)
  clear S0 b
  rcases hok : formB p s with _ | _
  · have HR := Lib.hid (con_bad (r := r) hok)
    clear hok
    go_wp2
    go_ret
    exact ⟨ret_numZ HR.out.symm, S1.out.1⟩
  have HF := Lib.hid (form_of hok)
  have h6 := HF.out.n6
  obtain ⟨e0, e1, e2, e3, e4, ef⟩ := (S1.out.bk 1 rfl).c5
  go_wp2_with fail
  clear e0 e1 e2 e3 e4 ef
  refine (isBelow_any r (p.stk.length : Int) _).mono ?_
  rintro e w5 ⟨rfl, rfl⟩
  by_cases hin : 0 ≤ r ∧ r < (p.stk.length : Int)
  rotate_left
  · have HR := Lib.hid (con_out (p := p) (s := s) hin)
    rw [inB_no (show ¬ ((0 : Int) ≤ r ∧ r ≤ (p.stk.length : Int) - 1) by omega)]
    clear hin hok
    go_wp2
    go_ret
    exact ⟨ret_numZ HR.out.symm, S1.out.1⟩
  obtain ⟨x, rfl⟩ : ∃ x : Nat, r = (x : Int) := ⟨r.toNat, by omega⟩
  have hx : x < p.stk.length := by omega
  have HR := Lib.hid (con_yes hok hx)
  rw [inB_yes (show (0 : Int) ≤ (x : Int) ∧ (x : Int) ≤ (p.stk.length : Int) - 1 by omega)]
  obtain ⟨e0, e1, e2, e3, e4, ef⟩ := (S1.out.bk 1 rfl).c5
  obtain ⟨q0, q1, qf⟩ := (S1.out.bk 0 rfl).c2
  rw [HF.out.h2] at HQ S1 q1 ⊢
  clear hok hin hwr hrl
  go_wp2
  clear e0 e1 e2 e3 e4 ef
  clear q0 q1 qf
  go_loopw [7, 24] (fun q i wr => ∃ k : Nat, k ≤ p.acts.length ∧ i = .int .i64 k ∧ q = .int .i64 (conK p s x k) ∧ Sn w wr [boxI (w.heap.size + 1) 46 [.slice E1 s.st.length f1, .slice E2 p.acts.length f2], boxI w.heap.size 36 [.int .i64 p.dl, .slice A1 p.acts.length c1, .slice A2 p.lks.length c2, .slice A3 p.ress.length c3, .slice A4 p.stk.length c4]]) (fun _ i _ => p.acts.length - (intOf i).toNat)
  case atStart => exact ⟨0, Nat.zero_le _, rfl, rfl, S1.out⟩
  case round =>
    obtain ⟨k, hkl, rfl, rfl, hS⟩ := hrel
    have S2 := Lib.hid hS
    clear hS S1
    by_cases hlt : k < p.acts.length
    · have hlt' : (k : Int) < (p.acts.length : Int) := by omega
      have HT := Lib.hid (show conK p s x (k + 1) = conK p s x k + coA p s x k from rfl)
      have hus := HF.out.co hlt hx
      have hs0 := conK_hi HF.out hx k hkl
      generalize conK p s x k = su at HT hs0 ⊢
      obtain ⟨e0, e1, e2, e3, e4, ef⟩ := (S2.out.bk 1 rfl).c5
      obtain ⟨q0, q1, qf⟩ := (S2.out.bk 0 rfl).c2
      have hfd := field_mode2
      have x0 : (0 : Int) ≤ (x : Int) := by omega
      go_wp2_with fail
      clear e0 e1 e2 e3 e4 ef
      clear q0 q1 qf
      refine (implMode_at p s k _ _ w _ (by exact S2.out.1) (by exact HV.out) (by exact HQ.out) HF.out hlt).mono ?_
      rintro e w3 ⟨M1, m1, M2, m2, rfl, rm, b⟩
      obtain ⟨N1, k1, N2, k2, he, _, ru⟩ := rdMode_t rm
      obtain ⟨rfl, rfl⟩ : M2 = N2 ∧ m2 = k2 := by
        injection he with he
        injection he with he
        simp at he
        exact ⟨he.2.1, he.2.2⟩
      obtain ⟨hlu, N, n, he, gu⟩ := rdI (rd_flat ru)
      injection he with he _ he2
      subst he he2
      obtain ⟨b7, o7, rfl, hb7, hc7⟩ := gu x (by rw [hus.1]; exact hx)
      have S3 := Lib.hid (S2.out.go b)
      have y7 := (S3.out.1.cell (p := ⟨b7, o7 + x, none⟩) hb7).trans (hc7 x (by rw [hus.1]; exact hx))
      have hua : (mdA p s k).co[x]'(by rw [hus.1]; exact hx) = coA p s x k := by simp [coA, List.getD, List.getElem?_eq_getElem (show x < (mdA p s k).co.length by rw [hus.1]; exact hx)]
      rw [hua] at y7
      have hxl : (x : Int) < ((mdA p s k).co.length : Int) := by rw [hus.1]; omega
      have hub := hus.2
      generalize coA p s x k = ua at y7 HT hub
      generalize (mdA p s k).co.length = nu at hxl ⊢
      have hw : IntKind.i64.wrap (su + ua) = su + ua := by rw [IntKind.wrap_i64]; omega
      clear S2 b rm hc7 hua hus gu ru
      go_wp2
      go_roundw
      case rel => exact ⟨k + 1, by omega, by go_num, by rw [HT.out], S3.out⟩
      case measure => simp [intOf]; omega
    · have hge : ¬ (k : Int) < (p.acts.length : Int) := by omega
      obtain rfl : k = p.acts.length := by omega
      go_wp2
      go_ret
      exact ⟨ret_numZ HR.out.symm, S2.out.1⟩

set_option maxRecDepth 100000 in
set_option maxHeartbeats 8000000 in
theorem specConsumptionOf_any (p : Pj) (s : Sc) (r : Int) (v u : Value) (w : World) (hv : (trPj p).rd w v) (hk : (trPj p).ok) (hs : (trSc s).rd w u) :
    Calls Tryz.prog 73 #[v, u, .int .i64 r] w fun e w' => e = .returned (.int .i64 (conB p s r)) ∧ Below w.heap.size w w' := by
  have HK := Lib.hid hk
  clear hk
  have hrl : (p.stk.length : Int) ≤ 9223372036854775807 := by
    obtain ⟨_, _, _, _, _, _, _, _, rfl, _, _, _, r4⟩ := rdProject_t hv
    have := (rdI (rd_flat r4)).1
    unfold maxLen at this
    omega
  have hwr : IntKind.i64.wrap ((p.stk.length : Int) - 1) = (p.stk.length : Int) - 1 := by rw [IntKind.wrap_i64]; omega
  have HV := Lib.hid hv
  obtain ⟨A1, c1, A2, c2, A3, c3, A4, c4, rfl, _⟩ := rdProject_t hv
  have HQ := Lib.hid hs
  obtain ⟨E1, f1, E2, f2, rfl, _⟩ := rdSchedule_t hs
  clear hv hs
  have S0 := Lib.hid (((Sn.start w).box 36 [.int .i64 p.dl, .slice A1 p.acts.length c1, .slice A2 p.lks.length c2, .slice A3 p.ress.length c3, .slice A4 p.stk.length c4]).box 46 [.slice E1 s.st.length f1, .slice E2 s.mo.length f2])
  simp only [World.size_alloc] at S0
  go_enter Tryz.func73, Tryz.ntmps73
  go_wp2_with fail
  refine (specForm_any p s _ _ _ (by exact S0.out.old HV.out) HK.out (by exact S0.out.old HQ.out)).mono ?_
  rintro e w1 ⟨rfl, b⟩
  have S1 := Lib.hid (S0.out.go b)
  clear S0 b
  rcases hok : formB p s with _ | _
  · have HR := Lib.hid (con_bad (r := r) hok)
    clear hok
    go_wp2
    go_ret
    exact ⟨ret_numZ HR.out.symm, S1.out.1⟩
  have HF := Lib.hid (form_of hok)
  have h6 := HF.out.n6
  obtain ⟨e0, e1, e2, e3, e4, ef⟩ := (S1.out.bk 1 rfl).c5
  go_wp2_with fail
  clear e0 e1 e2 e3 e4 ef
  refine (in_any r 0 ((p.stk.length : Int) - 1) _).mono ?_
  rintro e w5 ⟨rfl, rfl⟩
  by_cases hin : 0 ≤ r ∧ r < (p.stk.length : Int)
  rotate_left
  · have HR := Lib.hid (con_out (p := p) (s := s) hin)
    rw [inB_no (show ¬ ((0 : Int) ≤ r ∧ r ≤ (p.stk.length : Int) - 1) by omega)]
    clear hin hok
    go_wp2
    go_ret
    exact ⟨ret_numZ HR.out.symm, S1.out.1⟩
  obtain ⟨x, rfl⟩ : ∃ x : Nat, r = (x : Int) := ⟨r.toNat, by omega⟩
  have hx : x < p.stk.length := by omega
  have HR := Lib.hid (con_yes hok hx)
  rw [inB_yes (show (0 : Int) ≤ (x : Int) ∧ (x : Int) ≤ (p.stk.length : Int) - 1 by omega)]
  obtain ⟨e0, e1, e2, e3, e4, ef⟩ := (S1.out.bk 1 rfl).c5
  obtain ⟨q0, q1, qf⟩ := (S1.out.bk 0 rfl).c2
  
  clear hok hin hwr hrl
  go_wp2
  clear e0 e1 e2 e3 e4 ef
  clear q0 q1 qf
  go_loopw [7, 25] (fun q i wr => ∃ k : Nat, k ≤ p.acts.length ∧ i = .int .i64 k ∧ q = .int .i64 (conK p s x k) ∧ Sn w wr [boxI (w.heap.size + 1) 46 [.slice E1 s.st.length f1, .slice E2 s.mo.length f2], boxI w.heap.size 36 [.int .i64 p.dl, .slice A1 p.acts.length c1, .slice A2 p.lks.length c2, .slice A3 p.ress.length c3, .slice A4 p.stk.length c4]]) (fun _ i _ => p.acts.length - (intOf i).toNat)
  case atStart => exact ⟨0, Nat.zero_le _, rfl, rfl, S1.out⟩
  case round =>
    obtain ⟨k, hkl, rfl, rfl, hS⟩ := hrel
    have S2 := Lib.hid hS
    clear hS S1
    by_cases hlt : k < p.acts.length
    · have hlt' : (k : Int) < (p.acts.length : Int) := by omega
      have HT := Lib.hid (show conK p s x (k + 1) = conK p s x k + coA p s x k from rfl)
      have hus := HF.out.co hlt hx
      have hs0 := conK_hi HF.out hx k hkl
      generalize conK p s x k = su at HT hs0 ⊢
      obtain ⟨e0, e1, e2, e3, e4, ef⟩ := (S2.out.bk 1 rfl).c5
      obtain ⟨q0, q1, qf⟩ := (S2.out.bk 0 rfl).c2
      have hfd := field_mode2
      have x0 : (0 : Int) ≤ (x : Int) := by omega
      go_wp2_with fail
      clear e0 e1 e2 e3 e4 ef
      clear q0 q1 qf
      refine (specMode_at p s k _ _ w _ (by exact S2.out.1) (by exact HV.out) (by exact HQ.out) HF.out hlt).mono ?_
      rintro e w3 ⟨M1, m1, M2, m2, rfl, rm, b⟩
      obtain ⟨N1, k1, N2, k2, he, _, ru⟩ := rdMode_t rm
      obtain ⟨rfl, rfl⟩ : M2 = N2 ∧ m2 = k2 := by
        injection he with he
        injection he with he
        simp at he
        exact ⟨he.2.1, he.2.2⟩
      obtain ⟨hlu, N, n, he, gu⟩ := rdI (rd_flat ru)
      injection he with he _ he2
      subst he he2
      obtain ⟨b7, o7, rfl, hb7, hc7⟩ := gu x (by rw [hus.1]; exact hx)
      have S3 := Lib.hid (S2.out.go b)
      have y7 := (S3.out.1.cell (p := ⟨b7, o7 + x, none⟩) hb7).trans (hc7 x (by rw [hus.1]; exact hx))
      have hua : (mdA p s k).co[x]'(by rw [hus.1]; exact hx) = coA p s x k := by simp [coA, List.getD, List.getElem?_eq_getElem (show x < (mdA p s k).co.length by rw [hus.1]; exact hx)]
      rw [hua] at y7
      have hxl : (x : Int) < ((mdA p s k).co.length : Int) := by rw [hus.1]; omega
      have hub := hus.2
      generalize coA p s x k = ua at y7 HT hub
      generalize (mdA p s k).co.length = nu at hxl ⊢
      have hw : IntKind.i64.wrap (su + ua) = su + ua := by rw [IntKind.wrap_i64]; omega
      clear S2 b rm hc7 hua hus gu ru
      go_wp2
      go_roundw
      case rel => exact ⟨k + 1, by omega, by go_num, by rw [HT.out], S3.out⟩
      case measure => simp [intOf]; omega
    · have hge : ¬ (k : Int) < (p.acts.length : Int) := by omega
      obtain rfl : k = p.acts.length := by omega
      go_wp2
      go_ret
      exact ⟨ret_numZ HR.out.symm, S2.out.1⟩

end Go.Proofs.YtaglfdkeomjpdaaGreat
