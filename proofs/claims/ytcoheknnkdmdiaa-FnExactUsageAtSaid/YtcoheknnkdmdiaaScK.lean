/- DERIVED. CONTRACTS of chapter 10: EndTime, Makespan and RunningAt, of the program and of the model. -/
import Derived.Test.YtcoheknnkdmdiaaScJ
namespace Go.Proofs.Ytcoheknnkdmdiaa
open Go.RowKit Go.Shelf
set_option linter.unusedVariables false

theorem max_iteI (a b : Int) : (if a < b then b else a) = max a b := by rw [Int.max_def]; split <;> split <;> omega
set_option maxRecDepth 100000 in
set_option maxHeartbeats 8000000 in
theorem makespanOf_any (p : Pj) (s : Sc) (v u : Value) (w : World) (hv : (trPj p).rd w v) (hs : (trSc s).rd w u) (hf : Form p s) :
    Calls Try.prog 48 #[v, u] w fun e w' => e = .returned (.int .i64 (lastK p s 0 p.acts.length)) ∧ Below w.heap.size w w' := by
  have HV := Lib.hid hv
  obtain ⟨A1, c1, A2, c2, A3, c3, A4, c4, rfl, _⟩ := rdProject_t hv
  have HQ := Lib.hid hs
  obtain ⟨E1, f1, E2, f2, rfl, _⟩ := rdSchedule_t hs
  clear hv hs
  have S0 := Lib.hid (((Sn.start w).box 37 [.int .i64 p.dl, .slice A1 p.acts.length c1, .slice A2 p.lks.length c2, .slice A3 p.ress.length c3, .slice A4 p.stk.length c4]).box 39 [.slice E1 s.st.length f1, .slice E2 s.mo.length f2])
  simp only [World.size_alloc] at S0
  go_enter Try.func48, Try.ntmps48
  rw [hf.h1] at HQ S0 ⊢
  have h6 := hf.n6
  have HF := Lib.hid hf
  clear hf
  go_wp2
  go_loopw [5, 10] (fun q i wr => ∃ k : Nat, k ≤ p.acts.length ∧ i = .int .i64 k ∧ q = .int .i64 (lastK p s 0 k) ∧ Sn w wr [boxI (w.heap.size + 1) 39 [.slice E1 p.acts.length f1, .slice E2 s.mo.length f2], boxI w.heap.size 37 [.int .i64 p.dl, .slice A1 p.acts.length c1, .slice A2 p.lks.length c2, .slice A3 p.ress.length c3, .slice A4 p.stk.length c4]]) (fun _ i _ => p.acts.length - (intOf i).toNat)
  case atStart => exact ⟨0, Nat.zero_le _, rfl, rfl, S0.out⟩
  case round =>
    obtain ⟨k, hkl, rfl, rfl, hS⟩ := hrel
    have S1 := Lib.hid hS
    clear hS S0
    by_cases hlt : k < p.acts.length
    · have hlt' : (k : Int) < (p.acts.length : Int) := by omega
      obtain ⟨e0, e1, e2, e3, e4, ef⟩ := (S1.out.bk 1 rfl).c5
      obtain ⟨q0, q1, qf⟩ := (S1.out.bk 0 rfl).c2
      have HT := Lib.hid (show lastK p s 0 (k + 1) = max (lastK p s 0 k) (endA p s k) from rfl)
      generalize lastK p s 0 k = la at HT ⊢
      go_wp2_with fail
      clear e0 e1 e2 e3 e4 ef
      clear q0 q1 qf
      refine (implEnd_any p s k _ _ _ (by exact S1.out.old HV.out) (by exact S1.out.old HQ.out) HF.out hlt).mono ?_
      rintro e w2 ⟨rfl, b⟩
      have S2 := Lib.hid (S1.out.go b)
      clear S1 b
      generalize endA p s k = en at HT ⊢
      go_wp2
      go_roundw
      case rel => exact ⟨k + 1, by omega, by go_num, by rw [HT.out, ← max_iteI], S2.out⟩
      case measure => simp [intOf]; omega
    · have hge : ¬ (k : Int) < (p.acts.length : Int) := by omega
      obtain rfl : k = p.acts.length := by omega
      go_wp2
      go_ret
      exact ⟨rfl, S1.out.1⟩

set_option maxRecDepth 100000 in
set_option maxHeartbeats 8000000 in
theorem implEndTime_any (p : Pj) (s : Sc) (a : Int) (v u : Value) (w : World) (hv : (trPj p).rd w v) (hk : (trPj p).ok) (hs : (trSc s).rd w u) :
    Calls Try.prog 17 #[v, u, .int .i64 a] w fun e w' => e = .returned (.int .i64 (endB p s a)) ∧ Below w.heap.size w w' := by
  have HK := Lib.hid hk
  clear hk
  have HV := Lib.hid hv
  obtain ⟨A1, c1, A2, c2, A3, c3, A4, c4, rfl, _⟩ := rdProject_t hv
  have HQ := Lib.hid hs
  obtain ⟨E1, f1, E2, f2, rfl, _⟩ := rdSchedule_t hs
  clear hv hs
  have S0 := Lib.hid (((Sn.start w).box 37 [.int .i64 p.dl, .slice A1 p.acts.length c1, .slice A2 p.lks.length c2, .slice A3 p.ress.length c3, .slice A4 p.stk.length c4]).box 39 [.slice E1 s.st.length f1, .slice E2 s.mo.length f2])
  simp only [World.size_alloc] at S0
  go_enter Try.func17, Try.ntmps17
  go_wp2_with fail
  refine (implForm_any p s _ _ _ (by exact S0.out.old HV.out) HK.out (by exact S0.out.old HQ.out)).mono ?_
  rintro e w1 ⟨rfl, b⟩
  have S1 := Lib.hid (S0.out.go b)
  clear S0 b
  rcases hok : formB p s with _ | _
  · have HR := Lib.hid (endB_bad (a := a) hok)
    clear hok
    go_wp2
    go_ret
    exact ⟨ret_numZ HR.out.symm, S1.out.1⟩
  have HF := Lib.hid (form_of hok)
  obtain ⟨q0, q1, qf⟩ := (S1.out.bk 0 rfl).c2
  rw [HF.out.h1] at HQ S1 q0 ⊢
  go_wp2_with fail
  clear q0 q1 qf
  refine (isBelow_any a (p.acts.length : Int) _).mono ?_
  rintro e w5 ⟨rfl, rfl⟩
  by_cases hin : 0 ≤ a ∧ a < (p.acts.length : Int)
  · obtain ⟨x, rfl⟩ : ∃ x : Nat, a = (x : Int) := ⟨a.toNat, by omega⟩
    have hx : x < p.acts.length := by omega
    have HR := Lib.hid (endB_yes hok hx)
    rw [inB_yes (show (0 : Int) ≤ (x : Int) ∧ (x : Int) ≤ (p.acts.length : Int) - 1 by omega)]
    obtain ⟨e0, e1, e2, e3, e4, ef⟩ := (S1.out.bk 1 rfl).c5
    obtain ⟨q0, q1, qf⟩ := (S1.out.bk 0 rfl).c2
    clear hok hin
    go_wp2_with fail
    clear e0 e1 e2 e3 e4 ef
    clear q0 q1 qf
    refine (implEnd_any p s x _ _ _ (by exact S1.out.old HV.out) (by exact S1.out.old HQ.out) HF.out hx).mono ?_
    rintro e w2 ⟨rfl, b⟩
    have S2 := Lib.hid (S1.out.go b)
    clear S1 b
    rw [← HR.out]
    go_wp2
    go_ret
    exact ⟨rfl, S2.out.1⟩
  · have HR := Lib.hid (endB_out (p := p) (s := s) hin)
    rw [inB_no (show ¬ ((0 : Int) ≤ a ∧ a ≤ (p.acts.length : Int) - 1) by omega)]
    clear hin hok
    go_wp2
    go_ret
    exact ⟨ret_numZ HR.out.symm, S1.out.1⟩

set_option maxRecDepth 100000 in
set_option maxHeartbeats 8000000 in
theorem implMakespan_any (p : Pj) (s : Sc) (v u : Value) (w : World) (hv : (trPj p).rd w v) (hk : (trPj p).ok) (hs : (trSc s).rd w u) :
    Calls Try.prog 19 #[v, u] w fun e w' => e = .returned (.int .i64 (mkspB p s)) ∧ Below w.heap.size w w' := by
  have HK := Lib.hid hk
  clear hk
  have HV := Lib.hid hv
  obtain ⟨A1, c1, A2, c2, A3, c3, A4, c4, rfl, _⟩ := rdProject_t hv
  have HQ := Lib.hid hs
  obtain ⟨E1, f1, E2, f2, rfl, _⟩ := rdSchedule_t hs
  clear hv hs
  have S0 := Lib.hid (((Sn.start w).box 37 [.int .i64 p.dl, .slice A1 p.acts.length c1, .slice A2 p.lks.length c2, .slice A3 p.ress.length c3, .slice A4 p.stk.length c4]).box 39 [.slice E1 s.st.length f1, .slice E2 s.mo.length f2])
  simp only [World.size_alloc] at S0
  go_enter Try.func19, Try.ntmps19
  go_wp2_with fail
  refine (implForm_any p s _ _ _ (by exact S0.out.old HV.out) HK.out (by exact S0.out.old HQ.out)).mono ?_
  rintro e w1 ⟨rfl, b⟩
  have S1 := Lib.hid (S0.out.go b)
  clear S0 b
  rcases hok : formB p s with _ | _
  · have HR := Lib.hid (span_bad hok)
    clear hok
    go_wp2
    go_ret
    exact ⟨ret_numZ HR.out.symm, S1.out.1⟩
  have HR := Lib.hid (span_impl hok)
  have HF := Lib.hid (form_of hok)
  obtain ⟨e0, e1, e2, e3, e4, ef⟩ := (S1.out.bk 1 rfl).c5
  obtain ⟨q0, q1, qf⟩ := (S1.out.bk 0 rfl).c2
  clear hok
  go_wp2_with fail
  clear e0 e1 e2 e3 e4 ef
  clear q0 q1 qf
  refine (makespanOf_any p s _ _ _ (by exact S1.out.old HV.out) (by exact S1.out.old HQ.out) HF.out).mono ?_
  rintro e w2 ⟨rfl, b⟩
  have S2 := Lib.hid (S1.out.go b)
  clear S1 b
  rw [← HR.out]
  go_wp2
  go_ret
  exact ⟨rfl, S2.out.1⟩
end Go.Proofs.Ytcoheknnkdmdiaa
