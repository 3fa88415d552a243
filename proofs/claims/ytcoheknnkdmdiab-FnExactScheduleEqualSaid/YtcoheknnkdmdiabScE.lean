/- DERIVED. CONTRACTS of chapter 10: ScheduleEqual of the program and of the model. -/
import Derived.Test.YtcoheknnkdmdiabTSchedule
import Derived.Test.YtcoheknnkdmdiabDats
import Derived.Test.YtcoheknnkdmdiabEqI
namespace Go.Proofs.Ytcoheknnkdmdiab
open Go.RowKit
set_option linter.unusedVariables false

def eqSc (s o : Sc) : Bool := eqB s.st o.st && eqB s.mo o.mo
set_option maxRecDepth 100000 in
set_option maxHeartbeats 8000000 in
theorem implScheduleEqual_any (s o : Sc) (v u : Value) (w : World) (hv : (trSc s).rd w v) (hu : (trSc o).rd w u) :
    Calls Try.prog 17 #[v, u] w fun e w' => e = .returned (.bool (eqSc s o)) ∧ Below w.heap.size w w' := by
  obtain ⟨A1, a1, A2, a2, rfl, r1, r2⟩ := rdSchedule_t hv
  obtain ⟨B1, b1, B2, b2, rfl, t1, t2⟩ := rdSchedule_t hu
  have R1 := Lib.hid r1
  have R2 := Lib.hid r2
  have T1 := Lib.hid t1
  have T2 := Lib.hid t2
  clear hv hu r1 r2 t1 t2
  have HE := Lib.hid (show eqSc s o = (eqB s.st o.st && eqB s.mo o.mo) from rfl)
  generalize eqSc s o = res at HE ⊢
  have S0 := Lib.hid (((Sn.start w).box 39 [.slice A1 s.st.length a1, .slice A2 s.mo.length a2]).box 39 [.slice B1 o.st.length b1, .slice B2 o.mo.length b2])
  simp only [World.size_alloc] at S0
  go_enter Try.func17, Try.ntmps17
  go_wp2_with fail
  refine (slicesEqual_any s.st o.st _ _ _ (by exact rd_flat (S0.out.old R1.out)) (by exact rd_flat (S0.out.old T1.out))).mono ?_
  rintro e w1 ⟨rfl, b⟩
  have S1 := Lib.hid (S0.out.go b)
  clear S0 b
  obtain ⟨e0, e1, ef⟩ := (S1.out.bk 1 rfl).c2
  obtain ⟨q0, q1, qf⟩ := (S1.out.bk 0 rfl).c2
  generalize eqB s.st o.st = x1 at HE ⊢
  rcases x1 with _ | _
  · go_wp2
    go_ret
    exact ⟨ret_boo (by rw [HE.out]; rfl), S1.out.1⟩
  go_wp2_with fail
  clear e0 e1 ef
  clear q0 q1 qf
  refine (slicesEqual_any s.mo o.mo _ _ _ (by exact rd_flat (S1.out.old R2.out)) (by exact rd_flat (S1.out.old T2.out))).mono ?_
  rintro e w2 ⟨rfl, b⟩
  have S2 := Lib.hid (S1.out.go b)
  clear S1 b
  generalize eqB s.mo o.mo = x2 at HE ⊢
  go_wp2
  go_ret
  exact ⟨ret_boo (by rw [HE.out]; rfl), S2.out.1⟩
set_option maxRecDepth 100000 in
set_option maxHeartbeats 8000000 in
theorem specScheduleEqual_any (s o : Sc) (v u : Value) (w : World) (hv : (trSc s).rd w v) (hu : (trSc o).rd w u) :
    Calls Try.prog 16 #[v, u] w fun e w' => e = .returned (.bool (eqSc s o)) ∧ Below w.heap.size w w' := by
  obtain ⟨A1, a1, A2, a2, rfl, r1, r2⟩ := rdSchedule_t hv
  obtain ⟨B1, b1, B2, b2, rfl, t1, t2⟩ := rdSchedule_t hu
  have R1 := Lib.hid r1
  have R2 := Lib.hid r2
  have T1 := Lib.hid t1
  have T2 := Lib.hid t2
  clear hv hu r1 r2 t1 t2
  have HE := Lib.hid (show eqSc s o = (eqB s.st o.st && eqB s.mo o.mo) from rfl)
  generalize eqSc s o = res at HE ⊢
  have S0 := Lib.hid (((Sn.start w).box 39 [.slice A1 s.st.length a1, .slice A2 s.mo.length a2]).box 39 [.slice B1 o.st.length b1, .slice B2 o.mo.length b2])
  simp only [World.size_alloc] at S0
  go_enter Try.func16, Try.ntmps16
  go_wp2_with fail
  refine (specEqual_any s.st o.st _ _ _ (by exact rd_flat (S0.out.old R1.out)) (by exact rd_flat (S0.out.old T1.out))).mono ?_
  rintro e w1 ⟨rfl, b⟩
  have S1 := Lib.hid (S0.out.go b)
  clear S0 b
  obtain ⟨e0, e1, ef⟩ := (S1.out.bk 1 rfl).c2
  obtain ⟨q0, q1, qf⟩ := (S1.out.bk 0 rfl).c2
  generalize eqB s.st o.st = x1 at HE ⊢
  rcases x1 with _ | _
  · go_wp2
    go_ret
    exact ⟨ret_boo (by rw [HE.out]; rfl), S1.out.1⟩
  go_wp2_with fail
  clear e0 e1 ef
  clear q0 q1 qf
  refine (specEqual_any s.mo o.mo _ _ _ (by exact rd_flat (S1.out.old R2.out)) (by exact rd_flat (S1.out.old T2.out))).mono ?_
  rintro e w2 ⟨rfl, b⟩
  have S2 := Lib.hid (S1.out.go b)
  clear S1 b
  generalize eqB s.mo o.mo = x2 at HE ⊢
  go_wp2
  go_ret
  exact ⟨ret_boo (by rw [HE.out]; rfl), S2.out.1⟩
end Go.Proofs.Ytcoheknnkdmdiab
