/- DERIVED. CONTRACTS of chapter 13: the program's small functions over domains. -/
import Derived.Test.YtdbnhdiboemmiabGreatDmB
import Derived.Test.YtdbnhdiboemmiabGreatTDomain
import Derived.Test.YtdbnhdiboemmiabGreatPrB
import Derived.Test.YtdbnhdiboemmiabGreatStpA
import Derived.Test.YtdbnhdiboemmiabGreatDats
import Derived.Test.YtdbnhdiboemmiabGreatSetsS
import Derived.Test.YtdbnhdiboemmiabGreatSum
import Derived.Laws.Cover1
namespace Go.Proofs.YtdbnhdiboemmiabGreat
open Go.RowKit Go.Shelf
set_option linter.unusedVariables false

set_option maxRecDepth 100000 in
set_option maxHeartbeats 8000000 in
theorem isBound_any (n : Int) (w : World) : Calls Tryz.prog 58 #[.int .i64 n] w fun e w' => e = .returned (.bool (inB n (-2) 62)) ∧ w = w' := by
  have HR := Lib.hid (show inB n (-2) 62 = decide (n = brT n) from by rw [Bool.eq_iff_iff, inB_iff, decide_eq_true_eq]; unfold brT; omega)
  go_enter Tryz.func58, Tryz.ntmps58
  go_wp2_with fail
  refine (clampT_any n _).mono ?_
  rintro e w1 ⟨rfl, rfl⟩
  go_wp2
  go_ret
  exact ⟨ret_bL (by rw [HR.out]; first | rfl | simp), rfl⟩
theorem isBoundB_any (n : Int) (w : World) : Calls Tryz.prog 58 #[.int .i64 n] w fun e w' => e = .returned (.bool (inB n (-2) 62)) ∧ Below w.heap.size w w' :=
  (isBound_any n w).mono fun e w' h => ⟨h.1, h.2 ▸ Below.refl _ _⟩
set_option maxRecDepth 100000 in
set_option maxHeartbeats 8000000 in
theorem hasCount_any (d : Dm) (n : Nat) (v : Value) (w : World) (hd : (trDm d).rd w v) :
    Calls Tryz.prog 56 #[v, .int .i64 (n : Int)] w fun e w' => e = .returned (.bool (decide (lensD d n))) ∧ Below w.heap.size w w' := by
  obtain ⟨D1, t1, D2, t2, D3, t3, rfl, _⟩ := rdDomain_t hd
  clear hd
  have S0 := Lib.hid ((Sn.start w).box 41 [.slice D1 d.mn.length t1, .slice D2 d.mx.length t2, .slice D3 d.md.length t3])
  by_cases h1 : (d.mn.length : Int) = (n : Int)
  rotate_left
  · have HR := Lib.hid (show decide (lensD d n) = false from decide_eq_false (by unfold lensD; omega))
    go_enter Tryz.func56, Tryz.ntmps56
    go_wp2
    go_ret
    exact ⟨ret_boo HR.out.symm, S0.out.1⟩
  by_cases h2 : (d.mx.length : Int) = (n : Int)
  rotate_left
  · have HR := Lib.hid (show decide (lensD d n) = false from decide_eq_false (by unfold lensD; omega))
    go_enter Tryz.func56, Tryz.ntmps56
    go_wp2
    go_ret
    exact ⟨ret_boo HR.out.symm, S0.out.1⟩
  have HR := Lib.hid (show decide (lensD d n) = decide ((d.md.length : Int) = (n : Int)) from by rw [Bool.eq_iff_iff, decide_eq_true_eq, decide_eq_true_eq]; unfold lensD; omega)
  go_enter Tryz.func56, Tryz.ntmps56
  go_wp2
  go_ret
  exact ⟨ret_boo (by rw [HR.out]; first | rfl | simp), S0.out.1⟩
set_option maxRecDepth 100000 in
set_option maxHeartbeats 8000000 in
theorem isSetBelow_any (l : List Int) (n : Nat) (hn : n ≤ 200) (v : Value) (w : World) (hr : Rd w v (l.map (.int .i64))) :
    Calls Tryz.prog 59 #[v, .int .i64 (n : Int)] w fun e w' => e = .returned (.bool (ascB l && subB l (rangeB (n : Int)))) ∧ Below w.heap.size w w' := by
  obtain ⟨hl, A, c, rfl, hA⟩ := rdI hr
  unfold maxLen at hl
  have HV := Lib.hid hr
  have HA := Lib.hid hA
  clear hr hA
  go_enter Tryz.func59, Tryz.ntmps59
  go_wp2_with fail
  refine (implOk_any l _ _ HV.out).mono ?_
  rintro e w1 ⟨rfl, b⟩
  have B := Lib.hid b
  clear b
  rcases hasc : ascB l with _ | _
  · have HR := Lib.hid (show (ascB l && subB l (rangeB (n : Int))) = false from by rw [hasc]; rfl)
    clear hasc
    go_wp2
    go_ret
    exact ⟨ret_boo HR.out.symm, B.out⟩
  have HZ := Lib.hid (show (ascB l && subB l (rangeB (n : Int))) = subB l (rangeB (n : Int)) from by rw [hasc]; rfl)
  have HS := Lib.hid (fun (h0 : 0 < l.length) => sub_ends hn hasc h0)
  clear hasc
  by_cases h0 : l.length = 0
  · have hz : l = [] := List.eq_nil_of_length_eq_zero h0
    have HR := Lib.hid (show subB l (rangeB (n : Int)) = true from by rw [hz]; rfl)
    have h0' : (l.length : Int) = 0 := by omega
    clear hz HS
    go_wp2
    go_ret
    exact ⟨ret_boo (by rw [HZ.out, HR.out]), B.out⟩
  have h0' : ¬ (l.length : Int) = 0 := by omega
  have hp : 0 < l.length := by omega
  have HR := Lib.hid (show subB l (rangeB (n : Int)) = (decide ((0 : Int) ≤ l[0]) && decide (l[l.length - 1] < (n : Int))) from HS.out hp)
  have HL0 := Lib.hid (show ((l.length : Int) == 0) = false from by simpa using h0)
  obtain ⟨b1, o1, rfl, hb1, hc1⟩ := HA.out 0 hp
  have y1 : w1.cell? ⟨b1, o1, none⟩ = some (.int .i64 l[0]) := (B.out.cell (p := ⟨b1, o1, none⟩) hb1).trans (hc1 0 hp)
  have y2 := (B.out.cell (p := ⟨b1, o1 + (l.length - 1), none⟩) hb1).trans (hc1 (l.length - 1) (by omega))
  have hw1 : IntKind.i64.wrap ((l.length : Int) - 1) = ((l.length - 1 : Nat) : Int) := by rw [IntKind.wrap_i64]; omega
  have q0 : (0 : Int) ≤ ((l.length - 1 : Nat) : Int) := by omega
  have q1 : ((l.length - 1 : Nat) : Int) < (l.length : Int) := by omega
  clear hc1 HS
  generalize l[0] = x at y1 HR
  generalize l[l.length - 1] = y at y2 HR
  by_cases hx : 0 ≤ x
  rotate_left
  · have hx' : ¬ x ≥ 0 := hx
    have hd : decide (0 ≤ x) = false := decide_eq_false hx
    go_wp2
    go_ret
    exact ⟨ret_boo (by rw [HZ.out, HR.out, hd]; first | rfl | (rw [HL0.out]; rfl)), B.out⟩
  have hd : decide (0 ≤ x) = true := decide_eq_true hx
  go_wp2
  go_ret
  exact ⟨ret_boo (by rw [HZ.out, HR.out, hd]; first | rfl | (rw [HL0.out]; rfl)), B.out⟩
theorem specHas_sub (xs ys : List Int) (v u : Value) (w : World) (hr : Rd w v (xs.map (.int .i64))) (hu : Rd w u (ys.map (.int .i64))) : Calls Tryz.prog 49 #[v, u] w fun e w' => e = .returned (.bool (subB xs ys)) ∧ Below w.heap.size w w' :=
  (specSubset_any xs ys v u w hr hu).mono fun e w' h => ⟨h.1, h.2 ▸ Below.refl _ _⟩
end Go.Proofs.YtdbnhdiboemmiabGreat
