/- DERIVED. CONTRACTS of chapter 13: the program's small functions over domains. -/
import Derived.Test.YtdbnhdiboemmiabDmB
import Derived.Test.YtdbnhdiboemmiabTDomain
import Derived.Test.YtdbnhdiboemmiabPrB
import Derived.Test.YtdbnhdiboemmiabStpA
import Derived.Test.YtdbnhdiboemmiabDats
import Derived.Test.YtdbnhdiboemmiabSetsS
import Derived.Test.YtdbnhdiboemmiabSum
import Derived.Laws.Cover1
namespace Go.Proofs.Ytdbnhdiboemmiab
open Go.RowKit Go.Shelf
set_option linter.unusedVariables false

set_option maxRecDepth 100000 in
set_option maxHeartbeats 8000000 in
theorem hasCount_any (d : Dm) (n : Nat) (v : Value) (w : World) (hd : (trDm d).rd w v) :
    Calls Try.prog 43 #[v, .int .i64 (n : Int)] w fun e w' => e = .returned (.bool (decide (lensD d n))) ∧ Below w.heap.size w w' := by
  obtain ⟨D1, t1, D2, t2, D3, t3, rfl, _⟩ := rdDomain_t hd
  clear hd
  have S0 := Lib.hid ((Sn.start w).box 30 [.slice D1 d.mn.length t1, .slice D2 d.mx.length t2, .slice D3 d.md.length t3])
  by_cases h1 : (d.mn.length : Int) = (n : Int)
  rotate_left
  · have HR := Lib.hid (show decide (lensD d n) = false from decide_eq_false (by unfold lensD; omega))
    go_enter Try.func43, Try.ntmps43
    go_wp2
    go_ret
    exact ⟨ret_boo HR.out.symm, S0.out.1⟩
  by_cases h2 : (d.mx.length : Int) = (n : Int)
  rotate_left
  · have HR := Lib.hid (show decide (lensD d n) = false from decide_eq_false (by unfold lensD; omega))
    go_enter Try.func43, Try.ntmps43
    go_wp2
    go_ret
    exact ⟨ret_boo HR.out.symm, S0.out.1⟩
  have HR := Lib.hid (show decide (lensD d n) = decide ((d.md.length : Int) = (n : Int)) from by rw [Bool.eq_iff_iff, decide_eq_true_eq, decide_eq_true_eq]; unfold lensD; omega)
  go_enter Try.func43, Try.ntmps43
  go_wp2
  go_ret
  exact ⟨ret_boo (by rw [HR.out]; first | rfl | simp), S0.out.1⟩
set_option maxRecDepth 100000 in
set_option maxHeartbeats 8000000 in
theorem hasAct_any (d : Dm) (a : Int) (v : Value) (w : World) (hd : (trDm d).rd w v) :
    Calls Try.prog 32 #[v, .int .i64 a] w fun e w' => e = .returned (.bool (decide (thereD d a))) ∧ Below w.heap.size w w' := by
  obtain ⟨D1, t1, D2, t2, D3, t3, rfl, _⟩ := rdDomain_t hd
  clear hd
  have S0 := Lib.hid ((Sn.start w).box 30 [.slice D1 d.mn.length t1, .slice D2 d.mx.length t2, .slice D3 d.md.length t3])
  by_cases a1 : (d.mx.length : Int) < (d.mn.length : Int)
  · by_cases a2 : (d.md.length : Int) < (d.mx.length : Int)
    all_goals
      go_enter Try.func32, Try.ntmps32
      go_wp2_with fail
      refine (isBelow_any a _ _).mono ?_
      rintro e w1 ⟨rfl, rfl⟩
      go_wp2
      go_ret
      exact ⟨ret_boo (by rw [Bool.eq_iff_iff, inB_iff, decide_eq_true_eq]; unfold thereD; omega), S0.out.1⟩
  · by_cases a2 : (d.md.length : Int) < (d.mn.length : Int)
    all_goals
      go_enter Try.func32, Try.ntmps32
      go_wp2_with fail
      refine (isBelow_any a _ _).mono ?_
      rintro e w1 ⟨rfl, rfl⟩
      go_wp2
      go_ret
      exact ⟨ret_boo (by rw [Bool.eq_iff_iff, inB_iff, decide_eq_true_eq]; unfold thereD; omega), S0.out.1⟩
set_option maxRecDepth 100000 in
set_option maxHeartbeats 8000000 in
theorem truth_any (y n : Bool) (w : World) : Calls Try.prog 33 #[.bool y, .bool n] w fun e w' => e = .returned (.int .i64 (knownB y n)) ∧ w = w' := by
  rcases y with _ | _ <;> rcases n with _ | _
  all_goals
    go_enter Try.func33, Try.ntmps33
    go_wp2
    go_ret
    exact ⟨rfl, rfl⟩
set_option maxRecDepth 100000 in
set_option maxHeartbeats 8000000 in
theorem known_any (y n : Bool) (w : World) : Calls Try.prog 28 #[.bool y, .bool n] w fun e w' => e = .returned (.int .i64 (knownB y n)) ∧ w = w' := by
  rcases y with _ | _ <;> rcases n with _ | _
  all_goals
    go_enter Try.func28, Try.ntmps28
    go_wp2
    go_ret
    exact ⟨rfl, rfl⟩
set_option maxRecDepth 100000 in
set_option maxHeartbeats 8000000 in
theorem modeValue_any (l : List Int) (x : Int) (v : Value) (w : World) (hr : Rd w v (l.map (.int .i64))) :
    Calls Try.prog 34 #[v, .int .i64 x] w fun e w' => e = .returned (.int .i64 (knownB (eqB l [x]) (!hasB l x))) ∧ Below w.heap.size w w' := by
  have HV := Lib.hid hr
  clear hr
  have S0 := Lib.hid ((Sn.start w).go ((Below.refl _ w).alloc (Nat.le_refl _) (.cells #[.int .i64 x] 3)))
  go_enter Try.func34, Try.ntmps34
  go_wp2_with fail
  refine (implEqual_any l [x] _ _ _ (by exact HV.out.below S0.out.1 (Nat.le_refl _)) (by exact rd_new _ _ _)).mono ?_
  rintro e w1 ⟨rfl, b⟩
  have S1 := Lib.hid (S0.out.go b)
  clear S0 b
  go_wp2_with fail
  refine (implHas_any l x _ _ (by exact HV.out.below S1.out.1 (Nat.le_refl _))).mono ?_
  rintro e w2 ⟨rfl, rfl⟩
  go_wp2_with fail
  refine (truth_any _ _ _).mono ?_
  rintro e w3 ⟨rfl, rfl⟩
  go_wp2
  go_ret
  exact ⟨rfl, S1.out.1⟩
set_option maxRecDepth 100000 in
set_option maxHeartbeats 8000000 in
theorem l12There_any (d : Dm) (a : Int) (v : Value) (w : World) (hd : (trDm d).rd w v) :
    Calls Try.prog 27 #[v, .int .i64 a] w fun e w' => e = .returned (.bool (decide (thereD d a))) ∧ Below w.heap.size w w' := by
  have HD := Lib.hid hd
  obtain ⟨D1, t1, D2, t2, D3, t3, rfl, m1, m2, m3⟩ := rdDomain_t hd
  obtain ⟨hd1, B5, d5, he, y1⟩ := rdI (rd_flat m1)
  injection he with he _ he2
  subst he he2
  have Y1 := Lib.hid y1
  obtain ⟨hd2, B6, d6, he, y2⟩ := rdI (rd_flat m2)
  injection he with he _ he2
  subst he he2
  have Y2 := Lib.hid y2
  obtain ⟨hd3, B7, d7, he, y3⟩ := rdIntSS_t m3
  injection he with he _ he2
  subst he he2
  have Y3 := Lib.hid y3
  have M1 := Lib.hid (rd_flat m1)
  have M2 := Lib.hid (rd_flat m2)
  clear hd m1 m2 m3 y1 y2 y3
  unfold maxLen at hd1 hd2
  have S0 := Lib.hid ((Sn.start w).box 30 [.slice D1 d.mn.length t1, .slice D2 d.mx.length t2, .slice D3 d.md.length t3])
  have hw1 : IntKind.i64.wrap ((d.mn.length : Int) - 1) = (d.mn.length : Int) - 1 := by rw [IntKind.wrap_i64]; omega
  have hw2 : IntKind.i64.wrap ((d.mx.length : Int) - 1) = (d.mx.length : Int) - 1 := by rw [IntKind.wrap_i64]; omega
  have hw3 : IntKind.i64.wrap ((d.md.length : Int) - 1) = (d.md.length : Int) - 1 := by rw [IntKind.wrap_i64]; omega
  go_enter Try.func27, Try.ntmps27
  go_wp2_with fail
  refine (in_any a 0 ((d.mn.length : Int) - 1) _).mono ?_
  rintro e w1 ⟨rfl, rfl⟩
  by_cases h1 : 0 ≤ a ∧ a ≤ (d.mn.length : Int) - 1
  rotate_left
  · rw [inB_no h1]
    have HR := Lib.hid (show decide (thereD d a) = false from decide_eq_false (by unfold thereD; omega))
    go_wp2
    go_ret
    exact ⟨ret_boo HR.out.symm, S0.out.1⟩
  rw [inB_yes h1]
  obtain ⟨e0, e1, e2, ef⟩ := (S0.out.bk 0 rfl).c3
  go_wp2_with fail
  refine (in_any a 0 ((d.mx.length : Int) - 1) _).mono ?_
  rintro e w1 ⟨rfl, rfl⟩
  by_cases h2 : 0 ≤ a ∧ a ≤ (d.mx.length : Int) - 1
  rotate_left
  · rw [inB_no h2]
    have HR := Lib.hid (show decide (thereD d a) = false from decide_eq_false (by unfold thereD; omega))
    go_wp2
    go_ret
    exact ⟨ret_boo HR.out.symm, S0.out.1⟩
  rw [inB_yes h2]
  go_wp2_with fail
  refine (in_any a 0 ((d.md.length : Int) - 1) _).mono ?_
  rintro e w1 ⟨rfl, rfl⟩
  have HR := Lib.hid (show decide (thereD d a) = inB a 0 ((d.md.length : Int) - 1) from by rw [Bool.eq_iff_iff, inB_iff, decide_eq_true_eq]; unfold thereD; omega)
  go_wp2
  go_ret
  exact ⟨ret_boo HR.out.symm, S0.out.1⟩
theorem specHas_sub (xs ys : List Int) (v u : Value) (w : World) (hr : Rd w v (xs.map (.int .i64))) (hu : Rd w u (ys.map (.int .i64))) : Calls Try.prog 42 #[v, u] w fun e w' => e = .returned (.bool (subB xs ys)) ∧ Below w.heap.size w w' :=
  (specSubset_any xs ys v u w hr hu).mono fun e w' h => ⟨h.1, h.2 ▸ Below.refl _ _⟩
end Go.Proofs.Ytdbnhdiboemmiab
