/- DERIVED. CONTRACTS of chapter 12: Negate, LiteralHolds and CompareLiterals, of the program and of the model. -/
import Derived.Test.YtgbpomakomddjaaScLt
import Derived.Test.YtgbpomakomddjaaTFl
import Derived.Test.YtgbpomakomddjaaElm
import Derived.Test.YtgbpomakomddjaaStpA
import Derived.Test.YtgbpomakomddjaaDats
namespace Go.Proofs.Ytgbpomakomddjaa
open Go.RowKit Go.Shelf
set_option linter.unusedVariables false

theorem ret_lt {a b : Lt} (h : a = b) : Ending.returned (ltV a) = .returned (ltV b) := by rw [h]
theorem neg_ki {ki ac va : Int} (h : -100000 ≤ va ∧ va ≤ 100000) : negL ⟨ki, ac, va⟩ = (if ki = 1 then ⟨2, ac, va - 1⟩ else if ki = 2 then ⟨1, ac, va + 1⟩ else if ki = 3 then ⟨4, ac, va⟩ else if ki = 4 then ⟨3, ac, va⟩ else litNone) := neg_yes h
theorem neg_out {ki ac va : Int} (h : ¬ (-100000 ≤ va ∧ va ≤ 100000)) : negL ⟨ki, ac, va⟩ = litNone := neg_no h
set_option maxRecDepth 100000 in
set_option maxHeartbeats 8000000 in
theorem implNegate_any (l : Lt) (w : World) : Calls Try.prog 45 #[ltV l] w fun e w' => e = .returned (ltV (negL l)) ∧ Below w.heap.size w w' := by
  obtain ⟨ki, ac, va⟩ := l
  by_cases h0 : va < -100000
  · rw [neg_out (by omega)]
    unfold ltV litNone
    go_enter Try.func45, Try.ntmps45
    go_wp2
    refine bodyPost_ret (v := .agg #[.int .i64 0, .int .i64 0, .int .i64 0]) (by simp [results, Try.results45, go_sem]) rfl ⟨rfl, ?_⟩
    repeat (first | exact Below.refl _ _ | refine Below.setCell ?_ (by simp) _ | refine Below.alloc ?_ (by first | (simp; done) | (simp; omega)) _)
  by_cases h1 : 100000 < va
  · rw [neg_out (by omega)]
    unfold ltV litNone
    go_enter Try.func45, Try.ntmps45
    go_wp2
    refine bodyPost_ret (v := .agg #[.int .i64 0, .int .i64 0, .int .i64 0]) (by simp [results, Try.results45, go_sem]) rfl ⟨rfl, ?_⟩
    repeat (first | exact Below.refl _ _ | refine Below.setCell ?_ (by simp) _ | refine Below.alloc ?_ (by first | (simp; done) | (simp; omega)) _)
  rw [neg_ki (by omega)]
  have hw1 : IntKind.i64.wrap (va - 1) = va - 1 := by rw [IntKind.wrap_i64]; omega
  have hw2 : IntKind.i64.wrap (va + 1) = va + 1 := by rw [IntKind.wrap_i64]; omega
  by_cases k1 : ki = 1
  · rw [if_pos k1]
    subst k1
    unfold ltV
    go_enter Try.func45, Try.ntmps45
    go_wp2
    refine bodyPost_ret (v := .agg #[.int .i64 2, .int .i64 ac, .int .i64 (va - 1)]) (by simp [results, Try.results45, go_sem]) rfl ⟨rfl, ?_⟩
    repeat (first | exact Below.refl _ _ | refine Below.setCell ?_ (by simp) _ | refine Below.alloc ?_ (by first | (simp; done) | (simp; omega)) _)
  rw [if_neg k1]
  by_cases k2 : ki = 2
  · rw [if_pos k2]
    subst k2
    unfold ltV
    clear k1
    go_enter Try.func45, Try.ntmps45
    go_wp2
    refine bodyPost_ret (v := .agg #[.int .i64 1, .int .i64 ac, .int .i64 (va + 1)]) (by simp [results, Try.results45, go_sem]) rfl ⟨rfl, ?_⟩
    repeat (first | exact Below.refl _ _ | refine Below.setCell ?_ (by simp) _ | refine Below.alloc ?_ (by first | (simp; done) | (simp; omega)) _)
  rw [if_neg k2]
  by_cases k3 : ki = 3
  · rw [if_pos k3]
    subst k3
    unfold ltV
    clear k1 k2
    go_enter Try.func45, Try.ntmps45
    go_wp2
    refine bodyPost_ret (v := .agg #[.int .i64 4, .int .i64 ac, .int .i64 va]) (by simp [results, Try.results45, go_sem]) rfl ⟨rfl, ?_⟩
    repeat (first | exact Below.refl _ _ | refine Below.setCell ?_ (by simp) _ | refine Below.alloc ?_ (by first | (simp; done) | (simp; omega)) _)
  rw [if_neg k3]
  by_cases k4 : ki = 4
  · rw [if_pos k4]
    subst k4
    unfold ltV
    clear k1 k2 k3
    go_enter Try.func45, Try.ntmps45
    go_wp2
    refine bodyPost_ret (v := .agg #[.int .i64 3, .int .i64 ac, .int .i64 va]) (by simp [results, Try.results45, go_sem]) rfl ⟨rfl, ?_⟩
    repeat (first | exact Below.refl _ _ | refine Below.setCell ?_ (by simp) _ | refine Below.alloc ?_ (by first | (simp; done) | (simp; omega)) _)
  rw [if_neg k4]
  unfold ltV litNone
  go_enter Try.func45, Try.ntmps45
  go_wp2
  refine bodyPost_ret (v := .agg #[.int .i64 0, .int .i64 0, .int .i64 0]) (by simp [results, Try.results45, go_sem]) rfl ⟨rfl, ?_⟩
  repeat (first | exact Below.refl _ _ | refine Below.setCell ?_ (by simp) _ | refine Below.alloc ?_ (by first | (simp; done) | (simp; omega)) _)
set_option maxRecDepth 100000 in
set_option maxHeartbeats 8000000 in
theorem specNegate_any (l : Lt) (w : World) : Calls Try.prog 43 #[ltV l] w fun e w' => e = .returned (ltV (negL l)) ∧ Below w.heap.size w w' := by
  obtain ⟨ki, ac, va⟩ := l
  by_cases h0 : -100000 ≤ va ∧ va ≤ 100000
  · rw [neg_ki h0]
    have hw1 : IntKind.i64.wrap (va - 1) = va - 1 := by rw [IntKind.wrap_i64]; omega
    have hw2 : IntKind.i64.wrap (va + 1) = va + 1 := by rw [IntKind.wrap_i64]; omega
    have hin := inB_yes h0
    unfold inB at hin
    have HIN := Lib.hid hin
    clear hin h0
    by_cases k1 : ki = 1
    · rw [if_pos k1]
      subst k1
      unfold ltV
      go_enter Try.func43, Try.ntmps43
      go_wp2_with fail
      refine (l01In_any va (-100000) 100000 _).mono ?_
      rintro e w2 ⟨rfl, rfl⟩
      rw [HIN.out]
      go_wp2
      refine bodyPost_ret (v := .agg #[.int .i64 2, .int .i64 ac, .int .i64 (va - 1)]) (by simp [results, Try.results43, go_sem]) rfl ⟨rfl, ?_⟩
      repeat (first | exact Below.refl _ _ | refine Below.setCell ?_ (by simp) _ | refine Below.alloc ?_ (by first | (simp; done) | (simp; omega)) _)
    rw [if_neg k1]
    by_cases k2 : ki = 2
    · rw [if_pos k2]
      subst k2
      unfold ltV
      clear k1
      go_enter Try.func43, Try.ntmps43
      go_wp2_with fail
      refine (l01In_any va (-100000) 100000 _).mono ?_
      rintro e w2 ⟨rfl, rfl⟩
      rw [HIN.out]
      go_wp2
      refine bodyPost_ret (v := .agg #[.int .i64 1, .int .i64 ac, .int .i64 (va + 1)]) (by simp [results, Try.results43, go_sem]) rfl ⟨rfl, ?_⟩
      repeat (first | exact Below.refl _ _ | refine Below.setCell ?_ (by simp) _ | refine Below.alloc ?_ (by first | (simp; done) | (simp; omega)) _)
    rw [if_neg k2]
    by_cases k3 : ki = 3
    · rw [if_pos k3]
      subst k3
      unfold ltV
      clear k1 k2
      go_enter Try.func43, Try.ntmps43
      go_wp2_with fail
      refine (l01In_any va (-100000) 100000 _).mono ?_
      rintro e w2 ⟨rfl, rfl⟩
      rw [HIN.out]
      go_wp2
      refine bodyPost_ret (v := .agg #[.int .i64 4, .int .i64 ac, .int .i64 va]) (by simp [results, Try.results43, go_sem]) rfl ⟨rfl, ?_⟩
      repeat (first | exact Below.refl _ _ | refine Below.setCell ?_ (by simp) _ | refine Below.alloc ?_ (by first | (simp; done) | (simp; omega)) _)
    rw [if_neg k3]
    by_cases k4 : ki = 4
    · rw [if_pos k4]
      subst k4
      unfold ltV
      clear k1 k2 k3
      go_enter Try.func43, Try.ntmps43
      go_wp2_with fail
      refine (l01In_any va (-100000) 100000 _).mono ?_
      rintro e w2 ⟨rfl, rfl⟩
      rw [HIN.out]
      go_wp2
      refine bodyPost_ret (v := .agg #[.int .i64 3, .int .i64 ac, .int .i64 va]) (by simp [results, Try.results43, go_sem]) rfl ⟨rfl, ?_⟩
      repeat (first | exact Below.refl _ _ | refine Below.setCell ?_ (by simp) _ | refine Below.alloc ?_ (by first | (simp; done) | (simp; omega)) _)
    rw [if_neg k4]
    unfold ltV litNone
    go_enter Try.func43, Try.ntmps43
    go_wp2_with fail
    refine (l01In_any va (-100000) 100000 _).mono ?_
    rintro e w2 ⟨rfl, rfl⟩
    rw [HIN.out]
    go_wp2
    refine bodyPost_ret (v := .agg #[.int .i64 0, .int .i64 0, .int .i64 0]) (by simp [results, Try.results43, go_sem]) rfl ⟨rfl, ?_⟩
    repeat (first | exact Below.refl _ _ | refine Below.setCell ?_ (by simp) _ | refine Below.alloc ?_ (by first | (simp; done) | (simp; omega)) _)
  · rw [neg_out h0]
    have hin := inB_no h0
    unfold inB at hin
    have HIN := Lib.hid hin
    clear hin h0
    unfold ltV litNone
    go_enter Try.func43, Try.ntmps43
    go_wp2_with fail
    refine (l01In_any va (-100000) 100000 _).mono ?_
    rintro e w2 ⟨rfl, rfl⟩
    rw [HIN.out]
    go_wp2
    refine bodyPost_ret (v := .agg #[.int .i64 0, .int .i64 0, .int .i64 0]) (by simp [results, Try.results43, go_sem]) rfl ⟨rfl, ?_⟩
    repeat (first | exact Below.refl _ _ | refine Below.setCell ?_ (by simp) _ | refine Below.alloc ?_ (by first | (simp; done) | (simp; omega)) _)
end Go.Proofs.Ytgbpomakomddjaa
