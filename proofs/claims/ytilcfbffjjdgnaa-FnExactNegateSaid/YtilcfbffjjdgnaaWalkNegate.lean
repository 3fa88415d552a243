/- DERIVED. The walk of the law FnExactNegate, by contracts. -/
import Derived.Test.YtilcfbffjjdgnaaLtA
namespace Go.Proofs.Ytilcfbffjjdgnaa
open Go.RowKit
set_option linter.unusedVariables false
set_option maxRecDepth 100000 in
set_option maxHeartbeats 8000000 in
theorem walkFnExactNegate (v0 : Value) (d0 : Lt) (w : World) (hr0 : (trLt d0).rd w v0) (hk0 : (trLt d0).ok) :
    Calls Try.prog 5 #[v0] w fun e w' => e = .returned (.bool true) ∧ Below w.heap.size w w' := by
  have HR0 := Lib.hid hr0
  obtain rfl := rdLiteral_t hr0
  clear hk0 hr0
  have S1 := Lib.hid ((Sn.start w).box 47 [.int .i64 d0.ki, .int .i64 d0.ac, .int .i64 d0.va])
  go_enter Try.func5, Try.ntmps5
  obtain ⟨e0, e1, e2, ef⟩ := (S1.out.bk 0 rfl).c3
  go_wp2_with fail
  clear e0 e1 e2 ef
  refine (toLiteral_t d0 _ _ (by exact S1.out.old HR0.out) (by show szL _ ≤ _; simp [szL, cellsLt, Tr.sz])).mono ?_
  rintro e w2 ⟨v2, F2, rfl, o, h, b⟩
  obtain rfl := rdLiteral_t (Tr.own_rd _ _ _ o)
  have S2 := Lib.hid (S1.out.go b)
  clear S1 b o h
  go_wp2_with fail
  refine (specNegate_any d0 _).mono ?_
  rintro e w3 ⟨rfl, b⟩
  have S3 := Lib.hid (S2.out.go b)
  clear S2 b
  unfold ltV
  obtain ⟨e0, e1, e2, ef⟩ := (S3.out.bk 0 rfl).c3
  have hl := (S3.out.bk 0 rfl).lt
  have S4 := Lib.hid (S3.out.box 34 [.int .i64 (negL d0).ki, .int .i64 (negL d0).ac, .int .i64 (negL d0).va])
  go_wp2_with fail
  clear e0 e1 e2 ef
  clear hl S3
  refine (toLiteral_t d0 _ _ (by exact S4.out.old HR0.out) (by show szL _ ≤ _; simp [szL, cellsLt, Tr.sz])).mono ?_
  rintro e w5 ⟨v5, F5, rfl, o, h, b⟩
  obtain rfl := rdLiteral_t (Tr.own_rd _ _ _ o)
  have S5 := Lib.hid (S4.out.go b)
  clear S4 b o h
  go_wp2_with fail
  refine (implNegate_any d0 _).mono ?_
  rintro e w6 ⟨rfl, b⟩
  have S6 := Lib.hid (S5.out.go b)
  clear S5 b
  generalize negL d0 = r at S6 ⊢
  unfold ltV
  obtain ⟨e0, e1, e2, ef⟩ := (S6.out.bk 0 rfl).c3
  have hl := (S6.out.bk 0 rfl).lt
  have S7 := Lib.hid (S6.out.box 34 [.int .i64 r.ki, .int .i64 r.ac, .int .i64 r.va])
  go_wp2_with fail
  refine (eqLiteral_t r _ _ _ mk_rdLiteral_t mk_rdLiteral_t).mono ?_
  rintro e w8 ⟨rfl, b⟩
  have S8 := Lib.hid (S7.out.go b)
  go_wp2
  go_ret
  exact ⟨rfl, S8.out.1⟩
end Go.Proofs.Ytilcfbffjjdgnaa
