/- DERIVED. CONTRACTS of chapter 12: LiteralSign, of the program and of the model. -/
import Derived.Test.YtilcfbffjjdgnaaLtM
import Derived.Test.YtilcfbffjjdgnaaElmS
import Derived.Test.YtilcfbffjjdgnaaStpA
namespace Go.Proofs.Ytilcfbffjjdgnaa
open Go.RowKit
set_option linter.unusedVariables false

set_option maxRecDepth 100000 in
set_option maxHeartbeats 8000000 in
theorem ltSigns_any (w : World) :
    Calls Try.prog 40 #[] w fun e w' => ∃ u, e = .returned u ∧ Rd w' u (ltSigns.map .string) ∧ Below w.heap.size w w' := by
  go_enter Try.func40, Try.ntmps40
  go_wp2
  go_ret
  first
    | exact ⟨_, rfl, newRow_any w _ ltSigns (by decide), (Below.refl _ _).alloc (Nat.le_refl _) _⟩
    | exact ⟨newRow_any w _ ltSigns (by decide), (Below.refl _ _).alloc (Nat.le_refl _) _⟩
set_option maxRecDepth 100000 in
set_option maxHeartbeats 8000000 in
theorem implLiteralSign_any (k : Int) (w : World) :
    Calls Try.prog 15 #[.int .i64 k] w fun e w' => e = .returned (.string (ltSg k)) ∧ Below w.heap.size w w' := by
  generalize hres : ltSg k = res
  have RES := Lib.hid hres
  clear hres
  go_enter Try.func15, Try.ntmps15
  go_wp2_with fail
  refine (ltSigns_any _).mono ?_
  rintro e w1 ⟨u, rfl, hr, b⟩
  have HR := Lib.hid hr
  have HB := Lib.hid b
  clear hr b
  go_wp2_with fail
  by_cases hk : 0 ≤ k ∧ k < (ltSigns.length : Int)
  · obtain ⟨n, rfl⟩ : ∃ n : Nat, k = (n : Int) := ⟨k.toNat, by omega⟩
    have hn : n < ltSigns.length := by omega
    have HN := Lib.hid (ltSg_yes hn)
    refine (elemS_yes ltSigns n hn _ _ HR.out).mono ?_
    rintro e w2 ⟨rfl, rfl⟩
    generalize ltSigns[n] = x at HN
    clear hk hn
    go_wp2
    go_ret
    exact ⟨ret_strZ (by rw [← RES.out, HN.out]), HB.out⟩
  · have HN := Lib.hid (ltSg_no (k := k) (by have h7 : ltSigns.length = 5 := rfl; omega))
    refine (elemS_no ltSigns k _ _ HR.out hk).mono ?_
    rintro e w2 ⟨rfl, rfl⟩
    clear hk
    go_wp2
    go_ret
    exact ⟨ret_strZ (by rw [← RES.out, HN.out]), HB.out⟩
set_option maxRecDepth 100000 in
set_option maxHeartbeats 8000000 in
theorem specLiteralSign_any (k : Int) (w : World) :
    Calls Try.prog 27 #[.int .i64 k] w fun e w' => e = .returned (.string (ltSg k)) ∧ Below w.heap.size w w' := by
  by_cases hk : 1 ≤ k ∧ k ≤ 4
  · obtain ⟨n, rfl⟩ : ∃ n : Nat, k = (n : Int) := ⟨k.toNat, by omega⟩
    have hn : n = 1 ∨ n = 2 ∨ n = 3 ∨ n = 4 := by omega
    rcases hn with rfl | rfl | rfl | rfl
    all_goals
      clear hk
      go_enter Try.func27, Try.ntmps27
      go_wp2_with fail
      refine (l01In_any _ 1 4 _).mono ?_
      rintro e w2 ⟨rfl, rfl⟩
      go_wp2
      go_ret
      exact ⟨rfl, (Below.refl _ _).alloc (Nat.le_refl _) _⟩
  · have hres : ltSg k = ⟨#[]⟩ := by
      by_cases h0 : k = 0
      · subst h0; rfl
      · exact ltSg_no (by omega)
    rw [hres]
    clear hres
    go_enter Try.func27, Try.ntmps27
    go_wp2_with fail
    refine (l01In_any k 1 4 _).mono ?_
    rintro e w2 ⟨rfl, rfl⟩
    rw [show (decide (1 ≤ k) && decide (k ≤ 4)) = false from inB_no hk]
    go_wp2
    go_ret
    exact ⟨rfl, Below.refl _ _⟩
end Go.Proofs.Ytilcfbffjjdgnaa
