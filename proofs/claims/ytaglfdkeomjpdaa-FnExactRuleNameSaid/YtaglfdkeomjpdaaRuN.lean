/- DERIVED. CONTRACTS of chapter 11: RuleName, of the model and of the program. -/
import Derived.Test.YtaglfdkeomjpdaaCore
import Derived.Test.YtaglfdkeomjpdaaDats
import Derived.Test.YtaglfdkeomjpdaaMaths
namespace Go.Proofs.Ytaglfdkeomjpdaa
open Go.RowKit
set_option linter.unusedVariables false

def ruNames : List ByteArray := [⟨#[110, 111, 110, 101]⟩, ⟨#[108, 105, 110, 107]⟩, ⟨#[101, 110, 100]⟩, ⟨#[116, 105, 109, 101]⟩, ⟨#[119, 111, 114, 107]⟩, ⟨#[112, 97, 105, 114]⟩, ⟨#[115, 116, 111, 99, 107]⟩]
def ruNm (k : Int) : ByteArray := if 0 ≤ k ∧ k ≤ 6 then ruNames.getD k.toNat ⟨#[]⟩ else ⟨#[]⟩
theorem ruNm_no {k : Int} (h : ¬ (0 ≤ k ∧ k ≤ 6)) : ruNm k = ⟨#[]⟩ := by rw [ruNm, if_neg h]
theorem ruNm_yes {n : Nat} (h : n < ruNames.length) : ruNm (n : Int) = ruNames[n] := by
  have h7 : ruNames.length = 7 := rfl
  rw [ruNm, if_pos (by omega), List.getD, Int.toNat_natCast, List.getElem?_eq_getElem h]; rfl
theorem ret_strZ {a b : ByteArray} (h : a = b) : Ending.returned (.string a) = Ending.returned (.string b) := by rw [h]

set_option maxRecDepth 100000 in
set_option maxHeartbeats 8000000 in
theorem elemS_no (l : List ByteArray) (i : Int) (v : Value) (w : World) (hr : Rd w v (l.map .string)) (h : ¬ (0 ≤ i ∧ i < (l.length : Int))) :
    Calls Try.prog 7 #[v, .int .i64 i] w fun e w' => e = .returned (.tuple #[.string ⟨#[]⟩, .bool false]) ∧ w = w' := by
  obtain ⟨hl, A, c, rfl, _⟩ := hr
  rw [List.length_map]
  clear hl
  by_cases h0 : i < 0
  · clear h
    go_enter Try.func7, Try.ntmps7
    go_wp2
    go_ret2
    exact ⟨rfl, rfl⟩
  · have h1 : (l.length : Int) ≤ i := by omega
    clear h
    go_enter Try.func7, Try.ntmps7
    go_wp2
    go_ret2
    exact ⟨rfl, rfl⟩
set_option maxRecDepth 100000 in
set_option maxHeartbeats 8000000 in
theorem elemS_yes (l : List ByteArray) (n : Nat) (hn : n < l.length) (v : Value) (w : World) (hr : Rd w v (l.map .string)) :
    Calls Try.prog 7 #[v, .int .i64 (n : Int)] w fun e w' => e = .returned (.tuple #[.string l[n], .bool true]) ∧ w = w' := by
  obtain ⟨A, c, rfl, ha⟩ := rdS_at hr
  obtain ⟨b, o, rfl, hb, hc⟩ := ha n hn
  have hx := hc n hn
  have h0 : (0 : Int) ≤ (n : Int) := by omega
  have h1 : (n : Int) < (l.length : Int) := by omega
  clear ha hc hr
  generalize l[n] = x at hx ⊢
  go_enter Try.func7, Try.ntmps7
  go_wp2
  go_ret2
  exact ⟨rfl, rfl⟩
theorem newRow_any (w : World) (T : TypeId) (l : List ByteArray) (hl : l.length ≤ maxLen) : Rd (w.alloc (.cells ⟨l.map .string⟩ T)) (.slice (some ⟨w.heap.size, 0, none⟩) l.length l.length) (l.map .string) :=
  ⟨by simpa using hl, _, _, by rw [List.length_map], .inr ⟨w.heap.size, 0, rfl, by simp, fun j hj => by
    rw [World.cell?_alloc_at _ _ _ _ rfl]
    have hj' : j < l.length := by simpa using hj
    simp [hj']⟩⟩
set_option maxRecDepth 100000 in
set_option maxHeartbeats 8000000 in
theorem ruleNames_any (w : World) :
    Calls Try.prog 8 #[] w fun e w' => ∃ u, e = .returned u ∧ Rd w' u (ruNames.map .string) ∧ Below w.heap.size w w' := by
  go_enter Try.func8, Try.ntmps8
  go_wp2
  go_ret
  first
    | exact ⟨_, rfl, newRow_any w _ ruNames (by decide), (Below.refl _ _).alloc (Nat.le_refl _) _⟩
    | exact ⟨newRow_any w _ ruNames (by decide), (Below.refl _ _).alloc (Nat.le_refl _) _⟩
set_option maxRecDepth 100000 in
set_option maxHeartbeats 8000000 in
theorem implRuleName_any (k : Int) (w : World) :
    Calls Try.prog 5 #[.int .i64 k] w fun e w' => e = .returned (.string (ruNm k)) ∧ Below w.heap.size w w' := by
  generalize hres : ruNm k = res
  have RES := Lib.hid hres
  clear hres
  go_enter Try.func5, Try.ntmps5
  go_wp2_with fail
  refine (ruleNames_any _).mono ?_
  rintro e w1 ⟨u, rfl, hr, b⟩
  have HR := Lib.hid hr
  have HB := Lib.hid b
  clear hr b
  go_wp2_with fail
  by_cases hk : 0 ≤ k ∧ k < (ruNames.length : Int)
  · obtain ⟨n, rfl⟩ : ∃ n : Nat, k = (n : Int) := ⟨k.toNat, by omega⟩
    have hn : n < ruNames.length := by omega
    have HN := Lib.hid (ruNm_yes hn)
    refine (elemS_yes ruNames n hn _ _ HR.out).mono ?_
    rintro e w2 ⟨rfl, rfl⟩
    generalize ruNames[n] = x at HN
    clear hk hn
    go_wp2
    go_ret
    exact ⟨ret_strZ (by rw [← RES.out, HN.out]), HB.out⟩
  · have HN := Lib.hid (ruNm_no (k := k) (by have h7 : ruNames.length = 7 := rfl; omega))
    refine (elemS_no ruNames k _ _ HR.out hk).mono ?_
    rintro e w2 ⟨rfl, rfl⟩
    clear hk
    go_wp2
    go_ret
    exact ⟨ret_strZ (by rw [← RES.out, HN.out]), HB.out⟩
set_option maxRecDepth 100000 in
set_option maxHeartbeats 8000000 in
theorem specRuleName_any (k : Int) (w : World) :
    Calls Try.prog 4 #[.int .i64 k] w fun e w' => e = .returned (.string (ruNm k)) ∧ Below w.heap.size w w' := by
  by_cases hk : 0 ≤ k ∧ k ≤ 6
  · obtain ⟨n, rfl⟩ : ∃ n : Nat, k = (n : Int) := ⟨k.toNat, by omega⟩
    have hn : n = 0 ∨ n = 1 ∨ n = 2 ∨ n = 3 ∨ n = 4 ∨ n = 5 ∨ n = 6 := by omega
    rcases hn with rfl | rfl | rfl | rfl | rfl | rfl | rfl
    all_goals
      clear hk
      go_enter Try.func4, Try.ntmps4
      go_wp2_with fail
      refine (l01In_any _ 0 6 _).mono ?_
      rintro e w2 ⟨rfl, rfl⟩
      go_wp2
      go_ret
      exact ⟨rfl, (Below.refl _ _).alloc (Nat.le_refl _) _⟩
  · rw [ruNm_no hk]
    go_enter Try.func4, Try.ntmps4
    go_wp2_with fail
    refine (l01In_any k 0 6 _).mono ?_
    rintro e w2 ⟨rfl, rfl⟩
    rw [show (decide (0 ≤ k) && decide (k ≤ 6)) = false from inB_no hk]
    go_wp2
    go_ret
    exact ⟨rfl, Below.refl _ _⟩
end Go.Proofs.Ytaglfdkeomjpdaa
