/- DERIVED. CONTRACTS: elementAt at strings; a new row of strings. -/
import Derived.Test.YtgbpomakomddjabGreatDoorCore
import Derived.Test.YtgbpomakomddjabGreatDoorDats
import Derived.Test.YtgbpomakomddjabGreatDoorMaths
namespace Go.Proofs.YtgbpomakomddjabGreatDoor
open Go.RowKit
set_option linter.unusedVariables false

theorem ret_strZ {a b : ByteArray} (h : a = b) : Ending.returned (.string a) = Ending.returned (.string b) := by rw [h]

set_option maxRecDepth 100000 in
set_option maxHeartbeats 8000000 in
theorem elemS_no (l : List ByteArray) (i : Int) (v : Value) (w : World) (hr : Rd w v (l.map .string)) (h : ¬ (0 ≤ i ∧ i < (l.length : Int))) :
    Calls Tryz.prog 95 #[v, .int .i64 i] w fun e w' => e = .returned (.tuple #[.string ⟨#[]⟩, .bool false]) ∧ w = w' := by
  obtain ⟨hl, A, c, rfl, _⟩ := hr
  rw [List.length_map]
  clear hl
  by_cases h0 : i < 0
  · clear h
    go_enter Tryz.func95, Tryz.ntmps95
    go_wp2
    go_ret2
    exact ⟨rfl, rfl⟩
  · have h1 : (l.length : Int) ≤ i := by omega
    clear h
    go_enter Tryz.func95, Tryz.ntmps95
    go_wp2
    go_ret2
    exact ⟨rfl, rfl⟩
set_option maxRecDepth 100000 in
set_option maxHeartbeats 8000000 in
theorem elemS_yes (l : List ByteArray) (n : Nat) (hn : n < l.length) (v : Value) (w : World) (hr : Rd w v (l.map .string)) :
    Calls Tryz.prog 95 #[v, .int .i64 (n : Int)] w fun e w' => e = .returned (.tuple #[.string l[n], .bool true]) ∧ w = w' := by
  obtain ⟨A, c, rfl, ha⟩ := rdS_at hr
  obtain ⟨b, o, rfl, hb, hc⟩ := ha n hn
  have hx := hc n hn
  have h0 : (0 : Int) ≤ (n : Int) := by omega
  have h1 : (n : Int) < (l.length : Int) := by omega
  clear ha hc hr
  generalize l[n] = x at hx ⊢
  go_enter Tryz.func95, Tryz.ntmps95
  go_wp2
  go_ret2
  exact ⟨rfl, rfl⟩
theorem newRow_any (w : World) (T : TypeId) (l : List ByteArray) (hl : l.length ≤ maxLen) : Rd (w.alloc (.cells ⟨l.map .string⟩ T)) (.slice (some ⟨w.heap.size, 0, none⟩) l.length l.length) (l.map .string) :=
  ⟨by simpa using hl, _, _, by rw [List.length_map], .inr ⟨w.heap.size, 0, rfl, by simp, fun j hj => by
    rw [World.cell?_alloc_at _ _ _ _ rfl]
    have hj' : j < l.length := by simpa using hj
    simp [hj']⟩⟩
theorem newI_any (w : World) (T : TypeId) (l : List Int) (hl : l.length ≤ maxLen) : Rd (w.alloc (.cells ⟨l.map (.int .i64)⟩ T)) (.slice (some ⟨w.heap.size, 0, none⟩) l.length l.length) (l.map (.int .i64)) :=
  ⟨by simpa using hl, _, _, by rw [List.length_map], .inr ⟨w.heap.size, 0, rfl, by simp, fun j hj => by
    rw [World.cell?_alloc_at _ _ _ _ rfl]
    have hj' : j < l.length := by simpa using hj
    simp [hj']⟩⟩
end Go.Proofs.YtgbpomakomddjabGreatDoor
