/- DERIVED. What a walk is told of a slice of steps that came in. -/
import Derived.Test.YthcbndbfgpeokaaDoorChecked
import Derived.Test.YthcbndbfgpeokaaDoorStp
import Derived.Test.YthcbndbfgpeokaaDoorBase
import Derived.Deep.SlicePairs
import Derived.ChangeArms
import Derived.ProofKit
import Derived.OpenShut
namespace Go.Proofs.YthcbndbfgpeokaaDoor
open Go.RowKit Go.ChangeShapes Go.WideShapes Go.Deep

/-- A slice of steps that came in: nil, or a row of 'cap' pairs below the heap's size; the first 'len' are its elements. -/
def IsPairs (w : World) (a : Option Addr) (len cap : Nat) (zs : List (Int × Int)) : Prop :=
  (a = none ∧ len = 0 ∧ cap = 0 ∧ zs = []) ∨
  ∃ x, a = some x ∧ len ≤ cap ∧ cap ≤ maxLen ∧ zs.length = cap ∧ (0 < cap → x.block < w.heap.size) ∧ ∀ i, i < cap → w.cell? (x.add (i * 2)) = some (.int .i64 (zs.getD i (0, 0)).1) ∧ w.cell? (x.add (i * 2 + 1)) = some (.int .i64 (zs.getD i (0, 0)).2)

theorem isPairs_trod {H : Type} {enc : TypeId × Value → H} {W : World} {a : Option Addr} {len cap : Nat} {d : DataW H} {p : List MemPlace}
    (h : DataW.Trod enc Tryd.prog W 0 (fun _ => true) true 36 (.slice a len cap) d p) (lt : ∀ x ∈ p, x.block < W.heap.size) : ∃ zs, IsPairs W a len cap zs := by
  obtain ⟨fuel, hf⟩ := h
  rcases open_slice_pairs Tryd.underlying36 Tryd.underlying61 (by kernel_rfl) rfl rfl (by kernel_rfl) (by kernel_rfl) hf with ⟨hcs, _⟩ | ⟨x, l, c, m, n, V0, V1, D0, D1, P0, P1, hcs, _, hl, hm, hmm, hx, hi⟩
  · simp [Value.cells] at hcs
    obtain ⟨rfl, rfl, rfl⟩ := hcs
    exact ⟨[], .inl ⟨rfl, rfl, rfl, rfl⟩⟩
  · simp [Value.cells] at hcs
    obtain ⟨rfl, rfl, rfl⟩ := hcs
    obtain rfl : m = cap := by simpa using hmm
    simp only [Prod.mk.injEq] at hx
    refine ⟨(List.range m).map fun i => (intOf (V0 i), intOf (V1 i)), .inr ⟨x, rfl, hl, hm, by simp, fun h0 => lt (.cell x.block x.off) ?_, fun i him => ?_⟩⟩
    · rw [hx.2]
      exact List.mem_append.2 (.inl (mem_row_self _ (by omega)))
    · obtain ⟨h1, h2, h3, h4⟩ := hi i him
      obtain ⟨z0, e0, _⟩ := DataW.trod_int Tryd.underlying3 h3
      obtain ⟨z1, e1, _⟩ := DataW.trod_int Tryd.underlying3 h4
      simp only [List.cons.injEq, and_true] at e0 e1
      rw [h1, h2, e0, e1]
      simp [List.getD, him, e0, e1, intOf]

/-- From what the row tells of an argument to 'RdP'. -/
theorem isPairs_rd {w : World} {a : Option Addr} {len cap : Nat} {zs : List (Int × Int)} (h : IsPairs w a len cap zs) : len ≤ zs.length ∧ RdP w (.slice a len cap) (zs.take len) := by
  rcases h with ⟨rfl, rfl, rfl, rfl⟩ | ⟨x, rfl, hl, hm, hz, hb, hc⟩
  · exact ⟨Nat.le_refl _, by simp, by simp [cellsP], none, 0, by simp, .inl (by simp)⟩
  · have hlen : (zs.take len).length = len := by simp; omega
    refine ⟨by omega, by omega, by rw [cellsP_len], some x, cap, by rw [hlen], ?_⟩
    by_cases h0 : len = 0
    · left; omega
    · right
      have h1 := (hc 0 (by omega)).1
      obtain ⟨b, o, spot⟩ := x
      have hspot : spot = none := by simpa [Addr.add] using World.cell?_spot h1
      subst hspot
      refine ⟨b, o, rfl, hb (by omega), fun j hj => ?_⟩
      rw [cellsP_len, hlen] at hj
      have hadd : ∀ k, ((⟨b, o, none⟩ : Addr).add k) = ⟨b, o + k, none⟩ := fun k => by unfold Addr.add; split <;> simp_all
      have hget : ∀ i, (hi : i < len) → zs.getD i (0, 0) = (zs.take len)[i]'(by omega) := fun i hi => by
        have hi' : i < zs.length := by omega
        simp [List.getD, List.getElem?_eq_getElem hi']
      apply Option.some.inj
      rw [← List.getElem?_eq_getElem]
      rcases Nat.mod_two_eq_zero_or_one j with e | e
      · obtain ⟨i, rfl⟩ : ∃ i, j = i * 2 := ⟨j / 2, by omega⟩
        have h2 := (hc i (by omega)).1
        rw [hadd] at h2
        rw [cellsP_0 _ i (by omega), h2, hget i (by omega)]
      · obtain ⟨i, rfl⟩ : ∃ i, j = i * 2 + 1 := ⟨j / 2, by omega⟩
        have h2 := (hc i (by omega)).2
        rw [hadd] at h2
        rw [cellsP_1 _ i (by omega), h2, hget i (by omega)]
end Go.Proofs.YthcbndbfgpeokaaDoor
