/- DERIVED. What a walk is told of a slice of bytes that came in. -/
import Derived.Test.YtdbnhdiboemmiacGreatCore
import Derived.ProofKit
namespace Go.Proofs.YtdbnhdiboemmiacGreat
open Go.RowKit

def IsBytes (w : World) (a : Option Addr) (len cap : Nat) (zs : List Int) : Prop :=
  (a = none ∧ len = 0 ∧ cap = 0 ∧ zs = []) ∨
  ∃ x, a = some x ∧ len ≤ cap ∧ cap ≤ maxLen ∧ zs.length = cap ∧ (0 < cap → x.block < w.heap.size) ∧ (∀ i, i < zs.length → w.cell? (x.add i) = some (.int .u8 (zs.getD i 0))) ∧ ∀ n ∈ zs, (Lit.int .u8 n).wf = true

theorem u8_wf {n : Int} (h : (Lit.int .u8 n).wf = true) : 0 ≤ n ∧ n ≤ 255 := by
  simp [Lit.wf, IntKind.min, IntKind.max, IntKind.signed, IntKind.bits] at h
  omega
theorem isBytes_rd {w : World} {a : Option Addr} {len cap : Nat} {zs : List Int} (h : IsBytes w a len cap zs) : len ≤ zs.length ∧ Rd w (.slice a len cap) ((zs.take len).map (.int .u8)) ∧ ∀ b ∈ zs.take len, 0 ≤ b ∧ b ≤ 255 := by
  rcases h with ⟨rfl, rfl, rfl, rfl⟩ | ⟨x, rfl, hl, hm, hz, hb, hc, hw⟩
  · exact ⟨Nat.le_refl _, ⟨by simp, none, 0, by simp, .inl rfl⟩, by simp⟩
  · have hlen : ((zs.take len).map (Value.int .u8)).length = len := by simp; omega
    refine ⟨by omega, ⟨by omega, some x, cap, by rw [hlen], ?_⟩, fun b hb => u8_wf (hw b (List.mem_of_mem_take hb))⟩
    by_cases h0 : len = 0
    · left; subst h0; simp
    · right
      have h1 := hc 0 (by omega)
      obtain ⟨b, o, spot⟩ := x
      have hspot : spot = none := by simpa [Addr.add] using World.cell?_spot h1
      subst hspot
      refine ⟨b, o, rfl, hb (by omega), fun j hj => ?_⟩
      have := hc j (by omega)
      rw [show ((⟨b, o, none⟩ : Addr).add j) = ⟨b, o + j, none⟩ from by unfold Addr.add; split <;> simp_all] at this
      rw [this]
      have hj' : j < zs.length := by omega
      simp [List.getD, List.getElem?_eq_getElem hj']
end Go.Proofs.YtdbnhdiboemmiacGreat
