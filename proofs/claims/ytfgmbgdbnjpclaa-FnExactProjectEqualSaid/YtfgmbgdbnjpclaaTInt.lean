/- DERIVED. CONTRACTS of the laws' helpers over slices of ints, by trees. -/
import Derived.Test.YtfgmbgdbnjpclaaTrm
import Derived.Test.YtfgmbgdbnjpclaaModS
namespace Go.Proofs.Ytfgmbgdbnjpclaa
open Go.RowKit
set_option linter.unusedVariables false

theorem szIntS_t (xs : List Int) (v : Value) (left : Int) (w : World) (hr : (trI xs).rd w v) (hk : (trI xs).ok) (h0 : 0 ≤ left) (h3 : left ≤ 1048576) :
    Calls Try.prog 55 #[v, .int .i64 left] w fun e w' => e = .returned (.int .i64 (if left < (trI xs).sz then -1 else left - (trI xs).sz)) ∧ Below w.heap.size w w' := by
  obtain ⟨A, c, rfl, hl⟩ := rdI_slice (rd_flat hr)
  refine (szI_any A xs.length c left w hl h0 h3).mono ?_
  rintro e w' ⟨rfl, rfl⟩
  exact ⟨by rw [trI_sz], Below.refl _ _⟩
theorem eqIntS_t (xs : List Int) (v u : Value) (w : World) (hv : (trI xs).rd w v) (hu : (trI xs).rd w u) :
    Calls Try.prog 30 #[v, u] w fun e w' => e = .returned (.bool true) ∧ Below w.heap.size w w' := by
  refine (eqI_any xs xs v u w (rd_flat hv) (rd_flat hu)).mono ?_
  rintro e w' ⟨rfl, n, rfl⟩
  exact ⟨by simp, below_drewN' _ _⟩
theorem toIntS_t (xs : List Int) (v : Value) (w : World) (hv : (trI xs).rd w v) (hl : (trI xs).sz ≤ 1073741824) :
    Calls Try.prog 59 #[v] w fun e w' => ∃ u F, e = .returned u ∧ (trI xs).own w' w.heap.size u F ∧ F.Nodup ∧ Below w.heap.size w w' := by
  rw [trI_sz] at hl
  refine (toI_any xs v w (rd_flat hv) hl).mono ?_
  rintro e w' ⟨u, rfl, o, hb⟩
  exact ⟨u, _, rfl, (flat_own o).1, (flat_own o).2, hb⟩
theorem markIntS_t (k B : Nat) (xs : List Int) (v : Value) (F : List Nat) (w : World) (hown : (trI xs).own w B v F) (hn : F.Nodup) (h0 : 0 < k) (hk : k + (trI xs).cnt ≤ 1000000000) :
    Calls Try.prog 32 #[v, .int .i64 k] w fun e w' => ∃ F', e = .returned (.int .i64 (k + (trI xs).cnt : Nat)) ∧ ((trI xs).mkd k).own w' B v F' ∧ F'.Nodup ∧ (∀ x ∈ F', x ∈ F) ∧ Wr F w w' := by
  obtain ⟨o, hF⟩ := own_flat hown
  rw [trI_cnt] at hk ⊢
  refine (markI_any k xs.length B v _ w (by simpa using o) h0 hk).mono ?_
  rintro e w' ⟨rfl, o2, hg⟩
  refine ⟨F, rfl, ?_, hn, fun _ h => h, hF ▸ Wr.of_grown hg⟩
  rw [trI_mkd, hF]
  exact (flat_own o2).1
theorem heldIntS_t (k : Nat) (xs : List Int) (v : Value) (w : World) (hr : ((trI xs).mkd k).rd w v) (h0 : 0 < k) (hk : k + (trI xs).cnt ≤ 1000000000) :
    Calls Try.prog 33 #[v, .int .i64 k] w fun e w' => e = .returned (.int .i64 (k + (trI xs).cnt : Nat)) ∧ Below w.heap.size w w' := by
  rw [trI_cnt] at hk ⊢
  rw [trI_mkd] at hr
  exact heldI_any k xs.length v w (rd_flat hr) h0 hk
end Go.Proofs.Ytfgmbgdbnjpclaa
