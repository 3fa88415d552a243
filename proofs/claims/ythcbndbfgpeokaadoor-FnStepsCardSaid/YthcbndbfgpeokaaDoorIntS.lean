/- DERIVED. CONTRACTS: eqIntS, markIntS, heldIntS, toIntS. -/
import Derived.Test.YthcbndbfgpeokaaDoorChecked
import Derived.Test.YthcbndbfgpeokaaDoorRd
import Derived.Test.YthcbndbfgpeokaaDoorBase
import Derived.WalkKit
import Derived.Lib.Hide
import Derived.OwnWalk
import Derived.BigQuiet
import Derived.Deep.QuietTactic
import Derived.Outline
namespace Go.Proofs.YthcbndbfgpeokaaDoor
open Go.RowKit

theorem eqI_pre {xs ys : List Int} {k : Nat} (hl : xs.length = ys.length) (hk : ¬ k < xs.length) (h : ∀ j, (h1 : j < xs.length) → (h2 : j < ys.length) → j < k → xs[j] = ys[j]) : xs = ys :=
  List.ext_getElem hl fun j h1 h2 => h j h1 h2 (by omega)

theorem infoInt : (Tryd.prog.info? 3).map (fun i => (i.zero, i.size, i.bytes)) = some (some (.int .i64 0), 1, 8) := by kernel_rfl

/-- From what the row tells of an argument to 'Rd'. -/
theorem isInts_rd {w : World} {a : Option Addr} {len cap : Nat} {zs : List Int} (h : IsInts w a len cap zs) : len ≤ zs.length ∧ Rd w (.slice a len cap) ((zs.take len).map (.int .i64)) := by
  rcases h with ⟨rfl, rfl, rfl, rfl⟩ | ⟨x, rfl, hl, hm, hz, hb, hc, _⟩
  · exact ⟨Nat.le_refl _, by simp, none, 0, by simp, .inl rfl⟩
  · have hlen : ((zs.take len).map (Value.int .i64)).length = len := by simp; omega
    refine ⟨by omega, by omega, some x, cap, by rw [hlen], ?_⟩
    by_cases h0 : len = 0
    · left; subst h0; simp
    · right
      have h1 := hc 0 (by omega)
      obtain ⟨b, o, spot⟩ := x
      have hspot : spot = none := by simpa [Addr.add] using World.cell?_spot h1
      subst hspot
      refine ⟨b, o, rfl, hb (by omega), fun j hj => ?_⟩
      have := hc j (by omega)
      rw [show ((⟨b, o, none⟩ : Addr).add j) = ⟨b, o + j, none⟩ from by unfold Addr.add; split <;> simp_all] at this
      rw [this]
      have hj' : j < zs.length := by omega
      simp [List.getD, List.getElem?_eq_getElem hj']

def mkI (k : Nat) (i : Nat) : Value := .int .i64 (k + i : Nat)
def marksI (k n : Nat) : List Value := (List.range n).map (mkI k)
theorem marksI_len (k n : Nat) : (marksI k n).length = n := by simp [marksI]

def elI (xs : List Int) (i : Nat) : Value := .int .i64 (xs.getD i 0)
theorem elI_all (xs : List Int) : (List.range xs.length).map (elI xs) = xs.map (.int .i64) := by
  apply List.ext_getElem
  · simp
  · intro i h1 h2
    simp [elI] at h1 ⊢
    rw [List.getElem?_eq_getElem h1]; rfl

end Go.Proofs.YthcbndbfgpeokaaDoor
