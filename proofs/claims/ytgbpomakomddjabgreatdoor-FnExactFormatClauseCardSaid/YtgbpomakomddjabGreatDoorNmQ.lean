/- DERIVED. The names of a project's activities: mathematics. No dump. -/
import Derived.Test.YtgbpomakomddjabGreatDoorPrG3
import Derived.Test.YtgbpomakomddjabGreatDoorSpL
import Derived.Test.YtgbpomakomddjabGreatDoorTxtMaths
import Derived.Test.YtgbpomakomddjabGreatDoorName
namespace Go.Proofs.YtgbpomakomddjabGreatDoor
open Go.RowKit
set_option linter.unusedVariables false

def nmA (p : Pj) (a : Nat) : ByteArray := match p.acts[a]? with | some x => x.nm | none => ⟨#[]⟩
theorem nmA_at {p : Pj} {a : Nat} (h : a < p.acts.length) : nmA p a = p.acts[a].nm := by simp [nmA, List.getElem?_eq_getElem h]
theorem nm_all {s : ByteArray} (h : nmB s = true) : allB nameC s := allB_byt fun k hk => by
  simp only [nmB, Bool.and_eq_true, decide_eq_true_eq] at h
  have h2 := h.2.2 k hk
  refine Classical.byContradiction fun hn => ?_
  unfold nameC at hn
  rcases (by omega : (s[k].toNat : Int) < 48 ∨ (57 < (s[k].toNat : Int) ∧ (s[k].toNat : Int) < 97) ∨ 122 < (s[k].toNat : Int)) with e | e | e
  · rw [nmAt_less e] at h2; cases h2
  · rw [nmAt_mid e.1 e.2] at h2; cases h2
  · rw [nmAt_high e] at h2; cases h2
theorem nm_noPar {s : ByteArray} (h : nmB s = true) : parseB s = (0, false) := by
  simp only [nmB, Bool.and_eq_true, decide_eq_true_eq] at h
  have h0 : 0 < s.size := by omega
  have h2 := h.2.2 0 h0
  have hb := byt_at h0
  refine par_bad h0 ?_
  unfold dOk negS
  rw [hb]
  have hc : 97 ≤ s[0].toNat := by
    refine Classical.byContradiction fun hn => ?_
    rw [nmAt_zero (c := (s[0].toNat : Int)) (by omega)] at h2
    cases h2
  simp only [decide_eq_true_eq]
  omega
theorem nmA_good {p : Pj} (hp : pokB p = true) {i : Nat} (h : i < p.acts.length) : nmB (nmA p i) = true ∧ plcB p.acts (nmA p i) = (i : Int) := by
  rw [nmA_at h]
  have h2 := (pok_acts hp).2 _ (List.getElem_mem h)
  simp only [aokB, Bool.and_eq_true] at h2
  simp only [pokB, Bool.and_eq_true] at hp
  have h3 := hp.2.2.2.2.2.2.1
  simp only [ownB, decide_eq_true_eq] at h3
  exact ⟨h2.2.1, h3 i h⟩
end Go.Proofs.YtgbpomakomddjabGreatDoor
