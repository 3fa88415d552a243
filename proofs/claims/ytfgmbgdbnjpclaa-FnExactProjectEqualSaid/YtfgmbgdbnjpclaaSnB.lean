/- DERIVED. The state's boxes written; rows of strings; two own trees lie apart. No dump. -/
import Derived.Test.YtfgmbgdbnjpclaaSn
namespace Go.Proofs.Ytfgmbgdbnjpclaa
open Go.RowKit

theorem Sn.boxSet {w0 w : World} {L : List Item} {g : Nat} {t : TypeId} {cs : List Value} (h : Sn w0 w L) (i : Nat) (hr : L[i]? = some (boxI g t cs)) (k : Nat) (x : Value) :
    Sn w0 (w.setCell ⟨g, k, none⟩ x) (L.set i (boxI g t (cs.set k x))) := by
  have ho := h.own i hr
  have hb := own_bk ho.1
  have hB : w0.heap.size ≤ g := (Tr.own_lt _ _ _ ho.1 g (by simp)).1
  have hn : Bk (w.setCell ⟨g, k, none⟩ x) g t ⟨cs.set k x⟩ := by
    have := hb.set k x
    simpa using this
  have hm := h.mark i hr (Bk.own hn hB) (by simp [boxI]) (fun k hk => hk) (Wr.setCell w ⟨g, k, none⟩ (by simp) x)
  exact hm
theorem Items.apart {w : World} {B : Nat} : ∀ {L : List Item} {i j : Nat} {a b : Item}, Items w B L → L[i]? = some a → L[j]? = some b → i < j → ∀ k ∈ a.F, k ∉ b.F
  | _ :: _, 0, j + 1, _, _, h, ha, hb, _ => by
    simp at ha; subst ha
    exact h.2.2.1 _ (List.mem_of_getElem? (by simpa using hb))
  | _ :: _, i + 1, j + 1, _, _, h, ha, hb, hij => h.2.2.2.apart (i := i) (j := j) (by simpa using ha) (by simpa using hb) (by omega)
theorem Sn.apart {w0 w : World} {L : List Item} {a b : Item} (h : Sn w0 w L) (i j : Nat) (ha : L[i]? = some a) (hb : L[j]? = some b) (hij : i < j) : (b.F ++ a.F).Nodup :=
  List.nodup_append.2 ⟨(h.own j hb).2, (h.own i ha).2, fun _ hx y hy e => h.2.apart ha hb hij y hy (e ▸ hx)⟩
/-- A row of strings opened at an index. -/
theorem rdS_at {w : World} {v : Value} {xs : List ByteArray} (h : Rd w v (xs.map .string)) : ∃ A c, v = .slice A xs.length c ∧ ∀ k, k < xs.length → ∃ b o, A = some ⟨b, o, none⟩ ∧ b < w.heap.size ∧ ∀ j, (hj : j < xs.length) → w.cell? ⟨b, o + j, none⟩ = some (.string xs[j]) := by
  obtain ⟨_, A, c, rfl, h⟩ := h
  simp only [List.length_map] at *
  refine ⟨A, c, rfl, fun k hk => ?_⟩
  rcases h with h | ⟨b, o, rfl, hb, hc⟩
  · have : xs = [] := by simpa using h
    subst this
    exact absurd hk (by simp)
  · exact ⟨b, o, rfl, hb, fun j hj => by simpa using hc j hj⟩
end Go.Proofs.Ytfgmbgdbnjpclaa
