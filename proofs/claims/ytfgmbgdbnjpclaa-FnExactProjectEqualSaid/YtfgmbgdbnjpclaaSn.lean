/- DERIVED. Boxes as own rows; the walk's state over them. No dump. -/
import Derived.Test.YtfgmbgdbnjpclaaBlk
namespace Go.Proofs.Ytfgmbgdbnjpclaa
open Go.RowKit

/-- A box: an own row of one element. -/
def boxI (g : Nat) (t : TypeId) (cs : List Value) : Item := ⟨.row t cs.length 1 (cs.map .one), .slice (some ⟨g, 0, none⟩) 1 1, [g]⟩
theorem Bk.own {w : World} {g : Nat} {t : TypeId} {cs : List Value} (h : Bk w g t ⟨cs⟩) {B : Nat} (hB : B ≤ g) : (boxI g t cs).t.own w B (boxI g t cs).v (boxI g t cs).F :=
  ⟨cs, [], ⟨by simp, .inr ⟨g, 1, ⟨cs⟩, rfl, hB, h, Nat.le_refl _, by unfold maxLen; omega, by simp, by simp⟩⟩, ownL_ones.2 ⟨rfl, rfl⟩, by simp [boxI, Value.ownBlock]⟩
theorem own_bk {w : World} {B g : Nat} {t : TypeId} {cs : List Value} (h : (boxI g t cs).t.own w B (boxI g t cs).v (boxI g t cs).F) : Bk w g t ⟨cs⟩ := by
  obtain ⟨vs, G, ⟨hl, ho⟩, hv, _⟩ := h
  have hvs := (ownL_ones.1 hv).1
  clear hv
  subst hvs
  rcases ho with ⟨he, _⟩ | ⟨g', cap, cur, he, _, hh, _, _, hs, ht⟩
  · cases he
  · injection he with he _ hc
    injection he with he
    injection he with he _ _
    subst he
    subst hc
    have hcur : cur = ⟨vs⟩ := by
      apply Array.ext'
      rw [← ht, List.take_of_length_le (by simp [hs])]
    unfold Bk
    rw [hh, hcur]
theorem Sn.box {w0 w : World} {L : List Item} (h : Sn w0 w L) (t : TypeId) (cs : List Value) : Sn w0 (w.alloc (.cells ⟨cs⟩ t)) (boxI w.heap.size t cs :: L) :=
  h.new (Bk.own (Bk.new w t ⟨cs⟩) (Nat.le_refl _)) (by simp) ((Below.refl _ _).alloc (Nat.le_refl _) _)
theorem Sn.bk {w0 w : World} {L : List Item} {g : Nat} {t : TypeId} {cs : List Value} (h : Sn w0 w L) (i : Nat) (hr : L[i]? = some (boxI g t cs)) : Bk w g t ⟨cs⟩ := own_bk (h.own i hr).1
theorem Sn.drew1 {w0 w : World} {L : List Item} (h : Sn w0 w L) : Sn w0 w.drew L := h.go (Below.refl _ _).drew
theorem Sn.newI {w0 w w' : World} {L : List Item} {e : TypeId} {v : Value} {n : Nat} {xs : List Value} (h : Sn w0 w L) (o : w'.ownsRow w.heap.size e 1 v n xs) (hb : Below w.heap.size w w') : Sn w0 w' (⟨flat e xs, v, v.ownBlock.toList⟩ :: L) :=
  h.new (flat_own o).1 (flat_own o).2 hb
theorem Sn.rdI {w0 w : World} {L : List Item} {e : TypeId} {v : Value} {xs : List Value} {F : List Nat} (h : Sn w0 w L) (i : Nat) (hr : L[i]? = some ⟨flat e xs, v, F⟩) : Rd w v xs := rd_flat (h.rd i hr)
theorem Sn.ownI {w0 w : World} {L : List Item} {e : TypeId} {v : Value} {xs : List Value} {F : List Nat} (h : Sn w0 w L) (i : Nat) (hr : L[i]? = some ⟨flat e xs, v, F⟩) : w.ownsRow w0.heap.size e 1 v xs.length xs := (own_flat (h.own i hr).1).1
theorem Sn.markI {w0 w w' : World} {L : List Item} {e : TypeId} {v : Value} {xs ys : List Value} {F : List Nat} {n : Nat} (h : Sn w0 w L) (i : Nat) (hr : L[i]? = some ⟨flat e xs, v, F⟩) (o : w'.ownsRow w0.heap.size e 1 v n ys) (hg : w.grownBy w' v.ownBlock) : Sn w0 w' (L.set i ⟨flat e ys, v, F⟩) := by
  have hF := (own_flat (h.own i hr).1).2
  refine h.mark i hr (hF ▸ (flat_own o).1) (h.own i hr).2 (fun _ hk => hk) (hF ▸ Wr.of_grown hg)
end Go.Proofs.Ytfgmbgdbnjpclaa
