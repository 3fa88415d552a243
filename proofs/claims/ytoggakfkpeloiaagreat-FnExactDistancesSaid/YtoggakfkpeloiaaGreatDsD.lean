/- DERIVED. CONTRACT: the program's Distances. -/
import Derived.Test.YtoggakfkpeloiaaGreatDsJ
import Derived.Test.YtoggakfkpeloiaaGreatDsP
import Derived.Test.YtoggakfkpeloiaaGreatShelf
namespace Go.Proofs.YtoggakfkpeloiaaGreat
open Go.RowKit Go.Shelf
set_option linter.unusedVariables false

section
variable {w0 W : World} {L : List Item}
/-- A tree among the state's put into a place of a row of the state's. -/
theorem Sn.putRow {t' : Tr} {x' : Value} {H' F : List Nat} {e : TypeId} {s n g cap i : Nat} {cs : List Tr} (h : Sn w0 W (⟨t', x', H'⟩ :: ⟨.row e s n cs, .slice (some ⟨g, 0, none⟩) n cap, F⟩ :: L)) (hi : i < cs.length) :
    ∃ F', Sn w0 (W.setCell ⟨g, i, none⟩ x') (⟨.row e s n (cs.set i t'), .slice (some ⟨g, 0, none⟩) n cap, F'⟩ :: L) := by
  have h1 := h.own 0 rfl
  have h2 := h.own 1 rfl
  have hra : RowAt W w0.heap.size e s n g cap cs F := ⟨h2.1, h2.2⟩
  have hap := h.2.apart (i := 0) (j := 1) rfl rfl (by omega)
  obtain ⟨F', r, rs⟩ := hra.put hi h1.1 h1.2 (fun k hk => hap k hk)
  refine ⟨F', h.merge2.turn (t' := .row e s n (cs.set i t')) r.1 r.2 (fun k hk => .inl ?_) (Wr.setCell W ⟨g, i, none⟩ ?_ x')⟩
  · show k ∈ F ++ (H' ++ [])
    rw [List.append_nil]
    exact List.mem_append.2 (rs k hk)
  · show g ∈ F ++ (H' ++ [])
    exact List.mem_append.2 (.inl hra.mem)
end

end Go.Proofs.YtoggakfkpeloiaaGreat
