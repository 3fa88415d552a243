/- DERIVED. CONTRACT: strings.Cut; the library's variable that it reads holds some int. -/
import Derived.Test.YtilcfbffjjdgnabGreatDoorShelf
import Derived.Test.YtilcfbffjjdgnabGreatDoorCore
import Derived.Lib.SortBridge
namespace Go.Proofs.YtilcfbffjjdgnabGreatDoor
open Go.RowKit Go.Shelf
set_option linter.unusedVariables false

/-- The library's variable internal/bytealg.MaxLen holds some int. -/
def MX (w : World) : Prop := ∃ m, w.cell? ⟨0, 0, none⟩ = some (.int .i64 m)
theorem MX.below {w w' : World} {B : Nat} (h : MX w) (hb : Below B w w') (hB : w.heap.size ≤ B) : MX w' := by
  obtain ⟨m, hm⟩ := h
  exact ⟨m, (hb.cell (p := ⟨0, 0, none⟩) (Nat.lt_of_lt_of_le (World.block_lt_of_cell? _ _ hm) hB)).trans hm⟩
theorem cutS_any (s sep : ByteArray) (w : World) (hs : s.size ≤ 1073741824) (hm : MX w) :
    Calls Tryz.prog 54 #[.string s, .string sep] w fun e w' => e = .returned (.tuple #[.string ⟨(Lib.cut s.data.toList sep.data.toList).1.toArray⟩, .string ⟨(Lib.cut s.data.toList sep.data.toList).2.1.toArray⟩, .bool (Lib.cut s.data.toList sep.data.toList).2.2]) ∧ Below w.heap.size w w' := by
  obtain ⟨m, hm⟩ := hm
  exact (Tryz.strings_Cut s sep m w (by omega) hm).mono fun e w' ⟨he, n, hw⟩ => ⟨he, below_of_drewN ⟨n, hw⟩⟩
end Go.Proofs.YtilcfbffjjdgnabGreatDoor
