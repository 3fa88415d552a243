/- DERIVED. CONTRACTS: FormatMode, of the model and of the program. -/
import Derived.Test.YtaglfdkeomjpdabGreatDoorModTxt
import Derived.Test.YtaglfdkeomjpdabGreatDoorActA
import Derived.Test.YtaglfdkeomjpdabGreatDoorFmts
import Derived.Test.YtaglfdkeomjpdabGreatDoorJoinI
import Derived.Test.YtaglfdkeomjpdabGreatDoorShp
namespace Go.Proofs.YtaglfdkeomjpdabGreatDoor
open Go.RowKit

theorem ret_str {a b : ByteArray} (h : a = b) : Ending.returned (.string a) = .returned (.string b) := by rw [h]
theorem wf_rangeM {n : Int} (hn : (Lit.int .i64 n).wf = true) : -9223372036854775808 ≤ n ∧ n ≤ 9223372036854775807 := by
  have h1 : IntKind.i64.min = -9223372036854775808 := rfl
  have h2 : IntKind.i64.max = 9223372036854775807 := rfl
  simp only [Lit.wf, Bool.and_eq_true, decide_eq_true_eq] at hn
  omega

theorem okI_inR {l : List Int} (h : ∀ x ∈ l, (Lit.int .i64 x).wf = true) : ∀ n ∈ l, -9223372036854775808 ≤ n ∧ n ≤ 9223372036854775807 := fun n hn => wf_rangeM (h n hn)
def inR (l : List Int) : Prop := ∀ n ∈ l, -9223372036854775808 ≤ n ∧ n ≤ 9223372036854775807
theorem emp {x : ByteArray} (h : x = ⟨#[]⟩) : x.toList.isEmpty = true := by subst h; rw [ByteArray.toList_eq]; rfl

/-- What a walk carries through the calls of a drawn region: the box of a mode. -/
def MK (w0 : World) (g : Nat) (d u c : Value) (W : World) : Prop := Below w0.heap.size w0 W ∧ Bk W g 134 #[d, u, c]
/-- joinAll of the three parts of a mode. -/
theorem joinThree_any (f0 f1 f2 : ByteArray) (T : TypeId) (W : World) (hs0 : f0.size ≤ 100) (hs1 : f1.size ≤ 10000000) (hs2 : f2.size ≤ 10000000) :
    Calls Tryz.prog 46 #[.string ⟨#[47]⟩, .slice (some ⟨W.heap.size, 0, none⟩) 3 3] (W.alloc (.cells #[.string f0, .string f1, .string f2] T)) fun e w' => e = .returned (.string (joinB [f0, f1, f2] slash)) ∧ Below W.heap.size W w' := by
  obtain ⟨hb0, hk, hs⟩ := boxes1 W T #[.string f0, .string f1, .string f2]
  obtain ⟨c0, c1, c2, _⟩ := hk.c3
  have hrd : Rd (W.alloc (.cells #[.string f0, .string f1, .string f2] T)) (.slice (some ⟨W.heap.size, 0, none⟩) 3 3) ([f0, f1, f2].map .string) := by
    refine ⟨by simp [maxLen], _, _, rfl, .inr ⟨W.heap.size, 0, rfl, by omega, fun j hj => ?_⟩⟩
    match j, hj with
    | 0, _ => simp [c0]
    | 1, _ => simp [c1]
    | 2, _ => simp [c2]
  refine (joinAll_any [f0, f1, f2] ⟨#[47]⟩ _ _ hrd (by simp [tot]; omega) (by simp) (by decide)).mono ?_
  rintro e w' ⟨rfl, hb2⟩
  exact ⟨rfl, hb0.trans (hb2.mono (by omega))⟩

end Go.Proofs.YtaglfdkeomjpdabGreatDoor
