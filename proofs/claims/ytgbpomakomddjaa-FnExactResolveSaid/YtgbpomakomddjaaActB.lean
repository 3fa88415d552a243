/- DERIVED. CONTRACTS: ActivityOk, of the model and of the program. -/
import Derived.Test.YtgbpomakomddjaaActA
import Derived.Test.YtgbpomakomddjaaName
import Derived.Test.YtgbpomakomddjaaCore
namespace Go.Proofs.Ytgbpomakomddjaa
open Go.RowKit

/-- A valid activity. -/
def aokB (a : Ac) (r s : Int) : Bool := a.ms.all (fun m => mokB m r s) && (nmB a.nm && (inB a.fa 0 3 && inB (a.ms.length : Int) 1 3))
theorem all_no {ms : List Md} {f : Md → Bool} {k : Nat} (hk : k < ms.length) (h : f ms[k] = false) : ms.all f = false :=
  List.all_eq_false.2 ⟨ms[k], List.getElem_mem hk, by simp [h]⟩
theorem all_yes {ms : List Md} {f : Md → Bool} (h : ∀ j, (hj : j < ms.length) → f ms[j] = true) : ms.all f = true :=
  List.all_eq_true.2 fun x hx => by obtain ⟨j, hj, rfl⟩ := List.mem_iff_getElem.1 hx; exact h j hj
theorem step_md {ms : List Md} {k : Nat} {p : Md → Prop} (hlt : k < ms.length) (hall : ∀ j, (h : j < ms.length) → j < k → p ms[j]) (hp : p ms[k]) : ∀ j, (h : j < ms.length) → j < k + 1 → p ms[j] := fun j hj hjk => by
  by_cases e : j = k
  · subst e; exact hp
  · exact hall j hj (by omega)

end Go.Proofs.Ytgbpomakomddjaa
