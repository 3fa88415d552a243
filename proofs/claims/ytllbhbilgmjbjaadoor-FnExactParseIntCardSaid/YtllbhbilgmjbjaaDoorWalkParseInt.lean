/- DERIVED. The walk of the law FnExactParseInt, by contracts. -/
import Derived.Test.YtllbhbilgmjbjaaDoorPar
namespace Go.Proofs.YtllbhbilgmjbjaaDoor
open Go.RowKit
set_option maxRecDepth 100000 in
set_option maxHeartbeats 1000000 in
theorem walkFnExactParseInt (s : ByteArray) (w : World) (hs : s.size ≤ maxLen) (ht : TB w) :
    Calls Tryd.prog 4 #[.string s] w fun e w' => e = .returned (.bool true) ∧ Below w.heap.size w w' := by
  have HT := Lib.hid ht
  have hs' := hs
  unfold maxLen at hs'
  clear ht
  by_cases hbig : (1048576 : Int) < s.size
  · go_enter Tryd.func4, Tryd.ntmps4
    go_wp2
    go_ret
    exact ⟨rfl, Below.refl _ _⟩
  go_enter Tryd.func4, Tryd.ntmps4
  go_wp2_with fail
  refine (specParse_any s _ hs).mono ?_
  intro e w1 ⟨hp, b1⟩
  unfold ParRes at hp
  subst hp
  have HT1 := Lib.hid (HT.out.below b1 (Nat.le_refl _))
  generalize hv : (parseB s).1 = v
  generalize hok : (parseB s).2 = ok
  have HV := Lib.hid hv
  have HO := Lib.hid hok
  clear hv hok
  go_wp2_with fail
  refine (implParse_any s _ hs HT1.out).mono ?_
  intro e w2 ⟨hp, b2⟩
  unfold ParRes at hp
  rw [HV.out, HO.out] at hp
  subst hp
  go_wp2
  go_ret
  exact ⟨rfl, b1.trans (b2.mono b1.size)⟩
end Go.Proofs.YtllbhbilgmjbjaaDoor
