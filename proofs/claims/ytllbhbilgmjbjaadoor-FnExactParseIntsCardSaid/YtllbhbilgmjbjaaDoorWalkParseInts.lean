/- DERIVED. The walk of the law FnExactParseInts, by contracts. -/
import Derived.Test.YtllbhbilgmjbjaaDoorPars
namespace Go.Proofs.YtllbhbilgmjbjaaDoor
open Go.RowKit
set_option maxRecDepth 100000 in
set_option maxHeartbeats 2000000 in
theorem walkFnExactParseInts (s : ByteArray) (w : World) (hs : s.size ≤ maxLen) (ht : TB w) :
    Calls Tryd.prog 6 #[.string s] w fun e w' => e = .returned (.bool true) ∧ Below w.heap.size w w' := by
  have hs' := hs
  unfold maxLen at hs'
  have T0 := Lib.hid ht
  clear ht
  by_cases hbig : (1048576 : Int) < s.size
  · go_enter Tryd.func6, Tryd.ntmps6
    go_wp2
    go_ret
    exact ⟨rfl, Below.refl _ _⟩
  have hn := pars_len s
  generalize hsb : (parsesB s).1 = xs at hn
  generalize hok : (parsesB s).2 = ok
  have HSB := Lib.hid hsb
  have HOK := Lib.hid hok
  clear hsb hok
  go_enter Tryd.func6, Tryd.ntmps6
  go_wp2_with fail
  refine (specPars_any s _ (by omega)).mono ?_
  rintro e w1 ⟨v0, rfl, o1, b1⟩
  rw [HSB.out] at o1
  rw [HOK.out]
  have L1 := Lib.hid (fun k hk => (o1.lt k hk).2)
  have O1 := Lib.hid o1; clear o1
  have T1 := Lib.hid (T0.out.below b1 (Nat.le_refl _))
  go_wp2_with fail
  refine (implPars_any s _ (by omega) T1.out).mono ?_
  rintro e w2 ⟨v1, rfl, o2, b2⟩
  rw [HSB.out] at o2
  rw [HOK.out]
  have O1 := Lib.hid (own_below O1.out b2 (Nat.le_refl _))
  have O2 := Lib.hid o2; clear o2
  have B2 := Lib.hid (b1.trans (b2.mono b1.size)); clear b2
  go_wp2_with fail
  refine (eqI_any xs xs _ _ _ (own_rd O2.out (by unfold maxLen; omega)) (own_rd O1.out (by unfold maxLen; omega))).mono ?_
  rintro e w3 ⟨rfl, n3, rfl⟩
  rw [decide_eq_true rfl]
  go_wp2_with fail
  refine (markI_any 1 xs.length w1.heap.size _ _ _ (by exact O2.out) (by omega) (by omega)).mono ?_
  rintro e w4 ⟨rfl, o4, g4⟩
  have O1 := Lib.hid (own_grown (own_below O1.out (below_drewN' _ n3) (Nat.le_refl _)) g4 (fun k hk => .inr (fun e => by
    have h1 := L1.out k e
    have h2 := (O2.out.lt k hk).1
    omega)))
  have B4 := Lib.hid ((below_drewN B2.out n3).grown g4 B2.out.size (fun i hi => Nat.le_trans b1.size (O2.out.lt i hi).1))
  have O2 := Lib.hid o4; clear o4 g4
  go_wp2_with fail
  refine (heldI_any 1 xs.length _ _ (own_rd O2.out (by unfold maxLen; omega)) (by omega) (by omega)).mono ?_
  rintro e w5 ⟨rfl, b5⟩
  have O1 := Lib.hid (own_below O1.out b5 (Nat.le_refl _))
  have O2 := Lib.hid (own_below O2.out b5 (Nat.le_refl _))
  have B5 := Lib.hid (B4.out.trans (b5.mono B4.out.size)); clear b5
  have T5 := Lib.hid (T0.out.below B5.out (Nat.le_refl _))
  go_wp2_with fail
  refine (implPars_any s _ (by omega) T5.out).mono ?_
  rintro e w6 ⟨v2, rfl, o6, b6⟩
  rw [HSB.out] at o6
  rw [HOK.out]
  have O1 := Lib.hid (own_below O1.out b6 (Nat.le_refl _))
  have O2 := Lib.hid (own_below O2.out b6 (Nat.le_refl _))
  have O6 := Lib.hid o6; clear o6
  have B6 := Lib.hid (B5.out.trans (b6.mono B5.out.size)); clear b6
  go_wp2_with fail
  refine (eqI_any xs xs _ _ _ (own_rd O6.out (by unfold maxLen; omega)) (own_rd O1.out (by unfold maxLen; omega))).mono ?_
  rintro e w7 ⟨rfl, n7, rfl⟩
  rw [decide_eq_true rfl]
  go_wp2_with fail
  refine (heldI_any 1 xs.length _ _ (own_rd (by exact O2.out) (by unfold maxLen; omega)) (by omega) (by omega)).mono ?_
  rintro e w8 ⟨rfl, b8⟩
  have B8 := Lib.hid ((below_drewN B6.out n7).trans (b8.mono B6.out.size)); clear b8
  go_wp2
  go_ret
  exact ⟨rfl, B8.out⟩
end Go.Proofs.YtllbhbilgmjbjaaDoor
