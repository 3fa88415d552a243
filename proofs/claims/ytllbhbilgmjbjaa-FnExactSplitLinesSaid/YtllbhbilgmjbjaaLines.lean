/- DERIVED. CONTRACTS: spec.SplitLines, impl.SplitLines; the walk of the law FnExactSplitLines. -/
import Derived.Test.YtllbhbilgmjbjaaSplit
import Derived.Test.YtllbhbilgmjbjaaStrS
import Derived.Test.YtllbhbilgmjbjaaMark
import Derived.WalkSmall
namespace Go.Proofs.Ytllbhbilgmjbjaa
open Go.RowKit

def nlB : ByteArray := ⟨#[10]⟩
def linesB (s : ByteArray) : List ByteArray := if (splitB s nlB).getLast? = some ⟨#[]⟩ then (splitB s nlB).dropLast else splitB s nlB

theorem lines_cut {s : ByteArray} {ys : List ByteArray} (h : splitB s nlB = ys ++ [⟨#[]⟩]) : linesB s = ys := by
  unfold linesB; rw [h]; simp
theorem lines_keep {s x : ByteArray} {ys : List ByteArray} (h : splitB s nlB = ys ++ [x]) (hx : x ≠ ⟨#[]⟩) : linesB s = ys ++ [x] := by
  unfold linesB; rw [h]; simp [hx]
theorem lines_len (s : ByteArray) : (linesB s).length ≤ s.size + 1 := by
  have := (splitB_len s nlB).2
  unfold linesB; split
  · simp; omega
  · exact this

set_option maxRecDepth 100000 in
set_option maxHeartbeats 1000000 in
theorem specSplitLines_any (s : ByteArray) (w : World) (hs : s.size ≤ 1099511627776) :
    Calls Try.prog 18 #[.string s] w fun e w' => ∃ v, e = .returned v ∧ w'.ownsRow w.heap.size 9 1 v (linesB s).length ((linesB s).map .string) ∧ Below w.heap.size w w' := by
  obtain ⟨ys, x, hx⟩ : ∃ ys x, splitB s nlB = ys ++ [x] := ⟨_, _, rfl⟩
  have hlen := (splitB_len s nlB).2
  rw [hx] at hlen
  simp at hlen
  have HX := Lib.hid hx
  clear hx
  go_enter Try.func18, Try.ntmps18
  go_wp2_with fail
  refine (specSplitAny_any s nlB _ hs (by decide)).mono ?_
  rintro e w1 ⟨v, rfl, o1, b1⟩
  rw [HX.out] at o1
  simp only [List.map_append, List.map_cons, List.map_nil, List.length_append, List.length_cons, List.length_nil, Nat.zero_add] at o1
  rcases o1.2 with ⟨_, hn⟩ | ⟨g, cap, cur, rfl, hg, hh, hnc, hcm, hcs, htake⟩
  · omega
  have hc : w1.cell? ⟨g, ys.length, none⟩ = some (.string x) := by
    rw [o1.cellAt ys.length (by omega)]; simp
  have hgl : g < w1.heap.size := (o1.lt g rfl).2
  clear hh hcs htake
  unfold maxLen at hcm
  have P1 := Lib.hid (ownsRow_pop (by simp) o1)
  have O1 := Lib.hid o1
  clear o1
  by_cases hxe : x = ⟨#[]⟩
  · subst hxe
    have HL := Lib.hid (lines_cut HX.out)
    go_wp2
    go_ret
    exact ⟨_, rfl, by rw [HL.out]; exact P1.out, b1⟩
  · have HL := Lib.hid (lines_keep HX.out hxe)
    have hne := str_some hxe
    go_wp2
    go_ret
    exact ⟨_, rfl, by rw [HL.out]; simp only [List.map_append, List.map_cons, List.map_nil, List.length_append, List.length_cons, List.length_nil, Nat.zero_add]; exact O1.out, b1⟩
set_option maxRecDepth 100000 in
set_option maxHeartbeats 1000000 in
theorem implSplitLines_any (s : ByteArray) (w : World) (hs : s.size ≤ 1099511627776) :
    Calls Try.prog 19 #[.string s] w fun e w' => ∃ v, e = .returned v ∧ w'.ownsRow w.heap.size 9 1 v (linesB s).length ((linesB s).map .string) ∧ Below w.heap.size w w' := by
  obtain ⟨ys, x, hx⟩ : ∃ ys x, splitB s nlB = ys ++ [x] := ⟨_, _, rfl⟩
  have hlen := (splitB_len s nlB).2
  rw [hx] at hlen
  simp at hlen
  have HX := Lib.hid hx
  clear hx
  go_enter Try.func19, Try.ntmps19
  go_wp2_with fail
  refine (implSplitAny_any s nlB _ hs).mono ?_
  rintro e w1 ⟨v, rfl, o1, b1⟩
  rw [HX.out] at o1
  simp only [List.map_append, List.map_cons, List.map_nil, List.length_append, List.length_cons, List.length_nil, Nat.zero_add] at o1
  rcases o1.2 with ⟨_, hn⟩ | ⟨g, cap, cur, rfl, hg, hh, hnc, hcm, hcs, htake⟩
  · omega
  have hc : w1.cell? ⟨g, ys.length, none⟩ = some (.string x) := by
    rw [o1.cellAt ys.length (by omega)]; simp
  have hgl : g < w1.heap.size := (o1.lt g rfl).2
  clear hh hcs htake
  unfold maxLen at hcm
  have P1 := Lib.hid (ownsRow_pop (by simp) o1)
  have O1 := Lib.hid o1
  clear o1
  by_cases hxe : x = ⟨#[]⟩
  · subst hxe
    have HL := Lib.hid (lines_cut HX.out)
    go_wp2
    go_ret
    exact ⟨_, rfl, by rw [HL.out]; exact P1.out, b1⟩
  · have HL := Lib.hid (lines_keep HX.out hxe)
    have hne := str_some hxe
    go_wp2
    go_ret
    exact ⟨_, rfl, by rw [HL.out]; simp only [List.map_append, List.map_cons, List.map_nil, List.length_append, List.length_cons, List.length_nil, Nat.zero_add]; exact O1.out, b1⟩
set_option maxRecDepth 100000 in
set_option maxHeartbeats 2000000 in
theorem walkFnExactSplitLines (s : ByteArray) (w : World) (hs : s.size ≤ maxLen) :
    Calls Try.prog 6 #[.string s] w fun e w' => e = .returned (.bool true) ∧ Below w.heap.size w w' := by
  have hs' := hs
  unfold maxLen at hs'
  by_cases hbig : (1048576 : Int) < s.size
  · go_enter Try.func6, Try.ntmps6
    go_wp2
    go_ret
    exact ⟨rfl, Below.refl _ _⟩
  have hn := lines_len s
  generalize hsb : linesB s = xs at hn
  have HSB := Lib.hid hsb
  clear hsb
  go_enter Try.func6, Try.ntmps6
  go_wp2_with fail
  refine (specSplitLines_any s _ (by omega)).mono ?_
  rintro e w1 ⟨v0, rfl, o1, b1⟩
  rw [HSB.out] at o1
  have L1 := Lib.hid (fun k hk => (o1.lt k hk).2)
  have O1 := Lib.hid o1; clear o1
  go_wp2_with fail
  refine (implSplitLines_any s _ (by omega)).mono ?_
  rintro e w2 ⟨v1, rfl, o2, b2⟩
  rw [HSB.out] at o2
  have O1 := Lib.hid (own_below O1.out b2 (Nat.le_refl _))
  have O2 := Lib.hid o2; clear o2
  have B2 := Lib.hid (b1.trans (b2.mono b1.size)); clear b2
  go_wp2_with fail
  refine (eqS_any xs xs _ _ _ (own_rd O2.out (by unfold maxLen; omega)) (own_rd O1.out (by unfold maxLen; omega))).mono ?_
  rintro e w3 ⟨rfl, n3, rfl⟩
  rw [decide_eq_true rfl]
  go_wp2_with fail
  refine (markS_any 1 xs.length w1.heap.size _ _ _ (by exact O2.out) (by omega) (by omega)).mono ?_
  rintro e w4 ⟨rfl, o4, g4⟩
  have O1 := Lib.hid (own_grown (own_below O1.out (below_drewN' _ n3) (Nat.le_refl _)) g4 (fun k hk => .inr (fun e => by
    have h1 := L1.out k e
    have h2 := (O2.out.lt k hk).1
    omega)))
  have B4 := Lib.hid ((below_drewN B2.out n3).grown g4 B2.out.size (fun i hi => Nat.le_trans b1.size (O2.out.lt i hi).1))
  have O2 := Lib.hid o4; clear o4 g4
  go_wp2_with fail
  refine (heldS_any 1 xs.length _ _ (own_rd O2.out (by unfold maxLen; omega)) (by omega) (by omega)).mono ?_
  rintro e w5 ⟨rfl, b5⟩
  have O1 := Lib.hid (own_below O1.out b5 (Nat.le_refl _))
  have O2 := Lib.hid (own_below O2.out b5 (Nat.le_refl _))
  have B5 := Lib.hid (B4.out.trans (b5.mono B4.out.size)); clear b5
  go_wp2_with fail
  refine (implSplitLines_any s _ (by omega)).mono ?_
  rintro e w6 ⟨v2, rfl, o6, b6⟩
  rw [HSB.out] at o6
  have O1 := Lib.hid (own_below O1.out b6 (Nat.le_refl _))
  have O2 := Lib.hid (own_below O2.out b6 (Nat.le_refl _))
  have O6 := Lib.hid o6; clear o6
  have B6 := Lib.hid (B5.out.trans (b6.mono B5.out.size)); clear b6
  go_wp2_with fail
  refine (eqS_any xs xs _ _ _ (own_rd O6.out (by unfold maxLen; omega)) (own_rd O1.out (by unfold maxLen; omega))).mono ?_
  rintro e w7 ⟨rfl, n7, rfl⟩
  rw [decide_eq_true rfl]
  go_wp2_with fail
  refine (heldS_any 1 xs.length _ _ (own_rd (by exact O2.out) (by unfold maxLen; omega)) (by omega) (by omega)).mono ?_
  rintro e w8 ⟨rfl, b8⟩
  have B8 := Lib.hid ((below_drewN B6.out n7).trans (b8.mono B6.out.size)); clear b8
  go_wp2
  go_ret
  exact ⟨rfl, B8.out⟩
end Go.Proofs.Ytllbhbilgmjbjaa
