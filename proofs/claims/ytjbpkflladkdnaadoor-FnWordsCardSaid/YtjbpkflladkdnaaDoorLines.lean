/- DERIVED. CONTRACTS: spec.SplitLines, impl.SplitLines; the walk of the law FnExactSplitLines. -/
import Derived.Test.YtjbpkflladkdnaaDoorSplit
import Derived.Test.YtjbpkflladkdnaaDoorStrS
import Derived.Test.YtjbpkflladkdnaaDoorMark
import Derived.WalkSmall
namespace Go.Proofs.YtjbpkflladkdnaaDoor
open Go.RowKit

def nlB : ByteArray := ⟨#[10]⟩
def linesB (s : ByteArray) : List ByteArray := if (splitB s nlB).getLast? = some ⟨#[]⟩ then (splitB s nlB).dropLast else splitB s nlB

theorem lines_cut {s : ByteArray} {ys : List ByteArray} (h : splitB s nlB = ys ++ [⟨#[]⟩]) : linesB s = ys := by
  unfold linesB; rw [h]; simp
theorem lines_keep {s x : ByteArray} {ys : List ByteArray} (h : splitB s nlB = ys ++ [x]) (hx : x ≠ ⟨#[]⟩) : linesB s = ys ++ [x] := by
  unfold linesB; rw [h]; simp [hx]
theorem lines_len (s : ByteArray) : (linesB s).length ≤ s.size + 1 := by
  have := (splitB_len s nlB).2
  unfold linesB; split
  · simp; omega
  · exact this

set_option maxRecDepth 100000 in
set_option maxHeartbeats 1000000 in
theorem implSplitLines_any (s : ByteArray) (w : World) (hs : s.size ≤ 1099511627776) :
    Calls Tryd.prog 14 #[.string s] w fun e w' => ∃ v, e = .returned v ∧ w'.ownsRow w.heap.size 9 1 v (linesB s).length ((linesB s).map .string) ∧ Below w.heap.size w w' := by
  obtain ⟨ys, x, hx⟩ : ∃ ys x, splitB s nlB = ys ++ [x] := ⟨_, _, rfl⟩
  have hlen := (splitB_len s nlB).2
  rw [hx] at hlen
  simp at hlen
  have HX := Lib.hid hx
  clear hx
  go_enter Tryd.func14, Tryd.ntmps14
  go_wp2_with fail
  refine (implSplitAny_any s nlB _ hs).mono ?_
  rintro e w1 ⟨v, rfl, o1, b1⟩
  rw [HX.out] at o1
  simp only [List.map_append, List.map_cons, List.map_nil, List.length_append, List.length_cons, List.length_nil, Nat.zero_add] at o1
  rcases o1.2 with ⟨_, hn⟩ | ⟨g, cap, cur, rfl, hg, hh, hnc, hcm, hcs, htake⟩
  · omega
  have hc : w1.cell? ⟨g, ys.length, none⟩ = some (.string x) := by
    rw [o1.cellAt ys.length (by omega)]; simp
  have hgl : g < w1.heap.size := (o1.lt g rfl).2
  clear hh hcs htake
  unfold maxLen at hcm
  have P1 := Lib.hid (ownsRow_pop (by simp) o1)
  have O1 := Lib.hid o1
  clear o1
  by_cases hxe : x = ⟨#[]⟩
  · subst hxe
    have HL := Lib.hid (lines_cut HX.out)
    go_wp2
    go_ret
    exact ⟨_, rfl, by rw [HL.out]; exact P1.out, b1⟩
  · have HL := Lib.hid (lines_keep HX.out hxe)
    have hne := str_some hxe
    go_wp2
    go_ret
    exact ⟨_, rfl, by rw [HL.out]; simp only [List.map_append, List.map_cons, List.map_nil, List.length_append, List.length_cons, List.length_nil, Nat.zero_add]; exact O1.out, b1⟩
end Go.Proofs.YtjbpkflladkdnaaDoor
