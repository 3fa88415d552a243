/- DERIVED. CONTRACTS of chapter 14: NewClause of the program. -/
import Derived.Test.YtgbpomakomddjabGreatDoorClU
import Derived.Test.YtgbpomakomddjabGreatDoorCpT
import Derived.Test.YtgbpomakomddjabGreatDoorConT
import Derived.Test.YtgbpomakomddjabGreatDoorShelfS
namespace Go.Proofs.YtgbpomakomddjabGreatDoor
open Go.RowKit Go.Shelf Go.Sort
set_option linter.unusedVariables false

theorem enters_compare : ∀ args w, (callFunc 93 args).run Tryz.prog w = .ok (.enter 93 args) w := enters_of Tryz.func93 (by kernel_rfl) rfl
theorem sortT_any (l : List Lt) (g c B : Nat) (w : World) (ho : w.ownsRow B 55 3 (.slice (some ⟨g, 0, none⟩) l.length c) l.length (cells3 l)) (hlen : l.length ≤ 1073741824) :
    Calls Tryz.prog 92 #[.slice (some ⟨g, 0, none⟩) l.length c, .func (.func 93) #[] #[]] w fun e w' => e = .returned (.tuple #[]) ∧ w'.ownsRow B 55 3 (.slice (some ⟨g, 0, none⟩) l.length c) l.length (cells3 (sortL l)) ∧ Wr [g] w w' := by
  have hlt := (ho.lt g rfl).2
  refine (AnyQ.slices_SortFunc_total Tryz.laysSortFunc_92 3 Tryz.isAgg55 Tryz.sizeOf55 encLt encLt_len encLt_one cmpLt swoLt 93 #[] g 0 c l.toArray w enters_compare (compare_lays g 0 l.toArray.size w) (holdsK3 ho) hlt (by simp; omega) totLt).mono ?_
  rintro e w' ⟨rfl, n, os, rfl⟩
  have h := sorted3 (q := n) (os := os) ho (s := sortL l) (sortL_len l)
  exact ⟨rfl, h.1, h.2⟩
theorem sortNil_any (c : Nat) (w : World) : Calls Tryz.prog 92 #[.slice none 0 c, .func (.func 93) #[] #[]] w fun e w' => e = .returned (.tuple #[]) ∧ w = w' :=
  (AnyF.slices_SortFunc_none Tryz.laysSortFunc_92 none c (.func (.func 93) #[] #[]) w).mono fun e w' h => ⟨h.1, h.2.symm⟩
set_option maxRecDepth 100000 in
set_option maxHeartbeats 8000000 in
theorem implNewClause_any (l : List Lt) (v : Value) (w : World) {B0 : Nat} {G0 : List Nat} (ho : (trLts l).own w B0 v G0) (hlen : l.length ≤ 1048576) :
    Calls Tryz.prog 59 #[v] w fun e w' => ∃ v' F, e = .returned v' ∧ (trLts (newL l)).own w' w.heap.size v' F ∧ F.Nodup ∧ Below w.heap.size w w' := by
  have OR := Lib.hid (ownT_row ho)
  have HU := Lib.hid (uniq_sort l)
  have HS := Lib.hid (sortL_len l)
  have HC := Lib.hid (cloneT_any l v w (ownT_row ho) (by omega))
  obtain ⟨A, c, rfl⟩ := rdT_slice (Tr.own_rd _ _ _ ho)
  clear ho
  go_enter Tryz.func59, Tryz.ntmps59
  go_wp2_with fail
  refine HC.out.mono ?_
  rintro e w1 ⟨v1, rfl, o1, b1⟩
  rcases ownsT_cases o1 with ⟨rfl, h0⟩ | ⟨g, c1, rfl, hg1, hg2, hnc⟩
  · have hz : l = [] := List.eq_nil_of_length_eq_zero h0
    have HZ := Lib.hid hz
    have B1 := Lib.hid b1
    clear o1 b1 h0 hz HC OR
    go_wp2_with fail
    refine (sortNil_any 0 _).mono ?_
    rintro e w2 ⟨rfl, rfl⟩
    go_wp2_with fail
    refine (compactNil_any _ 0).mono ?_
    rintro e w3 ⟨rfl, rfl⟩
    have P := row_ownT (l := []) (World.ownsRow_nil w1 w.heap.size 55 3)
    go_wp2
    go_ret
    rw [HZ.out]
    first | exact ⟨_, _, rfl, P.1, P.2, B1.out⟩ | exact ⟨_, P.1, P.2, B1.out⟩ | exact ⟨_, rfl, _, P.1, P.2, B1.out⟩
  · have O1 := Lib.hid o1
    have B1 := Lib.hid b1
    clear o1 b1 HC OR
    go_wp2_with fail
    refine (sortT_any l g c1 w.heap.size _ O1.out (by omega)).mono ?_
    rintro e w2 ⟨rfl, o2, h2⟩
    have B2 := Lib.hid (h2.below B1.out B1.out.size (by simpa using hg1))
    rw [← HS.out] at o2
    have O2 := Lib.hid o2
    have CT := Lib.hid (compactT_any (sortL l) g c1 w.heap.size w2 o2 (by rw [HS.out]; omega) (by rw [HS.out]; omega))
    rw [HS.out, HU.out] at CT
    clear o2 h2 O1 B1
    go_wp2_with fail
    refine CT.out.mono ?_
    rintro e w3 ⟨rfl, o3, h3⟩
    have B3 := Lib.hid (h3.below B2.out B2.out.size (by simpa using hg1))
    have P := row_ownT o3
    clear o3 h3 CT O2
    go_wp2
    go_ret
    first | exact ⟨_, _, rfl, P.1, P.2, B3.out⟩ | exact ⟨_, P.1, P.2, B3.out⟩ | exact ⟨_, rfl, _, P.1, P.2, B3.out⟩
end Go.Proofs.YtgbpomakomddjabGreatDoor
