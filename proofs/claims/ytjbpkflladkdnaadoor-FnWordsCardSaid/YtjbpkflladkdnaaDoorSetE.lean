/- DERIVED. CONTRACTS: impl.SetHas, SetOf, SetAdd, SetUnion, SetIntersection, SetDifference, SetSubset, SetEqual. -/
import Derived.Test.YtjbpkflladkdnaaDoorOrd
namespace Go.Proofs.YtjbpkflladkdnaaDoor
open Go.RowKit

theorem implEqual_any (xs ys : List Int) (v u : Value) (w : World) (hr : Rd w v (xs.map (.int .i64))) (hu : Rd w u (ys.map (.int .i64))) :
    Calls Tryd.prog 10 #[v, u] w fun e w' => e = .returned (.bool (eqB xs ys)) ∧ Below w.heap.size w w' := by
  obtain ⟨hl, A, c, rfl, HR⟩ := rdI hr
  obtain ⟨hl2, B, d, rfl, HR2⟩ := rdI hu
  unfold maxLen at hl hl2
  have HC : Calls Tryd.prog 23 #[.slice A xs.length c, .slice B ys.length d] w fun e w' => e = .returned (.bool (eqB xs ys)) ∧ Below w.heap.size w w' := by
    by_cases hne : xs.length = ys.length
    · by_cases h0 : xs = []
      · subst h0
        have hy : ys = [] := List.eq_nil_of_length_eq_zero hne.symm
        subst hy
        refine (Tryd.slices_Equal_int_empty A B c 0 d w (by omega)).mono ?_
        rintro e w1 ⟨rfl, rfl⟩
        exact ⟨rfl, Below.refl _ _⟩
      · obtain ⟨b, o, rfl, hb, hc⟩ := HR 0 (List.length_pos_iff.2 h0)
        obtain ⟨b2, o2, rfl, hb2, hc2⟩ := HR2 0 (by have := List.length_pos_iff.2 h0; omega)
        refine (Tryd.slices_Equal_int b o xs.length c b2 o2 ys.length d xs ys w (Nat.le_refl _) (Nat.le_refl _) (by omega) (by omega) (fun j hj => by rw [hc j hj]; simp [List.getD, List.getElem?_eq_getElem hj]) (fun j hj => by rw [hc2 j hj]; simp [List.getD, List.getElem?_eq_getElem hj])).mono ?_
        rintro e w1 ⟨rfl, n, rfl⟩
        rw [List.take_length, List.take_length]
        refine ⟨ret_b ?_, below_drewN' w n⟩
        unfold eqB
        rw [Bool.eq_iff_iff]; simp
    · refine (Tryd.slices_Equal_int_lens A B xs.length c ys.length d w hne).mono ?_
      rintro e w1 ⟨rfl, rfl⟩
      exact ⟨ret_b (show eqB xs ys = false from decide_eq_false (fun e => hne (by rw [e]))), Below.refl _ _⟩
  clear hr HR hu HR2
  generalize eqB xs ys = r at HC
  go_enter Tryd.func10, Tryd.ntmps10
  go_wp2_with fail
  refine HC.mono ?_
  rintro e w1 ⟨rfl, hb⟩
  go_wp2
  go_ret
  exact ⟨rfl, hb⟩

theorem rd_cells (w : World) (us : List Value) (t : TypeId) (hl : us.length ≤ 1000000) : Rd (w.alloc (.cells us.toArray t)) (.slice (some ⟨w.heap.size, 0, none⟩) us.length us.length) us :=
  ⟨by unfold maxLen; omega, _, _, rfl, .inr ⟨w.heap.size, 0, rfl, by simp, fun j hj => by
    rw [World.cell?_alloc_at _ _ _ _ rfl]
    simp [List.getElem?_eq_getElem hj]⟩⟩

theorem rd_sl {w : World} {v : Value} {xs : List Int} (h : Rd w v (xs.map (.int .i64))) : ∃ A c, v = .slice A xs.length c := by
  obtain ⟨_, A, c, rfl, _⟩ := h
  exact ⟨A, c, by rw [List.length_map]⟩

end Go.Proofs.YtjbpkflladkdnaaDoor
