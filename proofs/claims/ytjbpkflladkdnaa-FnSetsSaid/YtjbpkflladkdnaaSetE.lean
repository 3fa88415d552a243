/- DERIVED. CONTRACTS: impl.SetHas, SetOf, SetAdd, SetUnion, SetIntersection, SetDifference, SetSubset, SetEqual. -/
import Derived.Test.YtjbpkflladkdnaaOrd
namespace Go.Proofs.Ytjbpkflladkdnaa
open Go.RowKit

theorem implHas_any (xs : List Int) (x : Int) (v : Value) (w : World) (hr : Rd w v (xs.map (.int .i64))) :
    Calls Try.prog 24 #[v, .int .i64 x] w fun e w' => e = .returned (.bool (hasB xs x)) ∧ w' = w := by
  obtain ⟨hl, A, c, rfl, HR⟩ := rdI hr
  unfold maxLen at hl
  have HC : Calls Try.prog 51 #[.slice A xs.length c, .int .i64 x] w fun e w' => e = .returned (.bool (hasB xs x)) ∧ w' = w := by
    by_cases h0 : xs = []
    · subst h0
      exact Try.slices_Contains_int_empty A c x w
    · obtain ⟨b, o, rfl, hb, hc⟩ := HR 0 (List.length_pos_iff.2 h0)
      have HB := Try.slices_Contains_int b o xs.length c xs x w (Nat.le_refl _) (by omega) (fun j hj => by rw [hc j hj]; simp [List.getD, List.getElem?_eq_getElem hj])
      rw [List.take_length] at HB
      exact HB
  clear hr HR
  generalize hasB xs x = r at HC
  go_enter Try.func24, Try.ntmps24
  go_wp2_with fail
  refine HC.mono ?_
  rintro e w1 ⟨rfl, rfl⟩
  go_wp2
  go_ret
  exact ⟨rfl, by trivial⟩

theorem implEqual_any (xs ys : List Int) (v u : Value) (w : World) (hr : Rd w v (xs.map (.int .i64))) (hu : Rd w u (ys.map (.int .i64))) :
    Calls Try.prog 22 #[v, u] w fun e w' => e = .returned (.bool (eqB xs ys)) ∧ Below w.heap.size w w' := by
  obtain ⟨hl, A, c, rfl, HR⟩ := rdI hr
  obtain ⟨hl2, B, d, rfl, HR2⟩ := rdI hu
  unfold maxLen at hl hl2
  have HC : Calls Try.prog 50 #[.slice A xs.length c, .slice B ys.length d] w fun e w' => e = .returned (.bool (eqB xs ys)) ∧ Below w.heap.size w w' := by
    by_cases hne : xs.length = ys.length
    · by_cases h0 : xs = []
      · subst h0
        have hy : ys = [] := List.eq_nil_of_length_eq_zero hne.symm
        subst hy
        refine (Try.slices_Equal_int_empty A B c 0 d w (by omega)).mono ?_
        rintro e w1 ⟨rfl, rfl⟩
        exact ⟨rfl, Below.refl _ _⟩
      · obtain ⟨b, o, rfl, hb, hc⟩ := HR 0 (List.length_pos_iff.2 h0)
        obtain ⟨b2, o2, rfl, hb2, hc2⟩ := HR2 0 (by have := List.length_pos_iff.2 h0; omega)
        refine (Try.slices_Equal_int b o xs.length c b2 o2 ys.length d xs ys w (Nat.le_refl _) (Nat.le_refl _) (by omega) (by omega) (fun j hj => by rw [hc j hj]; simp [List.getD, List.getElem?_eq_getElem hj]) (fun j hj => by rw [hc2 j hj]; simp [List.getD, List.getElem?_eq_getElem hj])).mono ?_
        rintro e w1 ⟨rfl, n, rfl⟩
        rw [List.take_length, List.take_length]
        refine ⟨ret_b ?_, below_drewN' w n⟩
        unfold eqB
        rw [Bool.eq_iff_iff]; simp
    · refine (Try.slices_Equal_int_lens A B xs.length c ys.length d w hne).mono ?_
      rintro e w1 ⟨rfl, rfl⟩
      exact ⟨ret_b (show eqB xs ys = false from decide_eq_false (fun e => hne (by rw [e]))), Below.refl _ _⟩
  clear hr HR hu HR2
  generalize eqB xs ys = r at HC
  go_enter Try.func22, Try.ntmps22
  go_wp2_with fail
  refine HC.mono ?_
  rintro e w1 ⟨rfl, hb⟩
  go_wp2
  go_ret
  exact ⟨rfl, hb⟩

theorem rd_cells (w : World) (us : List Value) (t : TypeId) (hl : us.length ≤ 1000000) : Rd (w.alloc (.cells us.toArray t)) (.slice (some ⟨w.heap.size, 0, none⟩) us.length us.length) us :=
  ⟨by unfold maxLen; omega, _, _, rfl, .inr ⟨w.heap.size, 0, rfl, by simp, fun j hj => by
    rw [World.cell?_alloc_at _ _ _ _ rfl]
    simp [List.getElem?_eq_getElem hj]⟩⟩

theorem rd_sl {w : World} {v : Value} {xs : List Int} (h : Rd w v (xs.map (.int .i64))) : ∃ A c, v = .slice A xs.length c := by
  obtain ⟨_, A, c, rfl, _⟩ := h
  exact ⟨A, c, by rw [List.length_map]⟩

/-- orderedOf over one list. -/
theorem ord1 (xs : List Int) (v : Value) (t : TypeId) (w : World) (hr : Rd w v (xs.map (.int .i64))) (hn : NilOk v) (hlen : xs.length ≤ 1073741824) :
    Calls Try.prog 45 #[.slice (some ⟨w.heap.size, 0, none⟩) 1 1] (w.alloc (.cells #[v] t)) fun e w' => ∃ v', e = .returned v' ∧ w'.ownsRow w.heap.size 3 1 v' (setB xs).length ((setB xs).map (.int .i64)) ∧ Below w.heap.size w w' := by
  have he : catB [xs] = xs := by simp [catB]
  have H := orderedOf_any [v] [xs] (.slice (some ⟨w.heap.size, 0, none⟩) 1 1) (w.alloc (.cells #[v] t)) (rd_cells w [v] t (by simp)) rfl (by simp) (fun i h => by
    have hi : i = 0 := by simpa using h
    subst hi
    exact ⟨rd_alloc hr _, hn⟩) (by rw [he]; exact hlen)
  rw [he] at H
  refine H.mono ?_
  rintro e w1 ⟨v', rfl, ho, hb⟩
  exact ⟨v', rfl, own_base ho (by simp), ((Below.refl _ _).alloc (Nat.le_refl _) _).trans (hb.mono (by simp))⟩
theorem ord2 (xs ys : List Int) (v u : Value) (t : TypeId) (w : World) (hr : Rd w v (xs.map (.int .i64))) (hn : NilOk v) (hu : Rd w u (ys.map (.int .i64))) (hn2 : NilOk u) (hlen : xs.length + ys.length ≤ 1073741824) :
    Calls Try.prog 45 #[.slice (some ⟨w.heap.size, 0, none⟩) 2 2] (w.alloc (.cells #[v, u] t)) fun e w' => ∃ v', e = .returned v' ∧ w'.ownsRow w.heap.size 3 1 v' (setB (xs ++ ys)).length ((setB (xs ++ ys)).map (.int .i64)) ∧ Below w.heap.size w w' := by
  have he : catB [xs, ys] = xs ++ ys := by simp [catB]
  have H := orderedOf_any [v, u] [xs, ys] (.slice (some ⟨w.heap.size, 0, none⟩) 2 2) (w.alloc (.cells #[v, u] t)) (rd_cells w [v, u] t (by simp)) rfl (by simp) (fun i h => by
    have hi : i = 0 ∨ i = 1 := by simp at h; omega
    rcases hi with hi | hi
    · subst hi; exact ⟨rd_alloc hr _, hn⟩
    · subst hi; exact ⟨rd_alloc hu _, hn2⟩) (by rw [he, List.length_append]; exact hlen)
  rw [he] at H
  refine H.mono ?_
  rintro e w1 ⟨v', rfl, ho, hb⟩
  exact ⟨v', rfl, own_base ho (by simp), ((Below.refl _ _).alloc (Nat.le_refl _) _).trans (hb.mono (by simp))⟩

theorem implSetOf_any (xs : List Int) (v : Value) (w : World) (hr : Rd w v (xs.map (.int .i64))) (hn : NilOk v) (hlen : xs.length ≤ 1073741824) :
    Calls Try.prog 23 #[v] w fun e w' => ∃ v', e = .returned v' ∧ w'.ownsRow w.heap.size 3 1 v' (setB xs).length ((setB xs).map (.int .i64)) ∧ Below w.heap.size w w' := by
  obtain ⟨A, c, rfl⟩ := rd_sl hr
  have H := fun t => ord1 xs _ t w hr hn hlen
  clear hr hn
  generalize setB xs = ys at H
  go_enter Try.func23, Try.ntmps23
  go_wp2_with fail
  refine (H _).mono ?_
  rintro e w1 ⟨v', rfl, ho, hb⟩
  have R := Lib.hid (And.intro ho hb)
  clear ho hb H
  go_wp2
  go_ret
  exact ⟨_, rfl, R.out.1, R.out.2⟩

theorem implUnion_any (xs ys : List Int) (v u : Value) (w : World) (hr : Rd w v (xs.map (.int .i64))) (hn : NilOk v) (hu : Rd w u (ys.map (.int .i64))) (hn2 : NilOk u) (hlen : xs.length + ys.length ≤ 1073741824) :
    Calls Try.prog 16 #[v, u] w fun e w' => ∃ v', e = .returned v' ∧ w'.ownsRow w.heap.size 3 1 v' (setB (xs ++ ys)).length ((setB (xs ++ ys)).map (.int .i64)) ∧ Below w.heap.size w w' := by
  obtain ⟨A, c, rfl⟩ := rd_sl hr
  obtain ⟨B, d, rfl⟩ := rd_sl hu
  have H := fun t => ord2 xs ys _ _ t w hr hn hu hn2 hlen
  clear hr hn hu hn2
  generalize setB (xs ++ ys) = zs at H
  go_enter Try.func16, Try.ntmps16
  go_wp2_with fail
  refine (H _).mono ?_
  rintro e w1 ⟨v', rfl, ho, hb⟩
  have R := Lib.hid (And.intro ho hb)
  clear ho hb H
  go_wp2
  go_ret
  exact ⟨_, rfl, R.out.1, R.out.2⟩

theorem implAdd_any (xs : List Int) (n : Int) (v : Value) (w : World) (hr : Rd w v (xs.map (.int .i64))) (hn : NilOk v) (hlen : xs.length ≤ 1073741823) :
    Calls Try.prog 25 #[v, .int .i64 n] w fun e w' => ∃ v', e = .returned v' ∧ w'.ownsRow w.heap.size 3 1 v' (putB (setB xs) n).length ((putB (setB xs) n).map (.int .i64)) ∧ Below w.heap.size w w' := by
  obtain ⟨A, c, rfl⟩ := rd_sl hr
  have H : ∀ t0 t, Calls Try.prog 45 #[.slice (some ⟨w.heap.size + 1, 0, none⟩) 2 2] ((w.alloc (.cells #[.int .i64 n] t0)).alloc (.cells #[.slice A xs.length c, .slice (some ⟨w.heap.size, 0, none⟩) 1 1] t)) fun e w' => ∃ v', e = .returned v' ∧ w'.ownsRow w.heap.size 3 1 v' (putB (setB xs) n).length ((putB (setB xs) n).map (.int .i64)) ∧ Below w.heap.size w w' := fun t0 t => by
    have h := ord2 xs [n] _ (.slice (some ⟨w.heap.size, 0, none⟩) 1 1) t (w.alloc (.cells #[.int .i64 n] t0)) (rd_alloc hr _) hn (rd_new w n t0) (nilOk_some _ _ _) (by rw [List.length_singleton]; omega)
    have hs : (w.alloc (.cells #[.int .i64 n] t0)).heap.size = w.heap.size + 1 := by simp
    rw [set_add, hs] at h
    refine h.mono ?_
    rintro e w1 ⟨v', rfl, ho, hb⟩
    exact ⟨v', rfl, own_base ho (by omega), ((Below.refl _ w).alloc (Nat.le_refl _) _).trans (hb.mono (by omega))⟩
  clear hr hn
  generalize putB (setB xs) n = zs at H
  go_enter Try.func25, Try.ntmps25
  go_wp2_with fail
  refine (H _ _).mono ?_
  rintro e w1 ⟨v', rfl, ho, hb⟩
  have R := Lib.hid (And.intro ho hb)
  clear ho hb H
  go_wp2
  go_ret
  exact ⟨_, rfl, R.out.1, R.out.2⟩

theorem implInter_any (xs ys : List Int) (v u : Value) (w : World) (hr : Rd w v (xs.map (.int .i64))) (hn : NilOk v) (hu : Rd w u (ys.map (.int .i64))) (hn2 : NilOk u) (hlen : xs.length ≤ 1073741823) (hlen2 : ys.length ≤ 1073741823) :
    Calls Try.prog 17 #[v, u] w fun e w' => ∃ v', e = .returned v' ∧ w'.ownsRow w.heap.size 3 1 v' (interB xs ys).length ((interB xs ys).map (.int .i64)) ∧ Below w.heap.size w w' := by
  obtain ⟨A, c, rfl⟩ := rd_sl hr
  obtain ⟨B, d, rfl⟩ := rd_sl hu
  have H1 := Lib.hid (fun t => ord1 xs _ t w hr hn (by omega))
  have HU := Lib.hid (And.intro hu hn2)
  clear hr hn hu hn2
  go_enter Try.func17, Try.ntmps17
  go_wp2_with fail
  refine (H1.out _).mono ?_
  rintro e w1 ⟨v1, rfl, ho1, hb1⟩
  have O1 := Lib.hid (And.intro ho1 hb1)
  clear ho1 hb1 H1
  go_wp2_with fail
  refine (ord1 ys _ _ w1 (HU.out.1.below O1.out.2 (Nat.le_refl _)) HU.out.2 (by omega)).mono ?_
  rintro e w2 ⟨v2, rfl, ho2, hb2⟩
  have O2 := Lib.hid (And.intro ho2 (And.intro (own_below O1.out.1 hb2 (Nat.le_refl _)) (O1.out.2.trans (hb2.mono O1.out.2.size))))
  have hl1 := len_setB xs
  have hl2 := len_setB ys
  clear ho2 hb2 O1
  go_wp2_with fail
  refine (implCommon_any (setB xs) (setB ys) _ _ _ (own_rd O2.out.2.1 (by unfold maxLen; omega)) (own_rd O2.out.1 (by unfold maxLen; omega)) (by omega) (asc_le (asc_setB ys)) (nilOk_own O2.out.1) (by omega)).mono ?_
  rintro e w3 ⟨v3, rfl, ho3, hb3⟩
  rw [inter_pick2] at ho3
  have R := Lib.hid (And.intro (own_base ho3 O2.out.2.2.size) (O2.out.2.2.trans (hb3.mono O2.out.2.2.size)))
  clear ho3 hb3
  go_wp2
  go_ret
  exact ⟨_, rfl, R.out.1, R.out.2⟩

theorem implDiff_any (xs ys : List Int) (v u : Value) (w : World) (hr : Rd w v (xs.map (.int .i64))) (hn : NilOk v) (hu : Rd w u (ys.map (.int .i64))) (hn2 : NilOk u) (hlen : xs.length ≤ 1073741823) (hlen2 : ys.length ≤ 1073741823) :
    Calls Try.prog 18 #[v, u] w fun e w' => ∃ v', e = .returned v' ∧ w'.ownsRow w.heap.size 3 1 v' (diffB xs ys).length ((diffB xs ys).map (.int .i64)) ∧ Below w.heap.size w w' := by
  obtain ⟨A, c, rfl⟩ := rd_sl hr
  obtain ⟨B, d, rfl⟩ := rd_sl hu
  have H1 := Lib.hid (fun t => ord1 xs _ t w hr hn (by omega))
  have HU := Lib.hid (And.intro hu hn2)
  clear hr hn hu hn2
  go_enter Try.func18, Try.ntmps18
  go_wp2_with fail
  refine (H1.out _).mono ?_
  rintro e w1 ⟨v1, rfl, ho1, hb1⟩
  have O1 := Lib.hid (And.intro ho1 hb1)
  clear ho1 hb1 H1
  go_wp2_with fail
  refine (ord1 ys _ _ w1 (HU.out.1.below O1.out.2 (Nat.le_refl _)) HU.out.2 (by omega)).mono ?_
  rintro e w2 ⟨v2, rfl, ho2, hb2⟩
  have O2 := Lib.hid (And.intro ho2 (And.intro (own_below O1.out.1 hb2 (Nat.le_refl _)) (O1.out.2.trans (hb2.mono O1.out.2.size))))
  have hl1 := len_setB xs
  have hl2 := len_setB ys
  clear ho2 hb2 O1
  go_wp2_with fail
  refine (implWithout_any (setB xs) (setB ys) _ _ _ (own_rd O2.out.2.1 (by unfold maxLen; omega)) (own_rd O2.out.1 (by unfold maxLen; omega)) (by omega) (asc_le (asc_setB ys)) (nilOk_own O2.out.1) (by omega)).mono ?_
  rintro e w3 ⟨v3, rfl, ho3, hb3⟩
  rw [diff_pick2] at ho3
  have R := Lib.hid (And.intro (own_base ho3 O2.out.2.2.size) (O2.out.2.2.trans (hb3.mono O2.out.2.2.size)))
  clear ho3 hb3
  go_wp2
  go_ret
  exact ⟨_, rfl, R.out.1, R.out.2⟩

theorem implSubset_any (xs ys : List Int) (v u : Value) (w : World) (hr : Rd w v (xs.map (.int .i64))) (hn : NilOk v) (hu : Rd w u (ys.map (.int .i64))) (hn2 : NilOk u) (hlen : xs.length ≤ 1073741823) (hlen2 : ys.length ≤ 1073741823) :
    Calls Try.prog 21 #[v, u] w fun e w' => e = .returned (.bool (subB xs ys)) ∧ Below w.heap.size w w' := by
  obtain ⟨A, c, rfl⟩ := rd_sl hr
  obtain ⟨B, d, rfl⟩ := rd_sl hu
  have H1 := Lib.hid (fun t => ord1 xs _ t w hr hn (by omega))
  have HU := Lib.hid (And.intro hu hn2)
  clear hr hn hu hn2
  go_enter Try.func21, Try.ntmps21
  go_wp2_with fail
  refine (H1.out _).mono ?_
  rintro e w1 ⟨v1, rfl, ho1, hb1⟩
  have O1 := Lib.hid (And.intro ho1 hb1)
  clear ho1 hb1 H1
  go_wp2_with fail
  refine (ord1 ys _ _ w1 (HU.out.1.below O1.out.2 (Nat.le_refl _)) HU.out.2 (by omega)).mono ?_
  rintro e w2 ⟨v2, rfl, ho2, hb2⟩
  have O2 := Lib.hid (And.intro ho2 (And.intro (own_below O1.out.1 hb2 (Nat.le_refl _)) (O1.out.2.trans (hb2.mono O1.out.2.size))))
  have hl1 := len_setB xs
  have hl2 := len_setB ys
  clear ho2 hb2 O1
  go_wp2_with fail
  refine (implWithout_any (setB xs) (setB ys) _ _ _ (own_rd O2.out.2.1 (by unfold maxLen; omega)) (own_rd O2.out.1 (by unfold maxLen; omega)) (by omega) (asc_le (asc_setB ys)) (nilOk_own O2.out.1) (by omega)).mono ?_
  rintro e w3 ⟨v3, rfl, ho3, hb3⟩
  rw [diff_pick2] at ho3
  have R := Lib.hid (O2.out.2.2.trans (hb3.mono O2.out.2.2.size))
  have HS := Lib.hid (sub_eq xs ys)
  have hl3 : (diffB xs ys).length ≤ xs.length := Nat.le_trans (len_setB _) (List.length_filter_le _ _)
  rcases ho3.2 with ⟨rfl, h0⟩ | ⟨g, cap, cur, rfl, _⟩
  · have HB : Hid (subB xs ys = true) := Lib.hid (by rw [HS.out, h0]; rfl)
    clear ho3 hb3 hl3 HS
    go_wp2
    go_ret
    exact ⟨ret_b HB.out, R.out⟩
  · generalize (diffB xs ys).length = q at HS hl3
    clear ho3 hb3
    by_cases hq : q = 0
    · subst hq
      have HB : Hid (subB xs ys = true) := HS
      go_wp2
      go_ret
      exact ⟨ret_b HB.out, R.out⟩
    · have HB : Hid (subB xs ys = false) := Lib.hid (by rw [HS.out]; simpa using hq)
      have hq' : ((q : Int) == 0) = false := by simpa using hq
      go_wp2
      go_ret
      exact ⟨ret_b HB.out, R.out⟩
end Go.Proofs.Ytjbpkflladkdnaa
