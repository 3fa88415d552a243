/- DERIVED. CONTRACTS: impl.SetHas, SetOf, SetAdd, SetUnion, SetIntersection, SetDifference, SetSubset, SetEqual. -/
import Derived.Test.YtnbkiobbacaaiaaGreatDoorMaths
import Derived.Test.YtnbkiobbacaaiaaGreatDoorDats
import Derived.Test.YtnbkiobbacaaiaaGreatDoorShelf
import Derived.Shelf.Spec.SlicesGrow
import Derived.Lib.OwnBridge
import Derived.Sort.Grow

section
namespace Go.Proofs.YtnbkiobbacaaiaaGreatDoor
open Go.RowKit

/-- What a slice of ints that reads as xs gives at each place. -/
theorem has_yes {xs : List Int} {k : Nat} {x : Int} (h : k < xs.length) (he : xs[k] = x) : hasB xs x = true := by
  unfold hasB
  rw [List.contains_iff_mem]; exact he ▸ List.getElem_mem h
theorem has_no {xs : List Int} {k : Nat} {x : Int} (hk : ¬ k < xs.length) (h : ∀ j, (hj : j < xs.length) → j < k → xs[j] ≠ x) : hasB xs x = false := by
  unfold hasB
  rw [← Bool.not_eq_true, List.contains_iff_mem]
  intro hm
  obtain ⟨j, hj, he⟩ := List.getElem_of_mem hm
  exact h j hj (by omega) he
set_option maxRecDepth 100000 in
set_option maxHeartbeats 1000000 in
theorem specHas_any (xs : List Int) (x : Int) (v : Value) (w : World) (hr : Rd w v (xs.map (.int .i64))) :
    Calls Tryz.prog 91 #[v, .int .i64 x] w fun e w' => e = .returned (.bool (hasB xs x)) ∧ w' = w := by
  obtain ⟨hl, A, c, rfl, HR⟩ := rdI hr
  unfold maxLen at hl
  have HA := Lib.hid HR
  clear hr HR
  go_enter Tryz.func91, Tryz.ntmps91
  go_wp2
  go_loopw [9] (fun i wr => ∃ k : Nat, k ≤ xs.length ∧ i = .int .i64 k ∧ wr = w ∧ ∀ j, (h : j < xs.length) → j < k → xs[j] ≠ x) (fun i _ => xs.length - (intOf i).toNat)
  case atStart => exact ⟨0, Nat.zero_le _, rfl, rfl, fun j _ h => absurd h (by omega)⟩
  case round =>
    obtain ⟨k, hk, rfl, rfl, hall⟩ := hrel
    by_cases hlt : k < xs.length
    · have hlt' : (k : Int) < (xs.length : Int) := by omega
      obtain ⟨b, o, rfl, hb, hc⟩ := HA.out k hlt
      have cx := hc k hlt
      clear hc
      by_cases he : xs[k] = x
      · have H := Lib.hid (has_yes hlt he)
        clear hall
        generalize xs[k] = y at cx he
        subst he
        go_wp2
        go_ret
        exact ⟨ret_b H.out, rfl⟩
      · have HN := Lib.hid (all_succ (p := fun z => z ≠ x) hlt hall he)
        clear hall
        generalize xs[k] = y at cx he
        have hb : (y == x) = false := by simpa using he
        go_wp2
        go_roundw
        case rel => exact ⟨k + 1, by omega, by go_num, by trivial, HN.out⟩
        case measure => simp [intOf]; omega
    · have hge : ¬ (k : Int) < (xs.length : Int) := by omega
      have H := Lib.hid (has_no hlt hall)
      clear hall
      go_wp2
      go_ret
      exact ⟨ret_b H.out, rfl⟩

theorem sub_no {xs ys : List Int} {k : Nat} (h : k < xs.length) (he : hasB ys xs[k] = false) : subB xs ys = false := by
  rw [← Bool.not_eq_true]
  intro hs
  have := List.all_eq_true.1 hs _ (List.getElem_mem h)
  change hasB ys xs[k] = true at this
  rw [he] at this; cases this
theorem sub_yes {xs ys : List Int} {k : Nat} (hk : ¬ k < xs.length) (h : ∀ j, (hj : j < xs.length) → j < k → hasB ys xs[j] = true) : subB xs ys = true := by
  unfold subB
  rw [List.all_eq_true]
  intro x hx
  obtain ⟨j, hj, rfl⟩ := List.getElem_of_mem hx
  exact h j hj (by omega)

theorem eq_no {xs ys : List Int} {k : Nat} (h : k < xs.length) (h2 : k < ys.length) (he : xs[k] ≠ ys[k]) : eqB xs ys = false := by
  unfold eqB
  rw [decide_eq_false_iff_not]; rintro rfl; exact he rfl

theorem ascB_badk {l : List Int} {j k : Nat} (h : j < l.length) (h0 : 0 < j) (hk : k = j - 1) (hb : l[j] ≤ l[k]'(by omega)) : ascB l = false := by
  subst hk; exact ascB_bad h h0 hb

end Go.Proofs.YtnbkiobbacaaiaaGreatDoor
end

section
namespace Go.Proofs.YtnbkiobbacaaiaaGreatDoor
open Go.RowKit

end Go.Proofs.YtnbkiobbacaaiaaGreatDoor
end

section
namespace Go.Proofs.YtnbkiobbacaaiaaGreatDoor
open Go.RowKit

theorem map_snocC (l : List Int) (x : Int) : (l ++ [x]).map (Value.int .i64) = l.map (Value.int .i64) ++ [.int .i64 x] := by simp
theorem rd_sub {w : World} {base g cap : Nat} {xs : List Int} (ho : w.ownsRow base 3 1 (.slice (some ⟨g, 0, none⟩) xs.length cap) xs.length (xs.map (.int .i64))) (hl : xs.length ≤ 1099511627776) (i j : Nat) (hij : i ≤ j) (hj : j ≤ xs.length) (n c : Nat) (hn : n = j - i) :
    Rd w (.slice (some ⟨g, i, none⟩) n c) (((xs.take j).drop i).map (.int .i64)) := by
  subst hn
  have hlen : (((xs.take j).drop i).map (Value.int .i64)).length = j - i := by simp; omega
  refine ⟨by rw [hlen]; unfold maxLen; omega, _, c, by rw [hlen], ?_⟩
  refine .inr ⟨g, i, rfl, (ho.lt g rfl).2, fun q hq => ?_⟩
  have hq' : q < j - i := by rw [← hlen]; exact hq
  rw [ho.cellAt (i + q) (by omega)]
  have h1 : i + q < xs.length := by omega
  simp [List.getElem?_eq_getElem h1]
theorem below_pre {xs : List Int} {k : Nat} {x : Int} (hk : k ≤ xs.length) (h : ∀ j, (hj : j < xs.length) → j < k → xs[j] < x) (h2 : k < xs.length → ∀ h : k < xs.length, ¬ xs[k] < x) : kB xs x = k :=
  kB_eq xs x k hk h (fun h => h2 h h)

set_option maxRecDepth 100000 in
set_option maxHeartbeats 2000000 in
theorem specPut_any (xs : List Int) (x : Int) (v : Value) (base : Nat) (w : World) (ho : w.ownsRow base 3 1 v xs.length (xs.map (.int .i64))) (hv : v ≠ .slice none 0 0) (hb : base ≤ w.heap.size) (hlen : xs.length ≤ 1073741824) :
    Calls Tryz.prog 72 #[v, .int .i64 x] w fun e w' => ∃ v', e = .returned v' ∧ w'.ownsRow base 3 1 v' (putB xs x).length ((putB xs x).map (.int .i64)) ∧ v' ≠ .slice none 0 0 ∧ Below w.heap.size w w' := by
  obtain ⟨i0, hi, hz0, hz1, hz2⟩ := info_parts infoInt
  have hr : Rd w v (xs.map (.int .i64)) := own_rd ho (by unfold maxLen; omega)
  rcases ho.2 with ⟨h0, _⟩ | ⟨g, cap, cur, rfl, hg, hh, hnc, hcm, _⟩
  · exact absurd h0 hv
  have HO := Lib.hid ho
  have HR := Lib.hid hr
  have HV := Lib.hid hv
  clear hr hh hv
  rcases hc : hasB xs x with _ | _
  · have HP := Lib.hid (show putB xs x = xs.take (kB xs x) ++ [x] ++ xs.drop (kB xs x) by
      unfold putB; unfold hasB at hc; rw [if_neg (by rw [hc]; exact Bool.false_ne_true)])
    have HC := Lib.hid hc
    clear ho hc
    go_enter Tryz.func72, Tryz.ntmps72
    go_wp2_with fail
    refine (specHas_any xs x _ _ HR.out).mono ?_
    rintro e w1 ⟨rfl, hw⟩
    obtain rfl := hw.symm
    rw [HC.out]
    go_wp2
    go_loopw [5] (fun i wr => ∃ k : Nat, k ≤ xs.length ∧ i = .int .i64 k ∧ w = wr ∧ ∀ j, (h : j < xs.length) → j < k → xs[j] < x) (fun i _ => xs.length - (intOf i).toNat)
    case atStart => exact ⟨0, Nat.zero_le _, rfl, rfl, fun j _ h => absurd h (by omega)⟩
    case round =>
      obtain ⟨k, hk, rfl, rfl, hall⟩ := hrel
      by_cases hgo : ∃ h : k < xs.length, xs[k] < x
      · obtain ⟨hlt, hlx⟩ := hgo
        have hlt' : (k : Int) < (xs.length : Int) := by omega
        have cx : w.cell? ⟨g, k, none⟩ = some (.int .i64 xs[k]) := by
          rw [HO.out.cellAt k (by omega)]; simp [List.getElem?_eq_getElem hlt]
        have HN := Lib.hid (all_succ (p := fun z => z < x) hlt hall hlx)
        clear hall
        generalize xs[k] = y at cx hlx
        go_wp2
        go_roundw
        case rel => exact ⟨k + 1, by omega, by go_num, by trivial, HN.out⟩
        case measure => simp [intOf]; omega
      · have HK := Lib.hid (below_pre hk hall (fun h _ hx => hgo ⟨h, hx⟩))
        clear hall
        by_cases hlt : k < xs.length
        · have hlt' : (k : Int) < (xs.length : Int) := by omega
          have hlx : ¬ xs[k] < x := fun h => hgo ⟨hlt, h⟩
          have cx : w.cell? ⟨g, k, none⟩ = some (.int .i64 xs[k]) := by
            rw [HO.out.cellAt k (by omega)]; simp [List.getElem?_eq_getElem hlt]
          clear hgo
          generalize xs[k] = y at cx hlx
          have R1 : (w.alloc (.cells #[] 3)).ownsRow w.heap.size 3 1 (.slice (some ⟨w.heap.size, 0, none⟩) 0 0) 0 [] := World.ownsRow_made w #[] 0 (Nat.le_refl _) (by decide) rfl
          have R2 := Lib.hid (rd_alloc (rd_sub HO.out (by omega) 0 k (by omega) hk k cap rfl) (.cells #[] 3))
          rw [List.drop_zero] at R2
          have R3 := Lib.hid (fun n c' (hn : n = xs.length - k) => rd_sub HO.out (by omega) k xs.length hk (Nat.le_refl _) n c' hn)
          rw [List.take_length] at R3
          have hkc : k ≤ cap := by omega
          have hkc' : (k : Int) ≤ (cap : Int) := by omega
          have hk' : (k : Int) ≤ (xs.length : Int) := by omega
          go_wp2_with (first
            | (at_builtin; refine app_rd rfl (.tmp 25) (.tmp 28) 26 rfl rfl w.heap.size (.slice (some ⟨w.heap.size, 0, none⟩) 0 0) _ [] (xs.take k) rfl rfl (by exact R1) (by exact R2.out) (nilOk_some _ _ _) (by simp; omega) (by simp) ?_; intro v1 w1 hown1 hg1 hnn1
               have S1 := Lib.hid (And.intro hown1 (And.intro (step_below (Below.refl _ w) hg1 (Nat.le_refl _) (own_mem R1)) (hnn1 (.inl (by simp)))))
               clear hown1 hg1 hnn1 R1)
            | (at_builtin; refine app_rd rfl (.tmp 30) (.tmp 32) 26 rfl rfl w.heap.size _ _ _ [x] rfl rfl (by exact S1.out.1.alloc _) (by exact rd_new _ x _) (nilOk_some _ _ _) (by simp; omega) (by have := S1.out.2.1.size; simp; omega) ?_; intro v2 w2 hown2 hg2 hnn2
               have S2 := Lib.hid (And.intro hown2 (And.intro (step_below S1.out.2.1 hg2 S1.out.2.1.size (own_mem S1.out.1)) (hnn2 (.inl S1.out.2.2))))
               clear hown2 hg2 hnn2)
            | (at_builtin; refine app_rd rfl (.tmp 34) (.tmp 37) 26 rfl rfl w.heap.size _ _ _ (xs.drop k) rfl rfl (by exact S2.out.1) (by exact (R3.out _ _ (by omega)).below S2.out.2.1 (Nat.le_refl _)) (nilOk_some _ _ _) (by simp; omega) (by exact S2.out.2.1.size) ?_; intro v3 w3 hown3 hg3 hnn3
               have S3 := Lib.hid (And.intro hown3 (And.intro (S2.out.2.1.grown hg3 S2.out.2.1.size (own_mem S2.out.1)) (hnn3 (.inl S2.out.2.2))))
               clear hown3 hg3 hnn3))
          all_goals
            go_ret
            refine ⟨v3, rfl, ?_, S3.out.2.2, S3.out.2.1⟩
            rw [HP.out, HK.out]
            exact own_base (by simpa only [List.nil_append] using S3.out.1) hb
        · have hge : ¬ (k : Int) < (xs.length : Int) := by omega
          clear hgo
          have R1 : (w.alloc (.cells #[] 3)).ownsRow w.heap.size 3 1 (.slice (some ⟨w.heap.size, 0, none⟩) 0 0) 0 [] := World.ownsRow_made w #[] 0 (Nat.le_refl _) (by decide) rfl
          have R2 := Lib.hid (rd_alloc (rd_sub HO.out (by omega) 0 k (by omega) hk k cap rfl) (.cells #[] 3))
          rw [List.drop_zero] at R2
          have R3 := Lib.hid (show ∀ A n c', n = xs.length - k → Rd w (.slice A n c') ((xs.drop k).map (.int .i64)) from fun A n c' hn => by
            rw [List.drop_of_length_le (by omega)]; exact rd_zero w A n c' (by omega))
          have hkc : k ≤ cap := by omega
          have hkc' : (k : Int) ≤ (cap : Int) := by omega
          have hk' : (k : Int) ≤ (xs.length : Int) := by omega
          go_wp2_with (first
            | (at_builtin; refine app_rd rfl (.tmp 25) (.tmp 28) 26 rfl rfl w.heap.size (.slice (some ⟨w.heap.size, 0, none⟩) 0 0) _ [] (xs.take k) rfl rfl (by exact R1) (by exact R2.out) (nilOk_some _ _ _) (by simp; omega) (by simp) ?_; intro v1 w1 hown1 hg1 hnn1
               have S1 := Lib.hid (And.intro hown1 (And.intro (step_below (Below.refl _ w) hg1 (Nat.le_refl _) (own_mem R1)) (hnn1 (.inl (by simp)))))
               clear hown1 hg1 hnn1 R1)
            | (at_builtin; refine app_rd rfl (.tmp 30) (.tmp 32) 26 rfl rfl w.heap.size _ _ _ [x] rfl rfl (by exact S1.out.1.alloc _) (by exact rd_new _ x _) (nilOk_some _ _ _) (by simp; omega) (by have := S1.out.2.1.size; simp; omega) ?_; intro v2 w2 hown2 hg2 hnn2
               have S2 := Lib.hid (And.intro hown2 (And.intro (step_below S1.out.2.1 hg2 S1.out.2.1.size (own_mem S1.out.1)) (hnn2 (.inl S1.out.2.2))))
               clear hown2 hg2 hnn2)
            | (at_builtin; refine app_rd rfl (.tmp 34) (.tmp 37) 26 rfl rfl w.heap.size _ _ _ (xs.drop k) rfl rfl (by exact S2.out.1) (by exact (R3.out _ _ _ (by omega)).below S2.out.2.1 (Nat.le_refl _)) (nilOk_ite _ _ _ _ _) (by simp; omega) (by exact S2.out.2.1.size) ?_; intro v3 w3 hown3 hg3 hnn3
               have S3 := Lib.hid (And.intro hown3 (And.intro (S2.out.2.1.grown hg3 S2.out.2.1.size (own_mem S2.out.1)) (hnn3 (.inl S2.out.2.2))))
               clear hown3 hg3 hnn3))
          all_goals
            go_ret
            refine ⟨v3, rfl, ?_, S3.out.2.2, S3.out.2.1⟩
            rw [HP.out, HK.out]
            exact own_base (by simpa only [List.nil_append] using S3.out.1) hb
  · have HP := Lib.hid (show putB xs x = xs by
      unfold putB; unfold hasB at hc; rw [if_pos hc])
    have HC := Lib.hid hc
    clear ho hc
    go_enter Tryz.func72, Tryz.ntmps72
    go_wp2_with fail
    refine (specHas_any xs x _ _ HR.out).mono ?_
    rintro e w1 ⟨rfl, hw⟩
    obtain rfl := hw.symm
    rw [HC.out]
    go_wp2
    go_ret
    refine ⟨_, rfl, ?_, HV.out, Below.refl _ _⟩
    rw [HP.out]
    exact HO.out

theorem fold_step {xs : List Int} {k : Nat} (h : k < xs.length) : setB (xs.take (k + 1)) = putB (setB (xs.take k)) xs[k] := by
  rw [List.take_succ_eq_append_getElem h, setB_snoc]
theorem setB_take_len (xs : List Int) (k : Nat) : (setB (xs.take k)).length ≤ xs.length := Nat.le_trans (len_setB _) (by simp; omega)

set_option maxRecDepth 100000 in
set_option maxHeartbeats 2000000 in
theorem specSetOf_any (xs : List Int) (v : Value) (w : World) (hr : Rd w v (xs.map (.int .i64))) (hlen : xs.length ≤ 1073741823) :
    Calls Tryz.prog 53 #[v] w fun e w' => ∃ v', e = .returned v' ∧ w'.ownsRow w.heap.size 3 1 v' (setB xs).length ((setB xs).map (.int .i64)) ∧ v' ≠ .slice none 0 0 ∧ Below w.heap.size w w' := by
  obtain ⟨hl, A, c, rfl, HR⟩ := rdI hr
  clear hl
  have HA := Lib.hid HR
  clear hr HR
  have hown0 : (w.alloc (.cells #[] 3)).ownsRow w.heap.size 3 1 (.slice (some ⟨w.heap.size, 0, none⟩) 0 0) 0 [] := World.ownsRow_made w #[] 0 (Nat.le_refl _) (by decide) rfl
  have O0 := Lib.hid (And.intro hown0 ((Below.refl _ w).alloc (Nat.le_refl _) (.cells #[] 3)))
  clear hown0
  go_enter Tryz.func53, Tryz.ntmps53
  go_wp2
  go_loopw [3, 9] (fun out i wr => ∃ k : Nat, k ≤ xs.length ∧ i = .int .i64 k ∧ wr.ownsRow w.heap.size 3 1 out (setB (xs.take k)).length ((setB (xs.take k)).map (.int .i64)) ∧ out ≠ .slice none 0 0 ∧ Below w.heap.size w wr) (fun _ i _ => xs.length - (intOf i).toNat)
  case atStart => exact ⟨0, Nat.zero_le _, rfl, O0.out.1, by simp, O0.out.2⟩
  case round =>
    obtain ⟨k, hk, rfl, hown, hnn, hbel⟩ := hrel
    by_cases hlt : k < xs.length
    · have hlt' : (k : Int) < (xs.length : Int) := by omega
      obtain ⟨b, o, rfl, hb, hc⟩ := HA.out k hlt
      have cx := (hbel.cell (p := ⟨b, o + k, none⟩) hb).trans (hc k hlt)
      clear hc
      have HF := Lib.hid (fold_step hlt)
      have hl2 := setB_take_len xs k
      generalize setB (xs.take k) = ys at hown HF hl2
      generalize xs[k] = y at cx HF
      go_wp2_with fail
      refine (specPut_any ys y _ w.heap.size _ hown hnn hbel.size (by omega)).mono ?_
      rintro e w2 ⟨v2, rfl, ho2, hn2, hb2⟩
      rw [← HF.out] at ho2
      have R := Lib.hid (And.intro ho2 (And.intro hn2 (hbel.trans (hb2.mono hbel.size))))
      clear hown hnn hb2 hn2 ho2
      go_wp2
      go_roundw
      case rel => exact ⟨k + 1, by omega, by go_num, R.out.1, R.out.2.1, R.out.2.2⟩
      case measure => simp [intOf]; omega
    · have hge : ¬ (k : Int) < (xs.length : Int) := by omega
      obtain rfl : k = xs.length := by omega
      rw [List.take_of_length_le (Nat.le_refl _)] at hown
      have R := Lib.hid (And.intro hown (And.intro hnn hbel))
      clear hown hnn
      go_wp2
      go_ret
      exact ⟨_, rfl, R.out.1, R.out.2.1, R.out.2.2⟩
end Go.Proofs.YtnbkiobbacaaiaaGreatDoor
end

section
namespace Go.Proofs.YtnbkiobbacaaiaaGreatDoor
open Go.RowKit

def upB (n : Nat) : List Int := (List.range n).map fun (i : Nat) => (i : Int)
theorem upB_succ (k : Nat) : upB (k + 1) = upB k ++ [(k : Int)] := by simp [upB, List.range_succ]
theorem upB_len (k : Nat) : (upB k).length = k := by simp [upB]
def rangeB (n : Int) : List Int := if 0 ≤ n ∧ n ≤ 200 then upB n.toNat else []

def upI (i : Nat) : Value := .int .i64 i
theorem upI_all (m : Nat) : (List.range m).map upI = (upB m).map (.int .i64) := by simp [upB, upI]

set_option maxRecDepth 100000 in
set_option maxHeartbeats 2000000 in
theorem implRange_any (n : Int) (w : World) :
    Calls Tryz.prog 20 #[.int .i64 n] w fun e w' => ∃ v', e = .returned v' ∧ w'.ownsRow w.heap.size 3 1 v' (rangeB n).length ((rangeB n).map (.int .i64)) ∧ Below w.heap.size w w' := by
  obtain ⟨i0, hi, hz0, hz1, hz2⟩ := info_parts infoInt
  by_cases hin : 0 ≤ n ∧ n ≤ 200
  · obtain ⟨m, rfl⟩ : ∃ m : Nat, n = m := ⟨n.toNat, by omega⟩
    have HB := Lib.hid (show rangeB (m : Int) = upB m by unfold rangeB; rw [if_pos hin]; rfl)
    have hm : m ≤ 200 := by omega
    have h1 : ¬ ((m : Int) < 0) := by omega
    have h2 : ¬ ((m : Int) > 200) := by omega
    clear hin
    go_enter Tryz.func20, Tryz.ntmps20
    go_wp2_with (at_make; refine wpList_make_full _ rfl _ _ 26 rfl w.heap.size 3 i0 (.int .i64 0) 1 Tryz.underlying26 hi hz0 hz1 .i64 .i64 _ _ m rfl rfl rfl rfl (by rw [hz2]; omega) (by unfold maxLen; omega) (Nat.le_refl _) ?_; intro w1 hown1 hgrow1)
    have hbel1 : Below w.heap.size w w1 := (Below.refl _ _).grown hgrow1 (Nat.le_refl _) (by simp)
    have hml := own_len hown1
    generalize hms : (madeCells (Value.int .i64 0).cells (m * 1)).toList = ms at hown1 hml
    have HM := Lib.hid hml
    clear hml hms hgrow1
    go_loopw [15] (fun i wr => ∃ k : Nat, k ≤ m ∧ i = .int .i64 k ∧ wr.ownsRow w.heap.size 3 1 (.slice (some ⟨w.heap.size, 0, none⟩) m m) m (mix upI ms k) ∧ Below w.heap.size w wr) (fun i _ => m - (intOf i).toNat)
    case atStart => exact ⟨0, Nat.zero_le _, rfl, by rw [mix_zero]; exact hown1, hbel1⟩
    case round =>
      obtain ⟨k, hk, rfl, how, hbel⟩ := hrel
      by_cases hlt : k < m
      · have hlt' : (k : Int) < (m : Int) := by omega
        have hgw : w.heap.size < wr.heap.size := (how.lt w.heap.size rfl).2
        have hc : wr.cell? ⟨w.heap.size, k, none⟩ = some ((mix upI ms k)[k]'(by rw [mix_len _ _ (by have := HM.out; omega)]; have := HM.out; omega)) := by
          rw [how.cellAt k (by omega)]; exact List.getElem?_eq_getElem _
        have hf : wr.frozen? ⟨w.heap.size, k, none⟩ = false := how.frozenAt k
        obtain ⟨hs1, _⟩ := how.stored k (upI k)
        rw [mix_set _ _ (by have := HM.out; omega)] at hs1
        have H1 := Lib.hid hs1
        have H2 := Lib.hid (hbel.setCell (p := ⟨w.heap.size, k, none⟩) (Nat.le_refl _) (upI k))
        clear hs1 how hbel
        generalize (mix upI ms k)[k]'_ = z at hc
        change Hid (World.ownsRow (World.setCell wr _ (.int .i64 (k : Int))) _ _ _ _ _ _) at H1
        change Hid (Below _ _ (World.setCell wr _ (.int .i64 (k : Int)))) at H2
        go_wp2
        go_roundw
        case rel => exact ⟨k + 1, by omega, by go_num, H1.out, H2.out⟩
        case measure => simp [intOf]; omega
      · have hge : ¬ (k : Int) < (m : Int) := by omega
        obtain rfl : k = m := by omega
        rw [mix_full _ _ HM.out, upI_all] at how
        have H1 := Lib.hid how
        clear how
        go_wp2
        go_ret
        exact ⟨_, rfl, by rw [HB.out, upB_len]; exact H1.out, hbel⟩
  · have HB := Lib.hid (show rangeB n = [] by unfold rangeB; rw [if_neg hin])
    by_cases h1 : n < 0
    · clear hin
      go_enter Tryz.func20, Tryz.ntmps20
      go_wp2
      go_ret
      exact ⟨_, rfl, by rw [HB.out]; exact World.ownsRow_nil _ _ _ _, Below.refl _ _⟩
    · have h2 : n > 200 := by omega
      clear hin
      go_enter Tryz.func20, Tryz.ntmps20
      go_wp2
      go_ret
      exact ⟨_, rfl, by rw [HB.out]; exact World.ownsRow_nil _ _ _ _, Below.refl _ _⟩
end Go.Proofs.YtnbkiobbacaaiaaGreatDoor
end

section
namespace Go.Proofs.YtnbkiobbacaaiaaGreatDoor
open Go.RowKit Go.Shelf

theorem growNil_any (n : Nat) (w : World) (hn : n ≤ 1073741824) :
    Calls Tryz.prog 68 #[.slice none 0 0, .int .i64 n] w fun e w' => ∃ v', e = .returned v' ∧ w'.ownsRow w.heap.size 3 1 v' 0 [] ∧ Below w.heap.size w w' := by
  obtain ⟨i0, hi, hz0, hz1, hz2⟩ := info_parts infoInt
  by_cases h0 : n = 0
  · subst h0
    refine (Any8.slices_Grow_room Tryz.laysGrow_68 none 0 0 0 w (Nat.le_refl _) (by omega) (by omega) (Nat.le_refl _)).mono ?_
    rintro e w1 ⟨rfl, rfl⟩
    exact ⟨_, rfl, World.ownsRow_nil _ _ _ _, Below.refl _ _⟩
  · refine (Any8.slices_Grow_grow Tryz.laysGrow_68 i0 (.int .i64 0) hi hz0 (by omega) none 0 0 n [] w (Nat.le_refl _) (by omega) (by rw [hz2]; omega) (by omega) (by simp) (fun _ => rfl) (fun a h => by cases h)).mono ?_
    rintro e w1 ⟨rfl, rfl⟩
    have hge := grownCap_ge w (0 + n) 0 3
    have hle := grownCap_le_maxLen w (0 + n) 0 3 (by unfold maxLen; omega)
    refine ⟨_, rfl, ?_, ?_⟩
    · exact World.ownsRow_made w.drew _ _ (Nat.le_refl _) hle (by
        simp only [Array.size_append, size_zeroCells]
        change 0 + (0 + n - 0) * 1 + (grownCap w (0 + n) 0 3 - (0 + n)) * 1 = grownCap w (0 + n) 0 3 * 1
        omega)
    · exact (below_drewN' w 1).alloc (Nat.le_refl _) _

def catB (Ls : List (List Int)) : List Int := Ls.flatten
theorem cat_take {Ls : List (List Int)} {k : Nat} (h : k < Ls.length) : (catB (Ls.take (k + 1))) = (catB (Ls.take k)) ++ Ls[k] := by
  unfold catB
  rw [List.take_succ_eq_append_getElem h, List.flatten_append]; simp
theorem flat_le (Ls : List (List Int)) (k : Nat) : (catB (Ls.take k)).length ≤ (catB Ls).length := by
  unfold catB
  conv => rhs; rw [← List.take_append_drop k Ls, List.flatten_append, List.length_append]
  omega

set_option maxRecDepth 100000 in
set_option maxHeartbeats 2000000 in
theorem concat_any (vs : List Value) (Ls : List (List Int)) (vl : Value) (w : World) (hr : Rd w vl vs) (hn : vs.length = Ls.length) (hn0 : 0 < vs.length)
    (hel : ∀ i, (h : i < vs.length) → Rd w vs[i] ((Ls[i]'(hn ▸ h)).map (.int .i64)) ∧ NilOk vs[i]) (hlen : (catB Ls).length ≤ 1073741824) :
    Calls Tryz.prog 49 #[vl] w fun e w' => ∃ v', e = .returned v' ∧ w'.ownsRow w.heap.size 3 1 v' (catB Ls).length ((catB Ls).map (.int .i64)) ∧ Below w.heap.size w w' := by
  obtain ⟨hl, A, c, rfl, h⟩ := hr
  unfold maxLen at hl
  rcases h with h | ⟨b, o, rfl, hb, hc⟩
  · rw [h] at hn0; simp at hn0
  have HC := Lib.hid hc
  have HE := Lib.hid hel
  clear hc hel
  go_enter Tryz.func49, Tryz.ntmps49
  go_wp2
  go_loopw [3, 11] (fun s i wr => ∃ k : Nat, k ≤ vs.length ∧ i = .int .i64 k ∧ s = .int .i64 ((catB (Ls.take k)).length : Nat) ∧ w = wr) (fun _ i _ => vs.length - (intOf i).toNat)
  case atStart => exact ⟨0, Nat.zero_le _, rfl, rfl, rfl⟩
  case round =>
    obtain ⟨k, hk, rfl, rfl, rfl⟩ := hrel
    by_cases hlt : k < vs.length
    · have hlt' : (k : Int) < (vs.length : Int) := by omega
      have cx := HC.out k hlt
      obtain ⟨⟨hlk, A1, c1, he, _⟩, _⟩ := HE.out k hlt
      rw [List.length_map] at he
      rw [he] at cx
      have HF := Lib.hid (cat_take (k := k) (Ls := Ls) (by omega))
      have hb1 := flat_le Ls (k + 1)
      rw [HF.out, List.length_append] at hb1
      have hsum : ((catB (Ls.take (k + 1))).length : Int) = ((catB (Ls.take k)).length : Int) + ((Ls[k]'(by omega)).length : Int) := by rw [HF.out, List.length_append]; omega
      have HS := Lib.hid hsum
      clear hsum hlk he
      generalize (catB (Ls.take k)).length = m at HS hb1
      generalize (Ls[k]'(by omega)).length = q at HS hb1 cx
      have hnn : ¬ ((m : Int) + (q : Int) < 0) := by omega
      go_wp2
      go_roundw
      case rel => exact ⟨k + 1, by omega, by go_num, by rw [HS.out], by trivial⟩
      case measure => simp [intOf]; omega
    · have hge : ¬ (k : Int) < (vs.length : Int) := by omega
      obtain rfl : k = vs.length := by omega
      rw [List.take_of_length_le (by omega)]
      go_wp2_with fail
      refine (growNil_any _ _ (by omega)).mono ?_
      rintro e w1 ⟨v1, rfl, o1, b1⟩
      have O1 := Lib.hid (And.intro o1 b1)
      clear o1 b1
      go_wp2
      go_loopw [6, 27] (fun out i wr => ∃ k : Nat, k ≤ vs.length ∧ i = .int .i64 k ∧ wr.ownsRow w.heap.size 3 1 out (catB (Ls.take k)).length ((catB (Ls.take k)).map (.int .i64)) ∧ Below w.heap.size w wr) (fun _ i _ => vs.length - (intOf i).toNat)
      case atStart => exact ⟨0, Nat.zero_le _, rfl, O1.out.1, O1.out.2⟩
      case round =>
        obtain ⟨k, hk, rfl, hown, hbel⟩ := hrel
        by_cases hlt : k < vs.length
        · have hlt' : (k : Int) < (vs.length : Int) := by omega
          have cx := (hbel.cell (p := ⟨b, o + k, none⟩) hb).trans (HC.out k hlt)
          have HR := Lib.hid (HE.out k hlt)
          have HF := Lib.hid (cat_take (k := k) (Ls := Ls) (by omega))
          have hb1 := flat_le Ls (k + 1)
          rw [HF.out, List.length_append] at hb1
          generalize hV : vs[k] = V at cx HR
          clear hV
          generalize hys : Ls[k]'(by omega) = ys at HR HF hb1
          clear hys
          generalize (catB (Ls.take k)) = zs at hown HF hb1
          go_wp2_with (first
            | (at_builtin; refine app_rd rfl (.tmp 31) (.tmp 32) 26 rfl rfl w.heap.size _ _ zs ys rfl rfl (by exact hown) (by exact HR.out.1.below hbel (Nat.le_refl _)) HR.out.2 (by omega) hbel.size ?_; intro v2 w2 hown2 hg2 _
               have S2 := Lib.hid (And.intro hown2 (hbel.grown hg2 hbel.size (own_mem hown)))
               rw [← HF.out] at S2
               clear hown2 hg2 hown hbel))
          go_roundw
          case rel => exact ⟨k + 1, by omega, by go_num, S2.out.1, S2.out.2⟩
          case measure => simp [intOf]; omega
        · have hge : ¬ (k : Int) < (vs.length : Int) := by omega
          obtain rfl : k = vs.length := by omega
          rw [List.take_of_length_le (by omega)] at hown
          have R := Lib.hid (And.intro hown hbel)
          clear hown
          go_wp2
          go_ret
          exact ⟨_, rfl, R.out.1, R.out.2⟩
end Go.Proofs.YtnbkiobbacaaiaaGreatDoor
end

section
namespace Go.Proofs.YtnbkiobbacaaiaaGreatDoor
open Go.RowKit

def pickB (p : Int → Bool) (l : List Int) : List Int := l.filter p
def neB (n x : Int) : Bool := x != n
def nhasB (l : List Int) (x : Int) : Bool := !hasB l x
theorem pickB_yes {p : Int → Bool} {xs : List Int} {k : Nat} (h : k < xs.length) (hp : p xs[k] = true) : pickB p (xs.take (k + 1)) = pickB p (xs.take k) ++ [xs[k]] := by
  unfold pickB
  rw [List.take_succ_eq_append_getElem h, List.filter_append]; simp [hp]
theorem pickB_no {p : Int → Bool} {xs : List Int} {k : Nat} (h : k < xs.length) (hp : p xs[k] = false) : pickB p (xs.take (k + 1)) = pickB p (xs.take k) := by
  unfold pickB
  rw [List.take_succ_eq_append_getElem h, List.filter_append]; simp [hp]
theorem pickB_len (p : Int → Bool) (xs : List Int) (k : Nat) : (pickB p (xs.take k)).length ≤ xs.length :=
  Nat.le_trans (List.length_filter_le _ _) (by simp; omega)
theorem inter_pick (a b : List Int) : setB (pickB (hasB b) a) = interB a b := rfl
theorem diff_pick (a b : List Int) : setB (pickB (nhasB b) a) = diffB a b := rfl
theorem inter_pick2 (a b : List Int) : pickB (hasB (setB b)) (setB a) = interB a b := inter_eq a b
theorem diff_pick2 (a b : List Int) : pickB (nhasB (setB b)) (setB a) = diffB a b := diff_eq a b
theorem asc_le {l : List Int} (h : l.Pairwise (· < ·)) : l.Pairwise (· ≤ ·) := h.imp Int.le_of_lt

/-- (ordered).has on an ascending list. -/
theorem implHas2_any (xs : List Int) (x : Int) (v : Value) (w : World) (hr : Rd w v (xs.map (.int .i64))) (hnil : xs.length ≤ 1073741824) (hs : xs.Pairwise (· ≤ ·)) (hne : xs ≠ []) :
    Calls Tryz.prog 52 #[v, .int .i64 x] w fun e w' => e = .returned (.bool (hasB xs x)) ∧ Below w.heap.size w w' := by
  obtain ⟨hl, A, c, rfl, HR⟩ := rdI hr
  have h0 : 0 < xs.length := List.length_pos_iff.2 hne
  obtain ⟨b, o, rfl, hb, hc⟩ := HR 0 h0
  have HB := Tryz.bsearch_71 b o xs.length c xs x w (Nat.le_refl _) (by omega) (fun j hj => by rw [hc j hj]; simp [List.getD, List.getElem?_eq_getElem hj]) (by rw [List.take_length]; exact hs)
  rw [List.take_length] at HB
  change Calls _ _ _ _ (fun e w' => e = .returned (.tuple #[_, .bool (hasB xs x)]) ∧ _) at HB
  generalize ((xs.countP fun z => decide (z < x) : Nat) : Int) = q at HB
  clear hc HR hr hs
  generalize hasB xs x = r at HB
  go_enter Tryz.func52, Tryz.ntmps52
  go_wp2_with fail
  refine HB.mono ?_
  rintro e w1 ⟨rfl, n, rfl⟩
  go_wp2
  go_ret
  exact ⟨rfl, below_drewN' w n⟩

theorem bsNil_any (A : Option Addr) (c : Nat) (x : Int) (w : World) :
    Calls Tryz.prog 71 #[.slice A 0 c, .int .i64 x] w fun e w' => e = .returned (.tuple #[.int .i64 0, .bool false]) ∧ Below w.heap.size w w' := by
  go_enter Tryz.func71, Tryz.ntmps71
  go_wp2
  refine wp_loop_rounds 1 ?_
  rw [rounds_succ]
  go_wp2
  go_ret2
  exact ⟨rfl, Below.refl _ _⟩

theorem implHasO_any (xs : List Int) (x : Int) (v : Value) (w : World) (hr : Rd w v (xs.map (.int .i64))) (_hn : NilOk v) (hlen : xs.length ≤ 1073741824) (hs : xs.Pairwise (· ≤ ·)) :
    Calls Tryz.prog 52 #[v, .int .i64 x] w fun e w' => e = .returned (.bool (hasB xs x)) ∧ Below w.heap.size w w' := by
  by_cases hne : xs = []
  · subst hne
    obtain ⟨hl, A, c, rfl, HR⟩ := rdI hr
    clear hl HR hr hs
    go_enter Tryz.func52, Tryz.ntmps52
    go_wp2_with fail
    refine (bsNil_any A c x _).mono ?_
    rintro e w1 ⟨rfl, hb⟩
    go_wp2
    go_ret
    exact ⟨rfl, hb⟩
  · exact implHas2_any xs x v w hr hlen hs hne

set_option maxRecDepth 100000 in
set_option maxHeartbeats 2000000 in
theorem implCommon_any (xs ys : List Int) (v u : Value) (w : World) (hr : Rd w v (xs.map (.int .i64))) (hu : Rd w u (ys.map (.int .i64))) (hys : ys.length ≤ 1073741824) (hs : ys.Pairwise (· ≤ ·)) (hne : NilOk u) (hlen : xs.length ≤ 1073741823) :
    Calls Tryz.prog 22 #[v, u] w fun e w' => ∃ v', e = .returned v' ∧ w'.ownsRow w.heap.size 3 1 v' (pickB (hasB ys) xs).length ((pickB (hasB ys) xs).map (.int .i64)) ∧ Below w.heap.size w w' := by
  obtain ⟨hl, A, c, rfl, HR⟩ := rdI hr
  clear hl
  have HA := Lib.hid HR
  have HU := Lib.hid hu
  have HS := Lib.hid hs
  have HN := Lib.hid hne
  clear hu hs hne
  clear hr HR
  have O0 := Lib.hid (And.intro (World.ownsRow_nil w w.heap.size 3 1) (Below.refl w.heap.size w))
  go_enter Tryz.func22, Tryz.ntmps22
  go_wp2
  go_loopw [5, 10] (fun out i wr => ∃ k : Nat, k ≤ xs.length ∧ i = .int .i64 k ∧ wr.ownsRow w.heap.size 3 1 out (pickB (hasB ys) (xs.take k)).length ((pickB (hasB ys) (xs.take k)).map (.int .i64)) ∧ Below w.heap.size w wr) (fun _ i _ => xs.length - (intOf i).toNat)
  case atStart => exact ⟨0, Nat.zero_le _, rfl, O0.out.1, O0.out.2⟩
  case round =>
    obtain ⟨k, hk, rfl, hown, hbel⟩ := hrel
    by_cases hlt : k < xs.length
    · have hlt' : (k : Int) < (xs.length : Int) := by omega
      obtain ⟨b, o, rfl, hb, hc⟩ := HA.out k hlt
      have cx := (hbel.cell (p := ⟨b, o + k, none⟩) hb).trans (hc k hlt)
      clear hc
      have hl2 := pickB_len (hasB ys) xs k
      rcases hp : (hasB ys) xs[k] with _ | _
      · have HF := Lib.hid (pickB_no hlt hp)
        generalize pickB (hasB ys) (xs.take k) = zs at hown HF hl2
        have HP := Lib.hid hp
        clear hp
        generalize xs[k] = y at cx HF HP
        go_wp2_with fail
        refine (implHasO_any ys y u _ (HU.out.below hbel (Nat.le_refl _)) HN.out hys HS.out).mono ?_
        rintro e w1 ⟨rfl, hb1⟩
        have X1 := And.intro (own_below hown hb1 (Nat.le_refl _)) (hbel.trans (hb1.mono hbel.size))
        clear hown hbel hb1
        obtain ⟨hown, hbel⟩ := X1
        rw [HP.out]
        rw [← HF.out] at hown
        have S2 := Lib.hid (And.intro hown hbel)
        clear hown
        go_wp2
        go_roundw
        case rel => exact ⟨k + 1, by omega, by go_num, S2.out.1, S2.out.2⟩
        case measure => simp [intOf]; omega
      · have HF := Lib.hid (pickB_yes hlt hp)
        generalize pickB (hasB ys) (xs.take k) = zs at hown HF hl2
        have HP := Lib.hid hp
        clear hp
        generalize xs[k] = y at cx HF HP
        go_wp2_with fail
        refine (implHasO_any ys y u _ (HU.out.below hbel (Nat.le_refl _)) HN.out hys HS.out).mono ?_
        rintro e w1 ⟨rfl, hb1⟩
        have X1 := And.intro (own_below hown hb1 (Nat.le_refl _)) (hbel.trans (hb1.mono hbel.size))
        clear hown hbel hb1
        obtain ⟨hown, hbel⟩ := X1
        rw [HP.out]
        go_wp2_with (first
          | (at_builtin; refine app_rd rfl (.tmp 17) (.tmp 19) 51 rfl rfl w.heap.size _ _ zs [y] rfl rfl (by exact hown.alloc _) (by exact rd_new _ y _) (nilOk_some _ _ _) (by simp; omega) (by have := hbel.size; simp; omega) ?_; intro v2 w2 hown2 hg2 _
             have S2 := Lib.hid (And.intro hown2 (step_below hbel hg2 hbel.size (own_mem hown)))
             rw [← HF.out] at S2
             clear hown2 hg2 hown hbel))
        go_roundw
        case rel => exact ⟨k + 1, by omega, by go_num, S2.out.1, S2.out.2⟩
        case measure => simp [intOf]; omega
    · have hge : ¬ (k : Int) < (xs.length : Int) := by omega
      have hl2 := pickB_len (hasB ys) xs k
      obtain rfl : k = xs.length := by omega
      rw [List.take_of_length_le (Nat.le_refl _)] at hown hl2
      have R := Lib.hid (And.intro hown hbel)
      clear hown
      go_wp2
      go_ret
      exact ⟨_, rfl, R.out.1, R.out.2⟩

end Go.Proofs.YtnbkiobbacaaiaaGreatDoor
end

section
namespace Go.Proofs.YtnbkiobbacaaiaaGreatDoor
open Go.RowKit Go.Shelf Go.Sort Go.Lib

theorem below_grow {B : Nat} {a w : World} (h : Below B a w) (os : Array Obj) (hB : B ≤ w.heap.size) : Below B a (grow w os) :=
  ⟨h.os, h.tape, h.output, by have := h.size; simp [grow]; omega, fun k hk => by
    rw [← h.block k hk]
    have hk' : k < w.heap.size := by omega
    simp [grow, Array.getElem?_append, hk']⟩

/-- What the library's sort and compact leave of an own row of ints. -/
theorem sorted_left {w w1 : World} {base g cap nn q : Nat} {e : TypeId} {os : Array Obj} {zs s : List Int} (hs : s.length = zs.length) (hown : w1.ownsRow base e 1 (.slice (some ⟨g, 0, none⟩) zs.length cap) zs.length (zs.map (.int .i64))) (hbel : Below base w w1) (hb : base ≤ g) :
    (putRow (Value.int .i64) (Sort.ahead (grow (putRow (Value.int .i64) (Sort.ahead w1 nn) g 0 s.toArray) os) q) g 0 (compact s ++ List.replicate (s.length - (compact s).length) 0).toArray).ownsRow base e 1 (.slice (some ⟨g, 0, none⟩) (compact s).length cap) (compact s).length ((compact s).map (.int .i64)) ∧
    Below base w (putRow (Value.int .i64) (Sort.ahead (grow (putRow (Value.int .i64) (Sort.ahead w1 nn) g 0 s.toArray) os) q) g 0 (compact s ++ List.replicate (s.length - (compact s).length) 0).toArray) := by
  have hle := compact_length_le s
  have h1 := ownsRow_putRow (q := nn) (k := zs.length) (ys := s) hown hs (Nat.le_refl _)
  rw [← hs, List.take_length, hs] at h1
  have hb1 : Below base w (putRow (Value.int .i64) (Sort.ahead w1 nn) g 0 s.toArray) := below_putRow hbel hb
  have hg1 : g < (putRow (Value.int .i64) (Sort.ahead w1 nn) g 0 s.toArray).heap.size := (h1.lt g rfl).2
  have h2 : (grow (putRow (Value.int .i64) (Sort.ahead w1 nn) g 0 s.toArray) os).ownsRow base e 1 (.slice (some ⟨g, 0, none⟩) zs.length cap) zs.length (s.map (.int .i64)) :=
    own_below h1 (below_grow (Below.refl _ _) os (Nat.le_refl _)) (Nat.le_refl _)
  have hb2 : Below base w (grow (putRow (Value.int .i64) (Sort.ahead w1 nn) g 0 s.toArray) os) := below_grow hb1 os (by omega)
  have h3 := ownsRow_putRow (q := q) (k := (compact s).length) (ys := compact s ++ List.replicate (s.length - (compact s).length) 0) h2 (by simp; omega) (by omega)
  rw [List.take_left] at h3
  exact ⟨h3, below_putRow hb2 hb⟩

set_option maxRecDepth 100000 in
set_option maxHeartbeats 2000000 in
theorem orderedOf_any (vs : List Value) (Ls : List (List Int)) (vl : Value) (w : World) (hr : Rd w vl vs) (hn : vs.length = Ls.length) (hn0 : 0 < vs.length)
    (hel : ∀ i, (h : i < vs.length) → Rd w vs[i] ((Ls[i]'(hn ▸ h)).map (.int .i64)) ∧ NilOk vs[i]) (hlen : (catB Ls).length ≤ 1073741824) :
    Calls Tryz.prog 21 #[vl] w fun e w' => ∃ v', e = .returned v' ∧ w'.ownsRow w.heap.size 3 1 v' (setB (catB Ls)).length ((setB (catB Ls)).map (.int .i64)) ∧ Below w.heap.size w w' := by
  have HCC := concat_any vs Ls vl w hr hn hn0 hel hlen
  clear hr hn hn0 hel
  generalize catB Ls = zs at HCC hlen
  rw [← sortB_eq]
  go_enter Tryz.func21, Tryz.ntmps21
  go_wp2_with fail
  refine HCC.mono ?_
  rintro e w1 ⟨v1, rfl, o1, b1⟩
  by_cases hv : v1 = .slice none 0 0
  · subst hv
    have hz : zs = [] := by
      rcases o1.2 with ⟨_, h0⟩ | ⟨g, cap, cur, h0, _⟩
      · exact List.eq_nil_of_length_eq_zero h0
      · cases h0
    subst hz
    have hB := Lib.hid b1
    clear o1 b1 HCC
    go_wp2_with fail
    refine (Tryz.slices_Sort_int_none none 0 _).mono ?_
    rintro e w2 ⟨rfl, rfl⟩
    go_wp2_with fail
    refine (Tryz.slices_Compact_int_empty none 0 _).mono ?_
    rintro e w3 ⟨rfl, rfl⟩
    go_wp2
    go_ret
    exact ⟨_, rfl, by rw [sortB_eq]; exact World.ownsRow_nil _ _ _ _, hB.out⟩
  · obtain ⟨g, cap, rfl, hbg, hgl, hncap, hcm, -, hH⟩ := Lib.holds_of_ownsRow o1 hv
    have hsort := Tryz.slices_Sort_int g 0 cap zs w1 hH hgl (by omega)
    have hs : (zs.mergeSort fun x y => decide (x ≤ y)).length = zs.length := List.length_mergeSort zs
    change Calls _ _ _ _ _ at hsort
    have hd : sortB zs = compact (zs.mergeSort fun x y => decide (x ≤ y)) := rfl
    generalize (zs.mergeSort fun x y => decide (x ≤ y)) = s at hsort hs hd
    have HD := Lib.hid hd
    clear hd
    have HO := Lib.hid (And.intro o1 (And.intro b1 hH))
    clear o1 b1 hv HCC hH
    go_wp2_with fail
    refine hsort.mono ?_
    rintro e w2 ⟨rfl, nn, os, rfl⟩
    have hH2 : Holds (Value.int .i64) (grow (putRow (Value.int .i64) (Sort.ahead w1 nn) g 0 s.toArray) os) g 0 s.toArray :=
      holds_grow _ _ os g 0 _ (by simpa [putRow, mapBlock, Sort.ahead] using hgl) (holds_putRow _ _ g 0 _ _ (holds_ahead _ w1 nn g 0 _ HO.out.2.2) (by simp [hs]))
    have hcomp := Tryz.slices_Compact_int g 0 cap s _ hH2 (by omega) (by omega)
    have HL := Lib.hid (fun q => sorted_left (nn := nn) (q := q) (os := os) hs HO.out.1 HO.out.2.1 hbg)
    clear hH2 hsort
    rw [hs] at hcomp
    simp only [hs] at HL
    generalize compact s = cs at hcomp HL HD
    generalize grow (putRow (Value.int .i64) (Sort.ahead w1 nn) g 0 s.toArray) os = w2 at hcomp HL ⊢
    go_wp2_with fail
    refine hcomp.mono ?_
    rintro e w3 ⟨rfl, q, rfl⟩
    have HQ := Lib.hid (HL.out q)
    generalize putRow (Value.int .i64) (Sort.ahead w2 q) g 0 _ = w3 at HQ ⊢
    go_wp2
    go_ret
    exact ⟨_, rfl, by rw [HD.out]; exact HQ.out.1, HQ.out.2⟩
end Go.Proofs.YtnbkiobbacaaiaaGreatDoor
end

section
namespace Go.Proofs.YtnbkiobbacaaiaaGreatDoor
open Go.RowKit

theorem rd_cellsE (w : World) (us : List Value) (t : TypeId) (hl : us.length ≤ 1000000) : Rd (w.alloc (.cells us.toArray t)) (.slice (some ⟨w.heap.size, 0, none⟩) us.length us.length) us :=
  ⟨by unfold maxLen; omega, _, _, rfl, .inr ⟨w.heap.size, 0, rfl, by simp, fun j hj => by
    rw [World.cell?_alloc_at _ _ _ _ rfl]
    simp [List.getElem?_eq_getElem hj]⟩⟩

theorem rd_sl {w : World} {v : Value} {xs : List Int} (h : Rd w v (xs.map (.int .i64))) : ∃ A c, v = .slice A xs.length c := by
  obtain ⟨_, A, c, rfl, _⟩ := h
  exact ⟨A, c, by rw [List.length_map]⟩

/-- orderedOf over one list. -/
theorem ord1 (xs : List Int) (v : Value) (t : TypeId) (w : World) (hr : Rd w v (xs.map (.int .i64))) (hn : NilOk v) (hlen : xs.length ≤ 1073741824) :
    Calls Tryz.prog 21 #[.slice (some ⟨w.heap.size, 0, none⟩) 1 1] (w.alloc (.cells #[v] t)) fun e w' => ∃ v', e = .returned v' ∧ w'.ownsRow w.heap.size 3 1 v' (setB xs).length ((setB xs).map (.int .i64)) ∧ Below w.heap.size w w' := by
  have he : catB [xs] = xs := by simp [catB]
  have H := orderedOf_any [v] [xs] (.slice (some ⟨w.heap.size, 0, none⟩) 1 1) (w.alloc (.cells #[v] t)) (rd_cellsE w [v] t (by simp)) rfl (by simp) (fun i h => by
    have hi : i = 0 := by simpa using h
    subst hi
    exact ⟨rd_alloc hr _, hn⟩) (by rw [he]; exact hlen)
  rw [he] at H
  refine H.mono ?_
  rintro e w1 ⟨v', rfl, ho, hb⟩
  exact ⟨v', rfl, own_base ho (by simp), ((Below.refl _ _).alloc (Nat.le_refl _) _).trans (hb.mono (by simp))⟩
theorem ord2 (xs ys : List Int) (v u : Value) (t : TypeId) (w : World) (hr : Rd w v (xs.map (.int .i64))) (hn : NilOk v) (hu : Rd w u (ys.map (.int .i64))) (hn2 : NilOk u) (hlen : xs.length + ys.length ≤ 1073741824) :
    Calls Tryz.prog 21 #[.slice (some ⟨w.heap.size, 0, none⟩) 2 2] (w.alloc (.cells #[v, u] t)) fun e w' => ∃ v', e = .returned v' ∧ w'.ownsRow w.heap.size 3 1 v' (setB (xs ++ ys)).length ((setB (xs ++ ys)).map (.int .i64)) ∧ Below w.heap.size w w' := by
  have he : catB [xs, ys] = xs ++ ys := by simp [catB]
  have H := orderedOf_any [v, u] [xs, ys] (.slice (some ⟨w.heap.size, 0, none⟩) 2 2) (w.alloc (.cells #[v, u] t)) (rd_cellsE w [v, u] t (by simp)) rfl (by simp) (fun i h => by
    have hi : i = 0 ∨ i = 1 := by simp at h; omega
    rcases hi with hi | hi
    · subst hi; exact ⟨rd_alloc hr _, hn⟩
    · subst hi; exact ⟨rd_alloc hu _, hn2⟩) (by rw [he, List.length_append]; exact hlen)
  rw [he] at H
  refine H.mono ?_
  rintro e w1 ⟨v', rfl, ho, hb⟩
  exact ⟨v', rfl, own_base ho (by simp), ((Below.refl _ _).alloc (Nat.le_refl _) _).trans (hb.mono (by simp))⟩

theorem implInter_any (xs ys : List Int) (v u : Value) (w : World) (hr : Rd w v (xs.map (.int .i64))) (hn : NilOk v) (hu : Rd w u (ys.map (.int .i64))) (hn2 : NilOk u) (hlen : xs.length ≤ 1073741823) (hlen2 : ys.length ≤ 1073741823) :
    Calls Tryz.prog 6 #[v, u] w fun e w' => ∃ v', e = .returned v' ∧ w'.ownsRow w.heap.size 3 1 v' (interB xs ys).length ((interB xs ys).map (.int .i64)) ∧ Below w.heap.size w w' := by
  obtain ⟨A, c, rfl⟩ := rd_sl hr
  obtain ⟨B, d, rfl⟩ := rd_sl hu
  have H1 := Lib.hid (fun t => ord1 xs _ t w hr hn (by omega))
  have HU := Lib.hid (And.intro hu hn2)
  clear hr hn hu hn2
  go_enter Tryz.func6, Tryz.ntmps6
  go_wp2_with fail
  refine (H1.out _).mono ?_
  rintro e w1 ⟨v1, rfl, ho1, hb1⟩
  have O1 := Lib.hid (And.intro ho1 hb1)
  clear ho1 hb1 H1
  go_wp2_with fail
  refine (ord1 ys _ _ w1 (HU.out.1.below O1.out.2 (Nat.le_refl _)) HU.out.2 (by omega)).mono ?_
  rintro e w2 ⟨v2, rfl, ho2, hb2⟩
  have O2 := Lib.hid (And.intro ho2 (And.intro (own_below O1.out.1 hb2 (Nat.le_refl _)) (O1.out.2.trans (hb2.mono O1.out.2.size))))
  have hl1 := len_setB xs
  have hl2 := len_setB ys
  clear ho2 hb2 O1
  go_wp2_with fail
  refine (implCommon_any (setB xs) (setB ys) _ _ _ (own_rd O2.out.2.1 (by unfold maxLen; omega)) (own_rd O2.out.1 (by unfold maxLen; omega)) (by omega) (asc_le (asc_setB ys)) (nilOk_own O2.out.1) (by omega)).mono ?_
  rintro e w3 ⟨v3, rfl, ho3, hb3⟩
  rw [inter_pick2] at ho3
  have R := Lib.hid (And.intro (own_base ho3 O2.out.2.2.size) (O2.out.2.2.trans (hb3.mono O2.out.2.2.size)))
  clear ho3 hb3
  go_wp2
  go_ret
  exact ⟨_, rfl, R.out.1, R.out.2⟩

end Go.Proofs.YtnbkiobbacaaiaaGreatDoor
end
