/- DERIVED. CONTRACTS: spec.SetAdd, spec.SetUnion, spec.IntRange, impl.IntRange. -/
import Derived.Test.YtgbpomakomddjabGreatMaths
import Derived.Test.YtgbpomakomddjabGreatDats

section
namespace Go.Proofs.YtgbpomakomddjabGreat
open Go.RowKit

/-- What a slice of ints that reads as xs gives at each place. -/
theorem has_yes {xs : List Int} {k : Nat} {x : Int} (h : k < xs.length) (he : xs[k] = x) : hasB xs x = true := by
  unfold hasB
  rw [List.contains_iff_mem]; exact he ▸ List.getElem_mem h
theorem has_no {xs : List Int} {k : Nat} {x : Int} (hk : ¬ k < xs.length) (h : ∀ j, (hj : j < xs.length) → j < k → xs[j] ≠ x) : hasB xs x = false := by
  unfold hasB
  rw [← Bool.not_eq_true, List.contains_iff_mem]
  intro hm
  obtain ⟨j, hj, he⟩ := List.getElem_of_mem hm
  exact h j hj (by omega) he
set_option maxRecDepth 100000 in
set_option maxHeartbeats 1000000 in
theorem specHas_any (xs : List Int) (x : Int) (v : Value) (w : World) (hr : Rd w v (xs.map (.int .i64))) :
    Calls Tryz.prog 147 #[v, .int .i64 x] w fun e w' => e = .returned (.bool (hasB xs x)) ∧ w' = w := by
  obtain ⟨hl, A, c, rfl, HR⟩ := rdI hr
  unfold maxLen at hl
  have HA := Lib.hid HR
  clear hr HR
  go_enter Tryz.func147, Tryz.ntmps147
  go_wp2
  go_loopw [9] (fun i wr => ∃ k : Nat, k ≤ xs.length ∧ i = .int .i64 k ∧ wr = w ∧ ∀ j, (h : j < xs.length) → j < k → xs[j] ≠ x) (fun i _ => xs.length - (intOf i).toNat)
  case atStart => exact ⟨0, Nat.zero_le _, rfl, rfl, fun j _ h => absurd h (by omega)⟩
  case round =>
    obtain ⟨k, hk, rfl, rfl, hall⟩ := hrel
    by_cases hlt : k < xs.length
    · have hlt' : (k : Int) < (xs.length : Int) := by omega
      obtain ⟨b, o, rfl, hb, hc⟩ := HA.out k hlt
      have cx := hc k hlt
      clear hc
      by_cases he : xs[k] = x
      · have H := Lib.hid (has_yes hlt he)
        clear hall
        generalize xs[k] = y at cx he
        subst he
        go_wp2
        go_ret
        exact ⟨ret_b H.out, rfl⟩
      · have HN := Lib.hid (all_succ (p := fun z => z ≠ x) hlt hall he)
        clear hall
        generalize xs[k] = y at cx he
        have hb : (y == x) = false := by simpa using he
        go_wp2
        go_roundw
        case rel => exact ⟨k + 1, by omega, by go_num, by trivial, HN.out⟩
        case measure => simp [intOf]; omega
    · have hge : ¬ (k : Int) < (xs.length : Int) := by omega
      have H := Lib.hid (has_no hlt hall)
      clear hall
      go_wp2
      go_ret
      exact ⟨ret_b H.out, rfl⟩

theorem sub_no {xs ys : List Int} {k : Nat} (h : k < xs.length) (he : hasB ys xs[k] = false) : subB xs ys = false := by
  rw [← Bool.not_eq_true]
  intro hs
  have := List.all_eq_true.1 hs _ (List.getElem_mem h)
  change hasB ys xs[k] = true at this
  rw [he] at this; cases this
theorem sub_yes {xs ys : List Int} {k : Nat} (hk : ¬ k < xs.length) (h : ∀ j, (hj : j < xs.length) → j < k → hasB ys xs[j] = true) : subB xs ys = true := by
  unfold subB
  rw [List.all_eq_true]
  intro x hx
  obtain ⟨j, hj, rfl⟩ := List.getElem_of_mem hx
  exact h j hj (by omega)

theorem eq_no {xs ys : List Int} {k : Nat} (h : k < xs.length) (h2 : k < ys.length) (he : xs[k] ≠ ys[k]) : eqB xs ys = false := by
  unfold eqB
  rw [decide_eq_false_iff_not]; rintro rfl; exact he rfl

theorem ascB_badk {l : List Int} {j k : Nat} (h : j < l.length) (h0 : 0 < j) (hk : k = j - 1) (hb : l[j] ≤ l[k]'(by omega)) : ascB l = false := by
  subst hk; exact ascB_bad h h0 hb

end Go.Proofs.YtgbpomakomddjabGreat
end

section
namespace Go.Proofs.YtgbpomakomddjabGreat
open Go.RowKit

end Go.Proofs.YtgbpomakomddjabGreat
end

section
namespace Go.Proofs.YtgbpomakomddjabGreat
open Go.RowKit

theorem map_snocC (l : List Int) (x : Int) : (l ++ [x]).map (Value.int .i64) = l.map (Value.int .i64) ++ [.int .i64 x] := by simp
theorem rd_sub {w : World} {base g cap : Nat} {xs : List Int} (ho : w.ownsRow base 3 1 (.slice (some ⟨g, 0, none⟩) xs.length cap) xs.length (xs.map (.int .i64))) (hl : xs.length ≤ 1099511627776) (i j : Nat) (hij : i ≤ j) (hj : j ≤ xs.length) (n c : Nat) (hn : n = j - i) :
    Rd w (.slice (some ⟨g, i, none⟩) n c) (((xs.take j).drop i).map (.int .i64)) := by
  subst hn
  have hlen : (((xs.take j).drop i).map (Value.int .i64)).length = j - i := by simp; omega
  refine ⟨by rw [hlen]; unfold maxLen; omega, _, c, by rw [hlen], ?_⟩
  refine .inr ⟨g, i, rfl, (ho.lt g rfl).2, fun q hq => ?_⟩
  have hq' : q < j - i := by rw [← hlen]; exact hq
  rw [ho.cellAt (i + q) (by omega)]
  have h1 : i + q < xs.length := by omega
  simp [List.getElem?_eq_getElem h1]
theorem below_pre {xs : List Int} {k : Nat} {x : Int} (hk : k ≤ xs.length) (h : ∀ j, (hj : j < xs.length) → j < k → xs[j] < x) (h2 : k < xs.length → ∀ h : k < xs.length, ¬ xs[k] < x) : kB xs x = k :=
  kB_eq xs x k hk h (fun h => h2 h h)

set_option maxRecDepth 100000 in
set_option maxHeartbeats 2000000 in
theorem specPut_any (xs : List Int) (x : Int) (v : Value) (base : Nat) (w : World) (ho : w.ownsRow base 3 1 v xs.length (xs.map (.int .i64))) (hv : v ≠ .slice none 0 0) (hb : base ≤ w.heap.size) (hlen : xs.length ≤ 1073741824) :
    Calls Tryz.prog 165 #[v, .int .i64 x] w fun e w' => ∃ v', e = .returned v' ∧ w'.ownsRow base 3 1 v' (putB xs x).length ((putB xs x).map (.int .i64)) ∧ v' ≠ .slice none 0 0 ∧ Below w.heap.size w w' := by
  obtain ⟨i0, hi, hz0, hz1, hz2⟩ := info_parts infoInt
  have hr : Rd w v (xs.map (.int .i64)) := own_rd ho (by unfold maxLen; omega)
  rcases ho.2 with ⟨h0, _⟩ | ⟨g, cap, cur, rfl, hg, hh, hnc, hcm, _⟩
  · exact absurd h0 hv
  have HO := Lib.hid ho
  have HR := Lib.hid hr
  have HV := Lib.hid hv
  clear hr hh hv
  rcases hc : hasB xs x with _ | _
  · have HP := Lib.hid (show putB xs x = xs.take (kB xs x) ++ [x] ++ xs.drop (kB xs x) by
      unfold putB; unfold hasB at hc; rw [if_neg (by rw [hc]; exact Bool.false_ne_true)])
    have HC := Lib.hid hc
    clear ho hc
    go_enter Tryz.func165, Tryz.ntmps165
    go_wp2_with fail
    refine (specHas_any xs x _ _ HR.out).mono ?_
    rintro e w1 ⟨rfl, hw⟩
    obtain rfl := hw.symm
    rw [HC.out]
    go_wp2
    go_loopw [5] (fun i wr => ∃ k : Nat, k ≤ xs.length ∧ i = .int .i64 k ∧ w = wr ∧ ∀ j, (h : j < xs.length) → j < k → xs[j] < x) (fun i _ => xs.length - (intOf i).toNat)
    case atStart => exact ⟨0, Nat.zero_le _, rfl, rfl, fun j _ h => absurd h (by omega)⟩
    case round =>
      obtain ⟨k, hk, rfl, rfl, hall⟩ := hrel
      by_cases hgo : ∃ h : k < xs.length, xs[k] < x
      · obtain ⟨hlt, hlx⟩ := hgo
        have hlt' : (k : Int) < (xs.length : Int) := by omega
        have cx : w.cell? ⟨g, k, none⟩ = some (.int .i64 xs[k]) := by
          rw [HO.out.cellAt k (by omega)]; simp [List.getElem?_eq_getElem hlt]
        have HN := Lib.hid (all_succ (p := fun z => z < x) hlt hall hlx)
        clear hall
        generalize xs[k] = y at cx hlx
        go_wp2
        go_roundw
        case rel => exact ⟨k + 1, by omega, by go_num, by trivial, HN.out⟩
        case measure => simp [intOf]; omega
      · have HK := Lib.hid (below_pre hk hall (fun h _ hx => hgo ⟨h, hx⟩))
        clear hall
        by_cases hlt : k < xs.length
        · have hlt' : (k : Int) < (xs.length : Int) := by omega
          have hlx : ¬ xs[k] < x := fun h => hgo ⟨hlt, h⟩
          have cx : w.cell? ⟨g, k, none⟩ = some (.int .i64 xs[k]) := by
            rw [HO.out.cellAt k (by omega)]; simp [List.getElem?_eq_getElem hlt]
          clear hgo
          generalize xs[k] = y at cx hlx
          have R1 : (w.alloc (.cells #[] 3)).ownsRow w.heap.size 3 1 (.slice (some ⟨w.heap.size, 0, none⟩) 0 0) 0 [] := World.ownsRow_made w #[] 0 (Nat.le_refl _) (by decide) rfl
          have R2 := Lib.hid (rd_alloc (rd_sub HO.out (by omega) 0 k (by omega) hk k cap rfl) (.cells #[] 3))
          rw [List.drop_zero] at R2
          have R3 := Lib.hid (fun n c' (hn : n = xs.length - k) => rd_sub HO.out (by omega) k xs.length hk (Nat.le_refl _) n c' hn)
          rw [List.take_length] at R3
          have hkc : k ≤ cap := by omega
          have hkc' : (k : Int) ≤ (cap : Int) := by omega
          have hk' : (k : Int) ≤ (xs.length : Int) := by omega
          go_wp2_with (first
            | (at_builtin; refine app_rd rfl (.tmp 25) (.tmp 28) 25 rfl rfl w.heap.size (.slice (some ⟨w.heap.size, 0, none⟩) 0 0) _ [] (xs.take k) rfl rfl (by exact R1) (by exact R2.out) (nilOk_some _ _ _) (by simp; omega) (by simp) ?_; intro v1 w1 hown1 hg1 hnn1
               have S1 := Lib.hid (And.intro hown1 (And.intro (step_below (Below.refl _ w) hg1 (Nat.le_refl _) (own_mem R1)) (hnn1 (.inl (by simp)))))
               clear hown1 hg1 hnn1 R1)
            | (at_builtin; refine app_rd rfl (.tmp 30) (.tmp 32) 25 rfl rfl w.heap.size _ _ _ [x] rfl rfl (by exact S1.out.1.alloc _) (by exact rd_new _ x _) (nilOk_some _ _ _) (by simp; omega) (by have := S1.out.2.1.size; simp; omega) ?_; intro v2 w2 hown2 hg2 hnn2
               have S2 := Lib.hid (And.intro hown2 (And.intro (step_below S1.out.2.1 hg2 S1.out.2.1.size (own_mem S1.out.1)) (hnn2 (.inl S1.out.2.2))))
               clear hown2 hg2 hnn2)
            | (at_builtin; refine app_rd rfl (.tmp 34) (.tmp 37) 25 rfl rfl w.heap.size _ _ _ (xs.drop k) rfl rfl (by exact S2.out.1) (by exact (R3.out _ _ (by omega)).below S2.out.2.1 (Nat.le_refl _)) (nilOk_some _ _ _) (by simp; omega) (by exact S2.out.2.1.size) ?_; intro v3 w3 hown3 hg3 hnn3
               have S3 := Lib.hid (And.intro hown3 (And.intro (S2.out.2.1.grown hg3 S2.out.2.1.size (own_mem S2.out.1)) (hnn3 (.inl S2.out.2.2))))
               clear hown3 hg3 hnn3))
          all_goals
            go_ret
            refine ⟨v3, rfl, ?_, S3.out.2.2, S3.out.2.1⟩
            rw [HP.out, HK.out]
            exact own_base (by simpa only [List.nil_append] using S3.out.1) hb
        · have hge : ¬ (k : Int) < (xs.length : Int) := by omega
          clear hgo
          have R1 : (w.alloc (.cells #[] 3)).ownsRow w.heap.size 3 1 (.slice (some ⟨w.heap.size, 0, none⟩) 0 0) 0 [] := World.ownsRow_made w #[] 0 (Nat.le_refl _) (by decide) rfl
          have R2 := Lib.hid (rd_alloc (rd_sub HO.out (by omega) 0 k (by omega) hk k cap rfl) (.cells #[] 3))
          rw [List.drop_zero] at R2
          have R3 := Lib.hid (show ∀ A n c', n = xs.length - k → Rd w (.slice A n c') ((xs.drop k).map (.int .i64)) from fun A n c' hn => by
            rw [List.drop_of_length_le (by omega)]; exact rd_zero w A n c' (by omega))
          have hkc : k ≤ cap := by omega
          have hkc' : (k : Int) ≤ (cap : Int) := by omega
          have hk' : (k : Int) ≤ (xs.length : Int) := by omega
          go_wp2_with (first
            | (at_builtin; refine app_rd rfl (.tmp 25) (.tmp 28) 25 rfl rfl w.heap.size (.slice (some ⟨w.heap.size, 0, none⟩) 0 0) _ [] (xs.take k) rfl rfl (by exact R1) (by exact R2.out) (nilOk_some _ _ _) (by simp; omega) (by simp) ?_; intro v1 w1 hown1 hg1 hnn1
               have S1 := Lib.hid (And.intro hown1 (And.intro (step_below (Below.refl _ w) hg1 (Nat.le_refl _) (own_mem R1)) (hnn1 (.inl (by simp)))))
               clear hown1 hg1 hnn1 R1)
            | (at_builtin; refine app_rd rfl (.tmp 30) (.tmp 32) 25 rfl rfl w.heap.size _ _ _ [x] rfl rfl (by exact S1.out.1.alloc _) (by exact rd_new _ x _) (nilOk_some _ _ _) (by simp; omega) (by have := S1.out.2.1.size; simp; omega) ?_; intro v2 w2 hown2 hg2 hnn2
               have S2 := Lib.hid (And.intro hown2 (And.intro (step_below S1.out.2.1 hg2 S1.out.2.1.size (own_mem S1.out.1)) (hnn2 (.inl S1.out.2.2))))
               clear hown2 hg2 hnn2)
            | (at_builtin; refine app_rd rfl (.tmp 34) (.tmp 37) 25 rfl rfl w.heap.size _ _ _ (xs.drop k) rfl rfl (by exact S2.out.1) (by exact (R3.out _ _ _ (by omega)).below S2.out.2.1 (Nat.le_refl _)) (nilOk_ite _ _ _ _ _) (by simp; omega) (by exact S2.out.2.1.size) ?_; intro v3 w3 hown3 hg3 hnn3
               have S3 := Lib.hid (And.intro hown3 (And.intro (S2.out.2.1.grown hg3 S2.out.2.1.size (own_mem S2.out.1)) (hnn3 (.inl S2.out.2.2))))
               clear hown3 hg3 hnn3))
          all_goals
            go_ret
            refine ⟨v3, rfl, ?_, S3.out.2.2, S3.out.2.1⟩
            rw [HP.out, HK.out]
            exact own_base (by simpa only [List.nil_append] using S3.out.1) hb
  · have HP := Lib.hid (show putB xs x = xs by
      unfold putB; unfold hasB at hc; rw [if_pos hc])
    have HC := Lib.hid hc
    clear ho hc
    go_enter Tryz.func165, Tryz.ntmps165
    go_wp2_with fail
    refine (specHas_any xs x _ _ HR.out).mono ?_
    rintro e w1 ⟨rfl, hw⟩
    obtain rfl := hw.symm
    rw [HC.out]
    go_wp2
    go_ret
    refine ⟨_, rfl, ?_, HV.out, Below.refl _ _⟩
    rw [HP.out]
    exact HO.out

theorem fold_step {xs : List Int} {k : Nat} (h : k < xs.length) : setB (xs.take (k + 1)) = putB (setB (xs.take k)) xs[k] := by
  rw [List.take_succ_eq_append_getElem h, setB_snoc]
theorem setB_take_len (xs : List Int) (k : Nat) : (setB (xs.take k)).length ≤ xs.length := Nat.le_trans (len_setB _) (by simp; omega)

set_option maxRecDepth 100000 in
set_option maxHeartbeats 2000000 in
theorem specSetOf_any (xs : List Int) (v : Value) (w : World) (hr : Rd w v (xs.map (.int .i64))) (hlen : xs.length ≤ 1073741823) :
    Calls Tryz.prog 148 #[v] w fun e w' => ∃ v', e = .returned v' ∧ w'.ownsRow w.heap.size 3 1 v' (setB xs).length ((setB xs).map (.int .i64)) ∧ v' ≠ .slice none 0 0 ∧ Below w.heap.size w w' := by
  obtain ⟨hl, A, c, rfl, HR⟩ := rdI hr
  clear hl
  have HA := Lib.hid HR
  clear hr HR
  have hown0 : (w.alloc (.cells #[] 3)).ownsRow w.heap.size 3 1 (.slice (some ⟨w.heap.size, 0, none⟩) 0 0) 0 [] := World.ownsRow_made w #[] 0 (Nat.le_refl _) (by decide) rfl
  have O0 := Lib.hid (And.intro hown0 ((Below.refl _ w).alloc (Nat.le_refl _) (.cells #[] 3)))
  clear hown0
  go_enter Tryz.func148, Tryz.ntmps148
  go_wp2
  go_loopw [3, 9] (fun out i wr => ∃ k : Nat, k ≤ xs.length ∧ i = .int .i64 k ∧ wr.ownsRow w.heap.size 3 1 out (setB (xs.take k)).length ((setB (xs.take k)).map (.int .i64)) ∧ out ≠ .slice none 0 0 ∧ Below w.heap.size w wr) (fun _ i _ => xs.length - (intOf i).toNat)
  case atStart => exact ⟨0, Nat.zero_le _, rfl, O0.out.1, by simp, O0.out.2⟩
  case round =>
    obtain ⟨k, hk, rfl, hown, hnn, hbel⟩ := hrel
    by_cases hlt : k < xs.length
    · have hlt' : (k : Int) < (xs.length : Int) := by omega
      obtain ⟨b, o, rfl, hb, hc⟩ := HA.out k hlt
      have cx := (hbel.cell (p := ⟨b, o + k, none⟩) hb).trans (hc k hlt)
      clear hc
      have HF := Lib.hid (fold_step hlt)
      have hl2 := setB_take_len xs k
      generalize setB (xs.take k) = ys at hown HF hl2
      generalize xs[k] = y at cx HF
      go_wp2_with fail
      refine (specPut_any ys y _ w.heap.size _ hown hnn hbel.size (by omega)).mono ?_
      rintro e w2 ⟨v2, rfl, ho2, hn2, hb2⟩
      rw [← HF.out] at ho2
      have R := Lib.hid (And.intro ho2 (And.intro hn2 (hbel.trans (hb2.mono hbel.size))))
      clear hown hnn hb2 hn2 ho2
      go_wp2
      go_roundw
      case rel => exact ⟨k + 1, by omega, by go_num, R.out.1, R.out.2.1, R.out.2.2⟩
      case measure => simp [intOf]; omega
    · have hge : ¬ (k : Int) < (xs.length : Int) := by omega
      obtain rfl : k = xs.length := by omega
      rw [List.take_of_length_le (Nat.le_refl _)] at hown
      have R := Lib.hid (And.intro hown (And.intro hnn hbel))
      clear hown hnn
      go_wp2
      go_ret
      exact ⟨_, rfl, R.out.1, R.out.2.1, R.out.2.2⟩
end Go.Proofs.YtgbpomakomddjabGreat
end

section
namespace Go.Proofs.YtgbpomakomddjabGreat
open Go.RowKit

def upB (n : Nat) : List Int := (List.range n).map fun (i : Nat) => (i : Int)
theorem upB_succ (k : Nat) : upB (k + 1) = upB k ++ [(k : Int)] := by simp [upB, List.range_succ]
theorem upB_len (k : Nat) : (upB k).length = k := by simp [upB]
def rangeB (n : Int) : List Int := if 0 ≤ n ∧ n ≤ 200 then upB n.toNat else []

set_option maxRecDepth 100000 in
set_option maxHeartbeats 2000000 in
theorem specRange_any (n : Int) (w : World) :
    Calls Tryz.prog 120 #[.int .i64 n] w fun e w' => ∃ v', e = .returned v' ∧ w'.ownsRow w.heap.size 3 1 v' (rangeB n).length ((rangeB n).map (.int .i64)) ∧ Below w.heap.size w w' := by
  by_cases hin : 0 ≤ n ∧ n ≤ 200
  · obtain ⟨m, rfl⟩ : ∃ m : Nat, n = m := ⟨n.toNat, by omega⟩
    have HB := Lib.hid (show rangeB (m : Int) = upB m by unfold rangeB; rw [if_pos hin]; rfl)
    have hm : m ≤ 200 := by omega
    have hown0 : (w.alloc (.cells #[] 3)).ownsRow w.heap.size 3 1 (.slice (some ⟨w.heap.size, 0, none⟩) 0 0) 0 [] := World.ownsRow_made w #[] 0 (Nat.le_refl _) (by decide) rfl
    have O0 := Lib.hid (And.intro hown0 ((Below.refl _ w).alloc (Nat.le_refl _) (.cells #[] 3)))
    have ht : (decide ((0 : Int) ≤ m) && decide ((m : Int) ≤ 200)) = true := by simp; omega
    clear hown0 hin
    go_enter Tryz.func120, Tryz.ntmps120
    go_wp2_with fail
    refine (l01In_any (m : Int) 0 200 _).mono ?_
    rintro e w1 ⟨rfl, rfl⟩
    rw [ht]
    clear ht
    go_wp2
    go_loopw [3, 4] (fun out i wr => ∃ k : Nat, k ≤ m ∧ i = .int .i64 k ∧ wr.ownsRow w.heap.size 3 1 out (upB k).length ((upB k).map (.int .i64)) ∧ Below w.heap.size w wr) (fun _ i _ => m - (intOf i).toNat)
    case atStart => exact ⟨0, Nat.zero_le _, rfl, O0.out.1, O0.out.2⟩
    case round =>
      obtain ⟨k, hk, rfl, hown, hbel⟩ := hrel
      by_cases hlt : k < m
      · have hlt' : (k : Int) < (m : Int) := by omega
        have HF := Lib.hid (upB_succ k)
        have hl := upB_len k
        generalize upB k = zs at hown HF hl
        go_wp2_with (first
          | (at_builtin; refine app_rd rfl (.tmp 14) (.tmp 16) 25 rfl rfl w.heap.size _ _ zs [(k : Int)] rfl rfl (by exact hown.alloc _) (by exact rd_new _ (k : Int) _) (nilOk_some _ _ _) (by simp; omega) (by have := hbel.size; simp; omega) ?_; intro v2 w2 hown2 hg2 _
             have S2 := Lib.hid (And.intro hown2 (step_below hbel hg2 hbel.size (own_mem hown)))
             rw [← HF.out] at S2
             clear hown2 hg2 hown hbel))
        go_roundw
        case rel => exact ⟨k + 1, by omega, by go_num, S2.out.1, S2.out.2⟩
        case measure => simp [intOf]; omega
      · have hge : ¬ (k : Int) < (m : Int) := by omega
        obtain rfl : k = m := by omega
        have R := Lib.hid (And.intro hown hbel)
        clear hown
        go_wp2
        go_ret
        exact ⟨_, rfl, by rw [HB.out]; exact R.out.1, R.out.2⟩
  · have HB := Lib.hid (show rangeB n = [] by unfold rangeB; rw [if_neg hin])
    have ht : (decide ((0 : Int) ≤ n) && decide (n ≤ 200)) = false := by
      rw [← Bool.not_eq_true, Bool.and_eq_true, decide_eq_true_iff, decide_eq_true_iff]; exact hin
    have B0 := Lib.hid ((Below.refl _ w).alloc (Nat.le_refl w.heap.size) (.cells #[] 3))
    go_enter Tryz.func120, Tryz.ntmps120
    go_wp2_with fail
    refine (l01In_any n 0 200 _).mono ?_
    rintro e w1 ⟨rfl, rfl⟩
    rw [ht]
    clear ht hin
    go_wp2
    go_ret
    exact ⟨_, rfl, by rw [HB.out]; exact World.ownsRow_nil _ _ _ _, B0.out⟩

def upI (i : Nat) : Value := .int .i64 i
theorem upI_all (m : Nat) : (List.range m).map upI = (upB m).map (.int .i64) := by simp [upB, upI]

set_option maxRecDepth 100000 in
set_option maxHeartbeats 2000000 in
theorem implRange_any (n : Int) (w : World) :
    Calls Tryz.prog 121 #[.int .i64 n] w fun e w' => ∃ v', e = .returned v' ∧ w'.ownsRow w.heap.size 3 1 v' (rangeB n).length ((rangeB n).map (.int .i64)) ∧ Below w.heap.size w w' := by
  obtain ⟨i0, hi, hz0, hz1, hz2⟩ := info_parts infoInt
  by_cases hin : 0 ≤ n ∧ n ≤ 200
  · obtain ⟨m, rfl⟩ : ∃ m : Nat, n = m := ⟨n.toNat, by omega⟩
    have HB := Lib.hid (show rangeB (m : Int) = upB m by unfold rangeB; rw [if_pos hin]; rfl)
    have hm : m ≤ 200 := by omega
    have h1 : ¬ ((m : Int) < 0) := by omega
    have h2 : ¬ ((m : Int) > 200) := by omega
    clear hin
    go_enter Tryz.func121, Tryz.ntmps121
    go_wp2_with (at_make; refine wpList_make_full _ rfl _ _ 25 rfl w.heap.size 3 i0 (.int .i64 0) 1 Tryz.underlying25 hi hz0 hz1 .i64 .i64 _ _ m rfl rfl rfl rfl (by rw [hz2]; omega) (by unfold maxLen; omega) (Nat.le_refl _) ?_; intro w1 hown1 hgrow1)
    have hbel1 : Below w.heap.size w w1 := (Below.refl _ _).grown hgrow1 (Nat.le_refl _) (by simp)
    have hml := own_len hown1
    generalize hms : (madeCells (Value.int .i64 0).cells (m * 1)).toList = ms at hown1 hml
    have HM := Lib.hid hml
    clear hml hms hgrow1
    go_loopw [15] (fun i wr => ∃ k : Nat, k ≤ m ∧ i = .int .i64 k ∧ wr.ownsRow w.heap.size 3 1 (.slice (some ⟨w.heap.size, 0, none⟩) m m) m (mix upI ms k) ∧ Below w.heap.size w wr) (fun i _ => m - (intOf i).toNat)
    case atStart => exact ⟨0, Nat.zero_le _, rfl, by rw [mix_zero]; exact hown1, hbel1⟩
    case round =>
      obtain ⟨k, hk, rfl, how, hbel⟩ := hrel
      by_cases hlt : k < m
      · have hlt' : (k : Int) < (m : Int) := by omega
        have hgw : w.heap.size < wr.heap.size := (how.lt w.heap.size rfl).2
        have hc : wr.cell? ⟨w.heap.size, k, none⟩ = some ((mix upI ms k)[k]'(by rw [mix_len _ _ (by have := HM.out; omega)]; have := HM.out; omega)) := by
          rw [how.cellAt k (by omega)]; exact List.getElem?_eq_getElem _
        have hf : wr.frozen? ⟨w.heap.size, k, none⟩ = false := how.frozenAt k
        obtain ⟨hs1, _⟩ := how.stored k (upI k)
        rw [mix_set _ _ (by have := HM.out; omega)] at hs1
        have H1 := Lib.hid hs1
        have H2 := Lib.hid (hbel.setCell (p := ⟨w.heap.size, k, none⟩) (Nat.le_refl _) (upI k))
        clear hs1 how hbel
        generalize (mix upI ms k)[k]'_ = z at hc
        change Hid (World.ownsRow (World.setCell wr _ (.int .i64 (k : Int))) _ _ _ _ _ _) at H1
        change Hid (Below _ _ (World.setCell wr _ (.int .i64 (k : Int)))) at H2
        go_wp2
        go_roundw
        case rel => exact ⟨k + 1, by omega, by go_num, H1.out, H2.out⟩
        case measure => simp [intOf]; omega
      · have hge : ¬ (k : Int) < (m : Int) := by omega
        obtain rfl : k = m := by omega
        rw [mix_full _ _ HM.out, upI_all] at how
        have H1 := Lib.hid how
        clear how
        go_wp2
        go_ret
        exact ⟨_, rfl, by rw [HB.out, upB_len]; exact H1.out, hbel⟩
  · have HB := Lib.hid (show rangeB n = [] by unfold rangeB; rw [if_neg hin])
    by_cases h1 : n < 0
    · clear hin
      go_enter Tryz.func121, Tryz.ntmps121
      go_wp2
      go_ret
      exact ⟨_, rfl, by rw [HB.out]; exact World.ownsRow_nil _ _ _ _, Below.refl _ _⟩
    · have h2 : n > 200 := by omega
      clear hin
      go_enter Tryz.func121, Tryz.ntmps121
      go_wp2
      go_ret
      exact ⟨_, rfl, by rw [HB.out]; exact World.ownsRow_nil _ _ _ _, Below.refl _ _⟩
end Go.Proofs.YtgbpomakomddjabGreat
end
