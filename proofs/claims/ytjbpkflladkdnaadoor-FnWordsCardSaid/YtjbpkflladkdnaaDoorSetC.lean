/- DERIVED. CONTRACTS: spec.l02Put, spec.SetOf, spec.SetAdd, spec.SetUnion. -/
import Derived.Test.YtjbpkflladkdnaaDoorSetB
import Derived.Test.YtjbpkflladkdnaaDoorApp
namespace Go.Proofs.YtjbpkflladkdnaaDoor
open Go.RowKit

theorem map_snocI (l : List Int) (x : Int) : (l ++ [x]).map (Value.int .i64) = l.map (Value.int .i64) ++ [.int .i64 x] := by simp
theorem rd_sub {w : World} {base g cap : Nat} {xs : List Int} (ho : w.ownsRow base 3 1 (.slice (some ⟨g, 0, none⟩) xs.length cap) xs.length (xs.map (.int .i64))) (hl : xs.length ≤ 1099511627776) (i j : Nat) (hij : i ≤ j) (hj : j ≤ xs.length) (n c : Nat) (hn : n = j - i) :
    Rd w (.slice (some ⟨g, i, none⟩) n c) (((xs.take j).drop i).map (.int .i64)) := by
  subst hn
  have hlen : (((xs.take j).drop i).map (Value.int .i64)).length = j - i := by simp; omega
  refine ⟨by rw [hlen]; unfold maxLen; omega, _, c, by rw [hlen], ?_⟩
  refine .inr ⟨g, i, rfl, (ho.lt g rfl).2, fun q hq => ?_⟩
  have hq' : q < j - i := by rw [← hlen]; exact hq
  rw [ho.cellAt (i + q) (by omega)]
  have h1 : i + q < xs.length := by omega
  simp [List.getElem?_eq_getElem h1]
theorem below_pre {xs : List Int} {k : Nat} {x : Int} (hk : k ≤ xs.length) (h : ∀ j, (hj : j < xs.length) → j < k → xs[j] < x) (h2 : k < xs.length → ∀ h : k < xs.length, ¬ xs[k] < x) : kB xs x = k :=
  kB_eq xs x k hk h (fun h => h2 h h)

set_option maxRecDepth 100000 in
set_option maxHeartbeats 2000000 in
theorem specPut_any (xs : List Int) (x : Int) (v : Value) (base : Nat) (w : World) (ho : w.ownsRow base 3 1 v xs.length (xs.map (.int .i64))) (hv : v ≠ .slice none 0 0) (hb : base ≤ w.heap.size) (hlen : xs.length ≤ 1073741824) :
    Calls Tryd.prog 36 #[v, .int .i64 x] w fun e w' => ∃ v', e = .returned v' ∧ w'.ownsRow base 3 1 v' (putB xs x).length ((putB xs x).map (.int .i64)) ∧ v' ≠ .slice none 0 0 ∧ Below w.heap.size w w' := by
  obtain ⟨i0, hi, hz0, hz1, hz2⟩ := info_parts infoInt
  have hr : Rd w v (xs.map (.int .i64)) := own_rd ho (by unfold maxLen; omega)
  rcases ho.2 with ⟨h0, _⟩ | ⟨g, cap, cur, rfl, hg, hh, hnc, hcm, _⟩
  · exact absurd h0 hv
  have HO := Lib.hid ho
  have HR := Lib.hid hr
  have HV := Lib.hid hv
  clear hr hh hv
  rcases hc : hasB xs x with _ | _
  · have HP := Lib.hid (show putB xs x = xs.take (kB xs x) ++ [x] ++ xs.drop (kB xs x) by
      unfold putB; unfold hasB at hc; rw [if_neg (by rw [hc]; exact Bool.false_ne_true)])
    have HC := Lib.hid hc
    clear ho hc
    go_enter Tryd.func36, Tryd.ntmps36
    go_wp2_with fail
    refine (specHas_any xs x _ _ HR.out).mono ?_
    rintro e w1 ⟨rfl, hw⟩
    obtain rfl := hw.symm
    rw [HC.out]
    go_wp2
    go_loopw [5] (fun i wr => ∃ k : Nat, k ≤ xs.length ∧ i = .int .i64 k ∧ w = wr ∧ ∀ j, (h : j < xs.length) → j < k → xs[j] < x) (fun i _ => xs.length - (intOf i).toNat)
    case atStart => exact ⟨0, Nat.zero_le _, rfl, rfl, fun j _ h => absurd h (by omega)⟩
    case round =>
      obtain ⟨k, hk, rfl, rfl, hall⟩ := hrel
      by_cases hgo : ∃ h : k < xs.length, xs[k] < x
      · obtain ⟨hlt, hlx⟩ := hgo
        have hlt' : (k : Int) < (xs.length : Int) := by omega
        have cx : w.cell? ⟨g, k, none⟩ = some (.int .i64 xs[k]) := by
          rw [HO.out.cellAt k (by omega)]; simp [List.getElem?_eq_getElem hlt]
        have HN := Lib.hid (all_succ (p := fun z => z < x) hlt hall hlx)
        clear hall
        generalize xs[k] = y at cx hlx
        go_wp2
        go_roundw
        case rel => exact ⟨k + 1, by omega, by go_num, by trivial, HN.out⟩
        case measure => simp [intOf]; omega
      · have HK := Lib.hid (below_pre hk hall (fun h _ hx => hgo ⟨h, hx⟩))
        clear hall
        by_cases hlt : k < xs.length
        · have hlt' : (k : Int) < (xs.length : Int) := by omega
          have hlx : ¬ xs[k] < x := fun h => hgo ⟨hlt, h⟩
          have cx : w.cell? ⟨g, k, none⟩ = some (.int .i64 xs[k]) := by
            rw [HO.out.cellAt k (by omega)]; simp [List.getElem?_eq_getElem hlt]
          clear hgo
          generalize xs[k] = y at cx hlx
          have R1 : (w.alloc (.cells #[] 3)).ownsRow w.heap.size 3 1 (.slice (some ⟨w.heap.size, 0, none⟩) 0 0) 0 [] := World.ownsRow_made w #[] 0 (Nat.le_refl _) (by decide) rfl
          have R2 := Lib.hid (rd_alloc (rd_sub HO.out (by omega) 0 k (by omega) hk k cap rfl) (.cells #[] 3))
          rw [List.drop_zero] at R2
          have R3 := Lib.hid (fun n c' (hn : n = xs.length - k) => rd_sub HO.out (by omega) k xs.length hk (Nat.le_refl _) n c' hn)
          rw [List.take_length] at R3
          have hkc : k ≤ cap := by omega
          have hkc' : (k : Int) ≤ (cap : Int) := by omega
          have hk' : (k : Int) ≤ (xs.length : Int) := by omega
          go_wp2_with (first
            | (at_builtin; refine app_rd rfl (.tmp 25) (.tmp 28) 24 rfl rfl w.heap.size (.slice (some ⟨w.heap.size, 0, none⟩) 0 0) _ [] (xs.take k) rfl rfl (by exact R1) (by exact R2.out) (nilOk_some _ _ _) (by simp; omega) (by simp) ?_; intro v1 w1 hown1 hg1 hnn1
               have S1 := Lib.hid (And.intro hown1 (And.intro (step_below (Below.refl _ w) hg1 (Nat.le_refl _) (own_mem R1)) (hnn1 (.inl (by simp)))))
               clear hown1 hg1 hnn1 R1)
            | (at_builtin; refine app_rd rfl (.tmp 30) (.tmp 32) 24 rfl rfl w.heap.size _ _ _ [x] rfl rfl (by exact S1.out.1.alloc _) (by exact rd_new _ x _) (nilOk_some _ _ _) (by simp; omega) (by have := S1.out.2.1.size; simp; omega) ?_; intro v2 w2 hown2 hg2 hnn2
               have S2 := Lib.hid (And.intro hown2 (And.intro (step_below S1.out.2.1 hg2 S1.out.2.1.size (own_mem S1.out.1)) (hnn2 (.inl S1.out.2.2))))
               clear hown2 hg2 hnn2)
            | (at_builtin; refine app_rd rfl (.tmp 34) (.tmp 37) 24 rfl rfl w.heap.size _ _ _ (xs.drop k) rfl rfl (by exact S2.out.1) (by exact (R3.out _ _ (by omega)).below S2.out.2.1 (Nat.le_refl _)) (nilOk_some _ _ _) (by simp; omega) (by exact S2.out.2.1.size) ?_; intro v3 w3 hown3 hg3 hnn3
               have S3 := Lib.hid (And.intro hown3 (And.intro (S2.out.2.1.grown hg3 S2.out.2.1.size (own_mem S2.out.1)) (hnn3 (.inl S2.out.2.2))))
               clear hown3 hg3 hnn3))
          all_goals
            go_ret
            refine ⟨v3, rfl, ?_, S3.out.2.2, S3.out.2.1⟩
            rw [HP.out, HK.out]
            exact own_base (by simpa only [List.nil_append] using S3.out.1) hb
        · have hge : ¬ (k : Int) < (xs.length : Int) := by omega
          clear hgo
          have R1 : (w.alloc (.cells #[] 3)).ownsRow w.heap.size 3 1 (.slice (some ⟨w.heap.size, 0, none⟩) 0 0) 0 [] := World.ownsRow_made w #[] 0 (Nat.le_refl _) (by decide) rfl
          have R2 := Lib.hid (rd_alloc (rd_sub HO.out (by omega) 0 k (by omega) hk k cap rfl) (.cells #[] 3))
          rw [List.drop_zero] at R2
          have R3 := Lib.hid (show ∀ A n c', n = xs.length - k → Rd w (.slice A n c') ((xs.drop k).map (.int .i64)) from fun A n c' hn => by
            rw [List.drop_of_length_le (by omega)]; exact rd_zero w A n c' (by omega))
          have hkc : k ≤ cap := by omega
          have hkc' : (k : Int) ≤ (cap : Int) := by omega
          have hk' : (k : Int) ≤ (xs.length : Int) := by omega
          go_wp2_with (first
            | (at_builtin; refine app_rd rfl (.tmp 25) (.tmp 28) 24 rfl rfl w.heap.size (.slice (some ⟨w.heap.size, 0, none⟩) 0 0) _ [] (xs.take k) rfl rfl (by exact R1) (by exact R2.out) (nilOk_some _ _ _) (by simp; omega) (by simp) ?_; intro v1 w1 hown1 hg1 hnn1
               have S1 := Lib.hid (And.intro hown1 (And.intro (step_below (Below.refl _ w) hg1 (Nat.le_refl _) (own_mem R1)) (hnn1 (.inl (by simp)))))
               clear hown1 hg1 hnn1 R1)
            | (at_builtin; refine app_rd rfl (.tmp 30) (.tmp 32) 24 rfl rfl w.heap.size _ _ _ [x] rfl rfl (by exact S1.out.1.alloc _) (by exact rd_new _ x _) (nilOk_some _ _ _) (by simp; omega) (by have := S1.out.2.1.size; simp; omega) ?_; intro v2 w2 hown2 hg2 hnn2
               have S2 := Lib.hid (And.intro hown2 (And.intro (step_below S1.out.2.1 hg2 S1.out.2.1.size (own_mem S1.out.1)) (hnn2 (.inl S1.out.2.2))))
               clear hown2 hg2 hnn2)
            | (at_builtin; refine app_rd rfl (.tmp 34) (.tmp 37) 24 rfl rfl w.heap.size _ _ _ (xs.drop k) rfl rfl (by exact S2.out.1) (by exact (R3.out _ _ _ (by omega)).below S2.out.2.1 (Nat.le_refl _)) (nilOk_ite _ _ _ _ _) (by simp; omega) (by exact S2.out.2.1.size) ?_; intro v3 w3 hown3 hg3 hnn3
               have S3 := Lib.hid (And.intro hown3 (And.intro (S2.out.2.1.grown hg3 S2.out.2.1.size (own_mem S2.out.1)) (hnn3 (.inl S2.out.2.2))))
               clear hown3 hg3 hnn3))
          all_goals
            go_ret
            refine ⟨v3, rfl, ?_, S3.out.2.2, S3.out.2.1⟩
            rw [HP.out, HK.out]
            exact own_base (by simpa only [List.nil_append] using S3.out.1) hb
  · have HP := Lib.hid (show putB xs x = xs by
      unfold putB; unfold hasB at hc; rw [if_pos hc])
    have HC := Lib.hid hc
    clear ho hc
    go_enter Tryd.func36, Tryd.ntmps36
    go_wp2_with fail
    refine (specHas_any xs x _ _ HR.out).mono ?_
    rintro e w1 ⟨rfl, hw⟩
    obtain rfl := hw.symm
    rw [HC.out]
    go_wp2
    go_ret
    refine ⟨_, rfl, ?_, HV.out, Below.refl _ _⟩
    rw [HP.out]
    exact HO.out

theorem fold_step {xs : List Int} {k : Nat} (h : k < xs.length) : setB (xs.take (k + 1)) = putB (setB (xs.take k)) xs[k] := by
  rw [List.take_succ_eq_append_getElem h, setB_snoc]
theorem setB_take_len (xs : List Int) (k : Nat) : (setB (xs.take k)).length ≤ xs.length := Nat.le_trans (len_setB _) (by simp; omega)

set_option maxRecDepth 100000 in
set_option maxHeartbeats 2000000 in
theorem specSetOf_any (xs : List Int) (v : Value) (w : World) (hr : Rd w v (xs.map (.int .i64))) (hlen : xs.length ≤ 1073741823) :
    Calls Tryd.prog 29 #[v] w fun e w' => ∃ v', e = .returned v' ∧ w'.ownsRow w.heap.size 3 1 v' (setB xs).length ((setB xs).map (.int .i64)) ∧ v' ≠ .slice none 0 0 ∧ Below w.heap.size w w' := by
  obtain ⟨hl, A, c, rfl, HR⟩ := rdI hr
  clear hl
  have HA := Lib.hid HR
  clear hr HR
  have hown0 : (w.alloc (.cells #[] 3)).ownsRow w.heap.size 3 1 (.slice (some ⟨w.heap.size, 0, none⟩) 0 0) 0 [] := World.ownsRow_made w #[] 0 (Nat.le_refl _) (by decide) rfl
  have O0 := Lib.hid (And.intro hown0 ((Below.refl _ w).alloc (Nat.le_refl _) (.cells #[] 3)))
  clear hown0
  go_enter Tryd.func29, Tryd.ntmps29
  go_wp2
  go_loopw [3, 9] (fun out i wr => ∃ k : Nat, k ≤ xs.length ∧ i = .int .i64 k ∧ wr.ownsRow w.heap.size 3 1 out (setB (xs.take k)).length ((setB (xs.take k)).map (.int .i64)) ∧ out ≠ .slice none 0 0 ∧ Below w.heap.size w wr) (fun _ i _ => xs.length - (intOf i).toNat)
  case atStart => exact ⟨0, Nat.zero_le _, rfl, O0.out.1, by simp, O0.out.2⟩
  case round =>
    obtain ⟨k, hk, rfl, hown, hnn, hbel⟩ := hrel
    by_cases hlt : k < xs.length
    · have hlt' : (k : Int) < (xs.length : Int) := by omega
      obtain ⟨b, o, rfl, hb, hc⟩ := HA.out k hlt
      have cx := (hbel.cell (p := ⟨b, o + k, none⟩) hb).trans (hc k hlt)
      clear hc
      have HF := Lib.hid (fold_step hlt)
      have hl2 := setB_take_len xs k
      generalize setB (xs.take k) = ys at hown HF hl2
      generalize xs[k] = y at cx HF
      go_wp2_with fail
      refine (specPut_any ys y _ w.heap.size _ hown hnn hbel.size (by omega)).mono ?_
      rintro e w2 ⟨v2, rfl, ho2, hn2, hb2⟩
      rw [← HF.out] at ho2
      have R := Lib.hid (And.intro ho2 (And.intro hn2 (hbel.trans (hb2.mono hbel.size))))
      clear hown hnn hb2 hn2 ho2
      go_wp2
      go_roundw
      case rel => exact ⟨k + 1, by omega, by go_num, R.out.1, R.out.2.1, R.out.2.2⟩
      case measure => simp [intOf]; omega
    · have hge : ¬ (k : Int) < (xs.length : Int) := by omega
      obtain rfl : k = xs.length := by omega
      rw [List.take_of_length_le (Nat.le_refl _)] at hown
      have R := Lib.hid (And.intro hown (And.intro hnn hbel))
      clear hown hnn
      go_wp2
      go_ret
      exact ⟨_, rfl, R.out.1, R.out.2.1, R.out.2.2⟩
end Go.Proofs.YtjbpkflladkdnaaDoor
