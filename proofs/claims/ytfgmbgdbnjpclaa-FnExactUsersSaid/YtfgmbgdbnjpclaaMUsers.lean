/- FnExactUsers at the commit in COMMIT: the law returns true for every input, and each argument reads behind the call as it read before. No condition. -/
import Derived.Test.YtfgmbgdbnjpclaaTrm
import Derived.Test.YtfgmbgdbnjpclaaApp
import Derived.Maps.AppendAt
import Derived.Test.YtfgmbgdbnjpclaaSetA
import Derived.Test.YtfgmbgdbnjpclaaIn
import Derived.Test.YtfgmbgdbnjpclaaHof
import Derived.Test.YtfgmbgdbnjpclaaTMode
import Derived.Test.YtfgmbgdbnjpclaaPrE
import Derived.Test.YtfgmbgdbnjpclaaTProject
import Derived.Test.YtfgmbgdbnjpclaaTInt
import Derived.Deep.RegionWith
import Derived.Test.YtfgmbgdbnjpclaaRows
import Derived.Test.YtfgmbgdbnjpclaaBase
import Derived.Test.YtfgmbgdbnjpclaaOpenProject
import Derived.WalkKit
import Derived.ProofKit
import Derived.OpenShut
import Derived.ShutString
import Derived.ChangeOld
import Derived.SliceStrings

section
namespace Go.Proofs.Ytfgmbgdbnjpclaa
open Go.RowKit

section
variable {w0 W W' : World} {L : List Item}
theorem Sn.turn {r : Item} {t' : Tr} {v' : Value} {F' : List Nat} (h : Sn w0 W (r :: L)) (ho : t'.own W' w0.heap.size v' F') (hn : F'.Nodup) (hs : ∀ k ∈ F', k ∈ r.F ∨ W.heap.size ≤ k) (hw : Wr r.F W W') : Sn w0 W' (⟨t', v', F'⟩ :: L) := by
  have hlt := Tr.own_lt _ _ _ h.2.1
  have hl2 := h.2.2.2.2.lt
  have hap := h.2.2.2.1
  refine ⟨hw.below h.1 h.1.size (fun k hk => (hlt k hk).1), ho, hn, fun s hs' k hk hk2 => ?_, h.2.2.2.2.keep (fun s hs' k hk => hw.block k (hl2 s hs' k hk).2 (fun e => hap s hs' k e hk))⟩
  rcases hs k hk with h1 | h1
  · exact hap s hs' k h1 hk2
  · have := (hl2 s hs' k hk2).2; omega
theorem Sn.nilR {α : Type} (e : TypeId) (s : Nat) (f : α → List Tr) (h : Sn w0 W L) : Sn w0 W (⟨rows e s f [], .slice none 0 0, []⟩ :: L) :=
  ⟨h.1, ⟨[], [], ⟨by simp, .inl ⟨rfl, rfl⟩⟩, ⟨rfl, rfl⟩, rfl⟩, by simp, fun _ _ _ hk => by simp at hk, h.2⟩
theorem Sn.nilI (h : Sn w0 W L) : Sn w0 W (⟨trI [], .slice none 0 0, []⟩ :: L) := h.nilR (α := Nat) 3 1 (fun _ => [])
theorem Sn.emptyR {α : Type} (e : TypeId) (s : Nat) (f : α → List Tr) (h : Sn w0 W L) : Sn w0 (W.alloc (.cells #[] e)) (⟨rows e s f [], .slice (some ⟨W.heap.size, 0, none⟩) 0 0, [W.heap.size]⟩ :: L) :=
  h.new ⟨[], [], ⟨by simp, .inr ⟨W.heap.size, 0, #[], rfl, Nat.le_refl _, heap_alloc_new W _, Nat.le_refl _, by unfold maxLen; omega, by simp, by simp⟩⟩, ⟨rfl, rfl⟩, rfl⟩ (by simp) ((Below.refl _ _).alloc (Nat.le_refl _) _)
theorem Sn.emptyI (h : Sn w0 W L) : Sn w0 (W.alloc (.cells #[] 3)) (⟨trI [], .slice (some ⟨W.heap.size, 0, none⟩) 0 0, [W.heap.size]⟩ :: L) := h.emptyR (α := Nat) 3 1 (fun _ => [])
theorem Sn.ownRI {us : List Int} {v : Value} {F : List Nat} (h : Sn w0 W (⟨trI us, v, F⟩ :: L)) : W.ownsRow w0.heap.size 3 1 v us.length (us.map (.int .i64)) := by
  have := (own_flat h.2.1).1
  simpa using this
theorem Sn.appI2 {w6 : World} {us : List Int} {v v' : Value} {F : List Nat} {r : Int} {n : Nat} {o : Obj}
    (h : Sn w0 W (⟨trI us, v, F⟩ :: L)) (hown : w6.ownsRow w0.heap.size 3 1 v' n (us.map (.int .i64) ++ [.int .i64 r]))
    (hg : (W.alloc o).grownBy w6 v.ownBlock) (hat : v'.ownBlock = v.ownBlock ∨ v'.ownBlock = some (W.heap.size + 1)) : ∃ F', Sn w0 w6 (⟨trI (us ++ [r]), v', F'⟩ :: L) := by
  have h1 := h.go ((Below.refl W.heap.size W).alloc (Nat.le_refl _) o)
  have hF : F = v.ownBlock.toList := (own_flat h1.2.1).2
  have hw : Wr F (W.alloc o) w6 := hF ▸ Wr.of_grown hg
  refine ⟨_, h1.turn (t' := trI (us ++ [r])) (flat_own (by simpa using hown)).1 (flat_own (by simpa using hown)).2 (fun k hk => ?_) hw⟩
  rcases hat with h2 | h2
  · left; show k ∈ F; rw [hF, ← h2]; exact hk
  · right
    rw [h2] at hk
    simp at hk
    rw [World.size_alloc]; omega
end
theorem one_cell (w : World) (x : Value) (t : TypeId) : ∀ j u, [x][j]? = some u → (w.alloc (.cells #[x] t)).cell? ((⟨w.heap.size, 0, none⟩ : Addr).add j) = some u := new_cell w x t
end Go.Proofs.Ytfgmbgdbnjpclaa
end

section
namespace Go.Proofs.Ytfgmbgdbnjpclaa
open Go.RowKit

end Go.Proofs.Ytfgmbgdbnjpclaa
end

section
namespace Go.Proofs.Ytfgmbgdbnjpclaa
open Go.RowKit

theorem map_snocI (l : List Int) (x : Int) : (l ++ [x]).map (Value.int .i64) = l.map (Value.int .i64) ++ [.int .i64 x] := by simp
theorem rd_sub {w : World} {base g cap : Nat} {xs : List Int} (ho : w.ownsRow base 3 1 (.slice (some ⟨g, 0, none⟩) xs.length cap) xs.length (xs.map (.int .i64))) (hl : xs.length ≤ 1099511627776) (i j : Nat) (hij : i ≤ j) (hj : j ≤ xs.length) (n c : Nat) (hn : n = j - i) :
    Rd w (.slice (some ⟨g, i, none⟩) n c) (((xs.take j).drop i).map (.int .i64)) := by
  subst hn
  have hlen : (((xs.take j).drop i).map (Value.int .i64)).length = j - i := by simp; omega
  refine ⟨by rw [hlen]; unfold maxLen; omega, _, c, by rw [hlen], ?_⟩
  refine .inr ⟨g, i, rfl, (ho.lt g rfl).2, fun q hq => ?_⟩
  have hq' : q < j - i := by rw [← hlen]; exact hq
  rw [ho.cellAt (i + q) (by omega)]
  have h1 : i + q < xs.length := by omega
  simp [List.getElem?_eq_getElem h1]
theorem below_pre {xs : List Int} {k : Nat} {x : Int} (hk : k ≤ xs.length) (h : ∀ j, (hj : j < xs.length) → j < k → xs[j] < x) (h2 : k < xs.length → ∀ h : k < xs.length, ¬ xs[k] < x) : kB xs x = k :=
  kB_eq xs x k hk h (fun h => h2 h h)

set_option maxRecDepth 100000 in
set_option maxHeartbeats 2000000 in
theorem specPut_any (xs : List Int) (x : Int) (v : Value) (base : Nat) (w : World) (ho : w.ownsRow base 3 1 v xs.length (xs.map (.int .i64))) (hv : v ≠ .slice none 0 0) (hb : base ≤ w.heap.size) (hlen : xs.length ≤ 1073741824) :
    Calls Try.prog 114 #[v, .int .i64 x] w fun e w' => ∃ v', e = .returned v' ∧ w'.ownsRow base 3 1 v' (putB xs x).length ((putB xs x).map (.int .i64)) ∧ v' ≠ .slice none 0 0 ∧ Below w.heap.size w w' := by
  obtain ⟨i0, hi, hz0, hz1, hz2⟩ := info_parts infoInt
  have hr : Rd w v (xs.map (.int .i64)) := own_rd ho (by unfold maxLen; omega)
  rcases ho.2 with ⟨h0, _⟩ | ⟨g, cap, cur, rfl, hg, hh, hnc, hcm, _⟩
  · exact absurd h0 hv
  have HO := Lib.hid ho
  have HR := Lib.hid hr
  have HV := Lib.hid hv
  clear hr hh hv
  rcases hc : hasB xs x with _ | _
  · have HP := Lib.hid (show putB xs x = xs.take (kB xs x) ++ [x] ++ xs.drop (kB xs x) by
      unfold putB; unfold hasB at hc; rw [if_neg (by rw [hc]; exact Bool.false_ne_true)])
    have HC := Lib.hid hc
    clear ho hc
    go_enter Try.func114, Try.ntmps114
    go_wp2_with fail
    refine (specHas_any xs x _ _ HR.out).mono ?_
    rintro e w1 ⟨rfl, hw⟩
    obtain rfl := hw.symm
    rw [HC.out]
    go_wp2
    go_loopw [5] (fun i wr => ∃ k : Nat, k ≤ xs.length ∧ i = .int .i64 k ∧ w = wr ∧ ∀ j, (h : j < xs.length) → j < k → xs[j] < x) (fun i _ => xs.length - (intOf i).toNat)
    case atStart => exact ⟨0, Nat.zero_le _, rfl, rfl, fun j _ h => absurd h (by omega)⟩
    case round =>
      obtain ⟨k, hk, rfl, rfl, hall⟩ := hrel
      by_cases hgo : ∃ h : k < xs.length, xs[k] < x
      · obtain ⟨hlt, hlx⟩ := hgo
        have hlt' : (k : Int) < (xs.length : Int) := by omega
        have cx : w.cell? ⟨g, k, none⟩ = some (.int .i64 xs[k]) := by
          rw [HO.out.cellAt k (by omega)]; simp [List.getElem?_eq_getElem hlt]
        have HN := Lib.hid (all_succ (p := fun z => z < x) hlt hall hlx)
        clear hall
        generalize xs[k] = y at cx hlx
        go_wp2
        go_roundw
        case rel => exact ⟨k + 1, by omega, by go_num, by trivial, HN.out⟩
        case measure => simp [intOf]; omega
      · have HK := Lib.hid (below_pre hk hall (fun h _ hx => hgo ⟨h, hx⟩))
        clear hall
        by_cases hlt : k < xs.length
        · have hlt' : (k : Int) < (xs.length : Int) := by omega
          have hlx : ¬ xs[k] < x := fun h => hgo ⟨hlt, h⟩
          have cx : w.cell? ⟨g, k, none⟩ = some (.int .i64 xs[k]) := by
            rw [HO.out.cellAt k (by omega)]; simp [List.getElem?_eq_getElem hlt]
          clear hgo
          generalize xs[k] = y at cx hlx
          have R1 : (w.alloc (.cells #[] 3)).ownsRow w.heap.size 3 1 (.slice (some ⟨w.heap.size, 0, none⟩) 0 0) 0 [] := World.ownsRow_made w #[] 0 (Nat.le_refl _) (by decide) rfl
          have R2 := Lib.hid (rd_alloc (rd_sub HO.out (by omega) 0 k (by omega) hk k cap rfl) (.cells #[] 3))
          rw [List.drop_zero] at R2
          have R3 := Lib.hid (fun n c' (hn : n = xs.length - k) => rd_sub HO.out (by omega) k xs.length hk (Nat.le_refl _) n c' hn)
          rw [List.take_length] at R3
          have hkc : k ≤ cap := by omega
          have hkc' : (k : Int) ≤ (cap : Int) := by omega
          have hk' : (k : Int) ≤ (xs.length : Int) := by omega
          go_wp2_with (first
            | (at_builtin; refine app_rd rfl (.tmp 25) (.tmp 28) 37 rfl rfl w.heap.size (.slice (some ⟨w.heap.size, 0, none⟩) 0 0) _ [] (xs.take k) rfl rfl (by exact R1) (by exact R2.out) (nilOk_some _ _ _) (by simp; omega) (by simp) ?_; intro v1 w1 hown1 hg1 hnn1
               have S1 := Lib.hid (And.intro hown1 (And.intro (step_below (Below.refl _ w) hg1 (Nat.le_refl _) (own_mem R1)) (hnn1 (.inl (by simp)))))
               clear hown1 hg1 hnn1 R1)
            | (at_builtin; refine app_rd rfl (.tmp 30) (.tmp 32) 37 rfl rfl w.heap.size _ _ _ [x] rfl rfl (by exact S1.out.1.alloc _) (by exact rd_new _ x _) (nilOk_some _ _ _) (by simp; omega) (by have := S1.out.2.1.size; simp; omega) ?_; intro v2 w2 hown2 hg2 hnn2
               have S2 := Lib.hid (And.intro hown2 (And.intro (step_below S1.out.2.1 hg2 S1.out.2.1.size (own_mem S1.out.1)) (hnn2 (.inl S1.out.2.2))))
               clear hown2 hg2 hnn2)
            | (at_builtin; refine app_rd rfl (.tmp 34) (.tmp 37) 37 rfl rfl w.heap.size _ _ _ (xs.drop k) rfl rfl (by exact S2.out.1) (by exact (R3.out _ _ (by omega)).below S2.out.2.1 (Nat.le_refl _)) (nilOk_some _ _ _) (by simp; omega) (by exact S2.out.2.1.size) ?_; intro v3 w3 hown3 hg3 hnn3
               have S3 := Lib.hid (And.intro hown3 (And.intro (S2.out.2.1.grown hg3 S2.out.2.1.size (own_mem S2.out.1)) (hnn3 (.inl S2.out.2.2))))
               clear hown3 hg3 hnn3))
          all_goals
            go_ret
            refine ⟨v3, rfl, ?_, S3.out.2.2, S3.out.2.1⟩
            rw [HP.out, HK.out]
            exact own_base (by simpa only [List.nil_append] using S3.out.1) hb
        · have hge : ¬ (k : Int) < (xs.length : Int) := by omega
          clear hgo
          have R1 : (w.alloc (.cells #[] 3)).ownsRow w.heap.size 3 1 (.slice (some ⟨w.heap.size, 0, none⟩) 0 0) 0 [] := World.ownsRow_made w #[] 0 (Nat.le_refl _) (by decide) rfl
          have R2 := Lib.hid (rd_alloc (rd_sub HO.out (by omega) 0 k (by omega) hk k cap rfl) (.cells #[] 3))
          rw [List.drop_zero] at R2
          have R3 := Lib.hid (show ∀ A n c', n = xs.length - k → Rd w (.slice A n c') ((xs.drop k).map (.int .i64)) from fun A n c' hn => by
            rw [List.drop_of_length_le (by omega)]; exact rd_zero w A n c' (by omega))
          have hkc : k ≤ cap := by omega
          have hkc' : (k : Int) ≤ (cap : Int) := by omega
          have hk' : (k : Int) ≤ (xs.length : Int) := by omega
          go_wp2_with (first
            | (at_builtin; refine app_rd rfl (.tmp 25) (.tmp 28) 37 rfl rfl w.heap.size (.slice (some ⟨w.heap.size, 0, none⟩) 0 0) _ [] (xs.take k) rfl rfl (by exact R1) (by exact R2.out) (nilOk_some _ _ _) (by simp; omega) (by simp) ?_; intro v1 w1 hown1 hg1 hnn1
               have S1 := Lib.hid (And.intro hown1 (And.intro (step_below (Below.refl _ w) hg1 (Nat.le_refl _) (own_mem R1)) (hnn1 (.inl (by simp)))))
               clear hown1 hg1 hnn1 R1)
            | (at_builtin; refine app_rd rfl (.tmp 30) (.tmp 32) 37 rfl rfl w.heap.size _ _ _ [x] rfl rfl (by exact S1.out.1.alloc _) (by exact rd_new _ x _) (nilOk_some _ _ _) (by simp; omega) (by have := S1.out.2.1.size; simp; omega) ?_; intro v2 w2 hown2 hg2 hnn2
               have S2 := Lib.hid (And.intro hown2 (And.intro (step_below S1.out.2.1 hg2 S1.out.2.1.size (own_mem S1.out.1)) (hnn2 (.inl S1.out.2.2))))
               clear hown2 hg2 hnn2)
            | (at_builtin; refine app_rd rfl (.tmp 34) (.tmp 37) 37 rfl rfl w.heap.size _ _ _ (xs.drop k) rfl rfl (by exact S2.out.1) (by exact (R3.out _ _ _ (by omega)).below S2.out.2.1 (Nat.le_refl _)) (nilOk_ite _ _ _ _ _) (by simp; omega) (by exact S2.out.2.1.size) ?_; intro v3 w3 hown3 hg3 hnn3
               have S3 := Lib.hid (And.intro hown3 (And.intro (S2.out.2.1.grown hg3 S2.out.2.1.size (own_mem S2.out.1)) (hnn3 (.inl S2.out.2.2))))
               clear hown3 hg3 hnn3))
          all_goals
            go_ret
            refine ⟨v3, rfl, ?_, S3.out.2.2, S3.out.2.1⟩
            rw [HP.out, HK.out]
            exact own_base (by simpa only [List.nil_append] using S3.out.1) hb
  · have HP := Lib.hid (show putB xs x = xs by
      unfold putB; unfold hasB at hc; rw [if_pos hc])
    have HC := Lib.hid hc
    clear ho hc
    go_enter Try.func114, Try.ntmps114
    go_wp2_with fail
    refine (specHas_any xs x _ _ HR.out).mono ?_
    rintro e w1 ⟨rfl, hw⟩
    obtain rfl := hw.symm
    rw [HC.out]
    go_wp2
    go_ret
    refine ⟨_, rfl, ?_, HV.out, Below.refl _ _⟩
    rw [HP.out]
    exact HO.out

theorem fold_step {xs : List Int} {k : Nat} (h : k < xs.length) : setB (xs.take (k + 1)) = putB (setB (xs.take k)) xs[k] := by
  rw [List.take_succ_eq_append_getElem h, setB_snoc]
theorem setB_take_len (xs : List Int) (k : Nat) : (setB (xs.take k)).length ≤ xs.length := Nat.le_trans (len_setB _) (by simp; omega)

set_option maxRecDepth 100000 in
set_option maxHeartbeats 2000000 in
theorem specSetOf_any (xs : List Int) (v : Value) (w : World) (hr : Rd w v (xs.map (.int .i64))) (hlen : xs.length ≤ 1073741823) :
    Calls Try.prog 115 #[v] w fun e w' => ∃ v', e = .returned v' ∧ w'.ownsRow w.heap.size 3 1 v' (setB xs).length ((setB xs).map (.int .i64)) ∧ v' ≠ .slice none 0 0 ∧ Below w.heap.size w w' := by
  obtain ⟨hl, A, c, rfl, HR⟩ := rdI hr
  clear hl
  have HA := Lib.hid HR
  clear hr HR
  have hown0 : (w.alloc (.cells #[] 3)).ownsRow w.heap.size 3 1 (.slice (some ⟨w.heap.size, 0, none⟩) 0 0) 0 [] := World.ownsRow_made w #[] 0 (Nat.le_refl _) (by decide) rfl
  have O0 := Lib.hid (And.intro hown0 ((Below.refl _ w).alloc (Nat.le_refl _) (.cells #[] 3)))
  clear hown0
  go_enter Try.func115, Try.ntmps115
  go_wp2
  go_loopw [3, 9] (fun out i wr => ∃ k : Nat, k ≤ xs.length ∧ i = .int .i64 k ∧ wr.ownsRow w.heap.size 3 1 out (setB (xs.take k)).length ((setB (xs.take k)).map (.int .i64)) ∧ out ≠ .slice none 0 0 ∧ Below w.heap.size w wr) (fun _ i _ => xs.length - (intOf i).toNat)
  case atStart => exact ⟨0, Nat.zero_le _, rfl, O0.out.1, by simp, O0.out.2⟩
  case round =>
    obtain ⟨k, hk, rfl, hown, hnn, hbel⟩ := hrel
    by_cases hlt : k < xs.length
    · have hlt' : (k : Int) < (xs.length : Int) := by omega
      obtain ⟨b, o, rfl, hb, hc⟩ := HA.out k hlt
      have cx := (hbel.cell (p := ⟨b, o + k, none⟩) hb).trans (hc k hlt)
      clear hc
      have HF := Lib.hid (fold_step hlt)
      have hl2 := setB_take_len xs k
      generalize setB (xs.take k) = ys at hown HF hl2
      generalize xs[k] = y at cx HF
      go_wp2_with fail
      refine (specPut_any ys y _ w.heap.size _ hown hnn hbel.size (by omega)).mono ?_
      rintro e w2 ⟨v2, rfl, ho2, hn2, hb2⟩
      rw [← HF.out] at ho2
      have R := Lib.hid (And.intro ho2 (And.intro hn2 (hbel.trans (hb2.mono hbel.size))))
      clear hown hnn hb2 hn2 ho2
      go_wp2
      go_roundw
      case rel => exact ⟨k + 1, by omega, by go_num, R.out.1, R.out.2.1, R.out.2.2⟩
      case measure => simp [intOf]; omega
    · have hge : ¬ (k : Int) < (xs.length : Int) := by omega
      obtain rfl : k = xs.length := by omega
      rw [List.take_of_length_le (Nat.le_refl _)] at hown
      have R := Lib.hid (And.intro hown (And.intro hnn hbel))
      clear hown hnn
      go_wp2
      go_ret
      exact ⟨_, rfl, R.out.1, R.out.2.1, R.out.2.2⟩
end Go.Proofs.Ytfgmbgdbnjpclaa
end

section
namespace Go.Proofs.Ytfgmbgdbnjpclaa
open Go.RowKit

theorem specAdd_any (xs : List Int) (n : Int) (v : Value) (w : World) (hr : Rd w v (xs.map (.int .i64))) (hlen : xs.length ≤ 1073741823) :
    Calls Try.prog 78 #[v, .int .i64 n] w fun e w' => ∃ v', e = .returned v' ∧ w'.ownsRow w.heap.size 3 1 v' (putB (setB xs) n).length ((putB (setB xs) n).map (.int .i64)) ∧ Below w.heap.size w w' := by
  have H1 := specSetOf_any xs v w hr hlen
  have hl := len_setB xs
  clear hr
  generalize setB xs = ys at H1 hl
  go_enter Try.func78, Try.ntmps78
  go_wp2_with fail
  refine H1.mono ?_
  rintro e w1 ⟨v1, rfl, ho1, hn1, hb1⟩
  have H2 := Lib.hid (specPut_any ys n v1 w.heap.size w1 ho1 hn1 hb1.size (by omega))
  have B1 := Lib.hid hb1
  clear ho1 hn1 hb1 H1
  go_wp2_with fail
  refine H2.out.mono ?_
  rintro e w2 ⟨v2, rfl, ho2, _, hb2⟩
  have R := Lib.hid (And.intro ho2 (B1.out.trans (hb2.mono B1.out.size)))
  clear ho2 hb2 H2
  go_wp2
  go_ret
  exact ⟨_, rfl, R.out.1, R.out.2⟩

def upB (n : Nat) : List Int := (List.range n).map fun (i : Nat) => (i : Int)
theorem upB_succ (k : Nat) : upB (k + 1) = upB k ++ [(k : Int)] := by simp [upB, List.range_succ]
theorem upB_len (k : Nat) : (upB k).length = k := by simp [upB]
def rangeB (n : Int) : List Int := if 0 ≤ n ∧ n ≤ 200 then upB n.toNat else []

def upI (i : Nat) : Value := .int .i64 i
theorem upI_all (m : Nat) : (List.range m).map upI = (upB m).map (.int .i64) := by simp [upB, upI]

end Go.Proofs.Ytfgmbgdbnjpclaa
end

section
namespace Go.Proofs.Ytfgmbgdbnjpclaa
open Go.RowKit
set_option linter.unusedVariables false

set_option maxRecDepth 100000 in
set_option maxHeartbeats 1000000 in
theorem indexFuncMode_any (fv : FuncId) (bd : Array Value) (p : Md → Bool) (xs : List Md) (v : Value) (w : World) (hv : (trMs xs).rd w v) (hk : (trMs xs).ok)
    (ev : ∀ args w, (callFunc fv args).run Try.prog w = .ok (.enter fv args) w) (hp : Tests trM fv bd w p) :
    Calls Try.prog 116 #[v, .func (.func fv) #[] bd] w fun e w' => e = .returned (.int .i64 (ixB p xs)) ∧ Below w.heap.size w w' := by
  obtain ⟨hlGA, A, c, rfl, gaGA⟩ := rdModeS_t hv
  have GA := Lib.hid gaGA
  clear gaGA hv
  have HK := Lib.hid (okL_flat (f := cellsM) hk)
  have HP := Lib.hid hp
  clear hk hp
  generalize hres : ixB p xs = res
  have RES := Lib.hid hres
  clear hres
  go_enter Try.func116, Try.ntmps116
  go_wp2
  go_loopw [8] (fun i wr => ∃ k : Nat, k ≤ xs.length ∧ i = .int .i64 k ∧ Below w.heap.size w wr ∧ ∀ j, (hj : j < xs.length) → j < k → p xs[j] = false) (fun i _ => xs.length - (intOf i).toNat)
  case atStart => exact ⟨0, Nat.zero_le _, rfl, Below.refl _ _, fun j _ h => absurd h (by omega)⟩
  case round =>
    obtain ⟨k, hkl, rfl, hbel, hall⟩ := hrel
    by_cases hlt : k < xs.length
    · have hlt' : (k : Int) < (xs.length : Int) := by omega
      obtain ⟨b, o, rfl, hb, hc_x⟩ := GA.out k hlt
      obtain ⟨A1, ac1, A2, ac2, gx0, gx1, gx2, rx1, rx2⟩ := hc_x k hlt
      have hx0 := (hbel.cell (p := ⟨b, o + k * 3, none⟩) hb).trans gx0
      have hx1 := (hbel.cell (p := ⟨b, o + k * 3 + 1, none⟩) hb).trans gx1
      have hx2 := (hbel.cell (p := ⟨b, o + k * 3 + 2, none⟩) hb).trans gx2
      have HM := Lib.hid (mk_rdMode_t (w := wr) (d := xs[k]) (Tr.rd_below hbel (Nat.le_refl _) _ _ rx1) (Tr.rd_below hbel (Nat.le_refl _) _ _ rx2))
      clear hc_x gx0 gx1 gx2 rx1 rx2
      have HKK := Lib.hid (HK.out _ (List.getElem_mem hlt))
      have HO := Lib.hid (show (trM xs[k]).ok from HKK.out)
      clear HKK
      have HB := Lib.hid hbel
      clear hbel
      rcases hok : p xs[k] with _ | _
      · have STEP := Lib.hid (step_all (p := fun x => p x = false) hlt hall hok)
        have HOK := Lib.hid hok
        clear hok hall
        generalize xs[k] = m at hx0 hx1 hx2 HM HOK HO
        go_wp2_with fail
        refine (HP.out m _ _ (by exact HB.out) HO.out HM.out).mono ?_
        rintro e w1 ⟨rfl, hb1⟩
        rw [HOK.out]
        have HE := Lib.hid (HB.out.trans (hb1.mono HB.out.size))
        clear hb1
        go_wp2
        go_roundw
        case rel => exact ⟨k + 1, by omega, by go_num, HE.out, STEP.out⟩
        case measure => simp [intOf]; omega
      · have HN := Lib.hid (ixB_at hlt hall hok)
        have HOK := Lib.hid hok
        clear hok hall
        generalize xs[k] = m at hx0 hx1 hx2 HM HOK HO
        go_wp2_with fail
        refine (HP.out m _ _ (by exact HB.out) HO.out HM.out).mono ?_
        rintro e w1 ⟨rfl, hb1⟩
        rw [HOK.out]
        have HE := Lib.hid (HB.out.trans (hb1.mono HB.out.size))
        clear hb1
        go_wp2
        go_ret
        exact ⟨ret_numZ (by rw [← RES.out, HN.out]), HE.out⟩
    · have hge : ¬ (k : Int) < (xs.length : Int) := by omega
      have HY := Lib.hid (ixB_none (p := p) (fun j hj => hall j hj (by omega)))
      have HB := Lib.hid hbel
      clear hall hbel
      go_wp2
      go_ret
      exact ⟨ret_numZ (by rw [← RES.out, HY.out]), HB.out⟩

set_option maxRecDepth 100000 in
set_option maxHeartbeats 1000000 in
theorem containsFuncMode_any (fv : FuncId) (bd : Array Value) (p : Md → Bool) (xs : List Md) (v : Value) (w : World) (hv : (trMs xs).rd w v) (hk : (trMs xs).ok)
    (ev : ∀ args w, (callFunc fv args).run Try.prog w = .ok (.enter fv args) w) (hp : Tests trM fv bd w p) :
    Calls Try.prog 80 #[v, .func (.func fv) #[] bd] w fun e w' => e = .returned (.bool (xs.any p)) ∧ Below w.heap.size w w' := by
  have HV := Lib.hid hv
  have HK := Lib.hid hk
  have HP := Lib.hid hp
  have EV := Lib.hid ev
  clear hv hk hp ev
  go_enter Try.func80, Try.ntmps80
  go_wp2_with fail
  refine (indexFuncMode_any fv bd p xs _ _ HV.out HK.out EV.out HP.out).mono ?_
  rintro e w1 ⟨rfl, hb⟩
  have HB := Lib.hid hb
  clear hb
  have HI := Lib.hid (ixB_any p xs)
  generalize ixB p xs = i at HI ⊢
  go_wp2
  go_ret
  exact ⟨ret_boo (by have := HI.out; rw [this]), HB.out⟩

set_option maxRecDepth 100000 in
set_option maxHeartbeats 1000000 in
theorem indexFuncModeT_any (fv : FuncId) (bd : Array Value) (p : Md → Bool) (xs : List Md) (v : Value) (w : World) (hv : (trMs xs).rd w v) (hk : (trMs xs).ok)
    (ev : ∀ args w, (callFunc fv args).run Try.prog w = .ok (.enter fv args) w) (hp : ∀ (j : Nat) (hj : j < xs.length) (v : Value) (w2 : World), Below w.heap.size w w2 → (trM xs[j]).ok → (trM xs[j]).rd w2 v → Calls Try.prog fv (#[v] ++ bd) w2 fun e w' => e = .returned (.bool (p xs[j])) ∧ Below w2.heap.size w2 w') :
    Calls Try.prog 116 #[v, .func (.func fv) #[] bd] w fun e w' => e = .returned (.int .i64 (ixB p xs)) ∧ Below w.heap.size w w' := by
  obtain ⟨hlGA, A, c, rfl, gaGA⟩ := rdModeS_t hv
  have GA := Lib.hid gaGA
  clear gaGA hv
  have HK := Lib.hid (okL_flat (f := cellsM) hk)
  have HP := Lib.hid hp
  clear hk hp
  generalize hres : ixB p xs = res
  have RES := Lib.hid hres
  clear hres
  go_enter Try.func116, Try.ntmps116
  go_wp2
  go_loopw [8] (fun i wr => ∃ k : Nat, k ≤ xs.length ∧ i = .int .i64 k ∧ Below w.heap.size w wr ∧ ∀ j, (hj : j < xs.length) → j < k → p xs[j] = false) (fun i _ => xs.length - (intOf i).toNat)
  case atStart => exact ⟨0, Nat.zero_le _, rfl, Below.refl _ _, fun j _ h => absurd h (by omega)⟩
  case round =>
    obtain ⟨k, hkl, rfl, hbel, hall⟩ := hrel
    by_cases hlt : k < xs.length
    · have hlt' : (k : Int) < (xs.length : Int) := by omega
      obtain ⟨b, o, rfl, hb, hc_x⟩ := GA.out k hlt
      obtain ⟨A1, ac1, A2, ac2, gx0, gx1, gx2, rx1, rx2⟩ := hc_x k hlt
      have hx0 := (hbel.cell (p := ⟨b, o + k * 3, none⟩) hb).trans gx0
      have hx1 := (hbel.cell (p := ⟨b, o + k * 3 + 1, none⟩) hb).trans gx1
      have hx2 := (hbel.cell (p := ⟨b, o + k * 3 + 2, none⟩) hb).trans gx2
      have HM := Lib.hid (mk_rdMode_t (w := wr) (d := xs[k]) (Tr.rd_below hbel (Nat.le_refl _) _ _ rx1) (Tr.rd_below hbel (Nat.le_refl _) _ _ rx2))
      clear hc_x gx0 gx1 gx2 rx1 rx2
      have HPK := Lib.hid (HP.out k hlt)
      have HKK := Lib.hid (HK.out _ (List.getElem_mem hlt))
      have HO := Lib.hid (show (trM xs[k]).ok from HKK.out)
      clear HKK
      have HB := Lib.hid hbel
      clear hbel
      rcases hok : p xs[k] with _ | _
      · have STEP := Lib.hid (step_all (p := fun x => p x = false) hlt hall hok)
        have HOK := Lib.hid hok
        clear hok hall
        generalize xs[k] = m at hx0 hx1 hx2 HM HOK HO HPK
        go_wp2_with fail
        refine (HPK.out _ _ (by exact HB.out) HO.out HM.out).mono ?_
        rintro e w1 ⟨rfl, hb1⟩
        rw [HOK.out]
        have HE := Lib.hid (HB.out.trans (hb1.mono HB.out.size))
        clear hb1
        go_wp2
        go_roundw
        case rel => exact ⟨k + 1, by omega, by go_num, HE.out, STEP.out⟩
        case measure => simp [intOf]; omega
      · have HN := Lib.hid (ixB_at hlt hall hok)
        have HOK := Lib.hid hok
        clear hok hall
        generalize xs[k] = m at hx0 hx1 hx2 HM HOK HO HPK
        go_wp2_with fail
        refine (HPK.out _ _ (by exact HB.out) HO.out HM.out).mono ?_
        rintro e w1 ⟨rfl, hb1⟩
        rw [HOK.out]
        have HE := Lib.hid (HB.out.trans (hb1.mono HB.out.size))
        clear hb1
        go_wp2
        go_ret
        exact ⟨ret_numZ (by rw [← RES.out, HN.out]), HE.out⟩
    · have hge : ¬ (k : Int) < (xs.length : Int) := by omega
      have HY := Lib.hid (ixB_none (p := p) (fun j hj => hall j hj (by omega)))
      have HB := Lib.hid hbel
      clear hall hbel
      go_wp2
      go_ret
      exact ⟨ret_numZ (by rw [← RES.out, HY.out]), HB.out⟩

set_option maxRecDepth 100000 in
set_option maxHeartbeats 1000000 in
theorem containsFuncModeT_any (fv : FuncId) (bd : Array Value) (p : Md → Bool) (xs : List Md) (v : Value) (w : World) (hv : (trMs xs).rd w v) (hk : (trMs xs).ok)
    (ev : ∀ args w, (callFunc fv args).run Try.prog w = .ok (.enter fv args) w) (hp : ∀ (j : Nat) (hj : j < xs.length) (v : Value) (w2 : World), Below w.heap.size w w2 → (trM xs[j]).ok → (trM xs[j]).rd w2 v → Calls Try.prog fv (#[v] ++ bd) w2 fun e w' => e = .returned (.bool (p xs[j])) ∧ Below w2.heap.size w2 w') :
    Calls Try.prog 80 #[v, .func (.func fv) #[] bd] w fun e w' => e = .returned (.bool (xs.any p)) ∧ Below w.heap.size w w' := by
  have HV := Lib.hid hv
  have HK := Lib.hid hk
  have HP := Lib.hid hp
  have EV := Lib.hid ev
  clear hv hk hp ev
  go_enter Try.func80, Try.ntmps80
  go_wp2_with fail
  refine (indexFuncModeT_any fv bd p xs _ _ HV.out HK.out EV.out HP.out).mono ?_
  rintro e w1 ⟨rfl, hb⟩
  have HB := Lib.hid hb
  clear hb
  have HI := Lib.hid (ixB_any p xs)
  generalize ixB p xs = i at HI ⊢
  go_wp2
  go_ret
  exact ⟨ret_boo (by have := HI.out; rw [this]), HB.out⟩
end Go.Proofs.Ytfgmbgdbnjpclaa
end

section
namespace Go.Proofs.Ytfgmbgdbnjpclaa
open Go.RowKit Go.Shelf
set_option linter.unusedVariables false

def usM (r : Nat) (m : Md) : Bool := decide (0 < m.us.getD r 0)
def useB (al : List Ac) (r i : Nat) : Bool := match al[i]? with | some a => a.ms.any (usM r) | none => false
def usersK (al : List Ac) (r k : Nat) : List Int := (List.range k).filterMap fun i => if useB al r i then some (i : Int) else none
theorem usersK_succ (al : List Ac) (r k : Nat) : usersK al r (k + 1) = usersK al r k ++ if useB al r k then [(k : Int)] else [] := by
  rw [usersK, List.range_succ, List.filterMap_append]
  congr 1
  by_cases h : useB al r k <;> simp [h]
theorem usersK_lt {al : List Ac} {r k : Nat} : ∀ x ∈ usersK al r k, 0 ≤ x ∧ x < (k : Int) := by
  intro x hx
  rw [usersK, List.mem_filterMap] at hx
  obtain ⟨i, hi, h⟩ := hx
  rw [List.mem_range] at hi
  split at h
  · simp at h; omega
  · simp at h
theorem usersK_len (al : List Ac) (r k : Nat) : (usersK al r k).length ≤ k := by
  rw [usersK]
  exact Nat.le_trans (List.length_filterMap_le _ _) (by simp)
theorem usersK_asc (al : List Ac) (r : Nat) : ∀ k, (usersK al r k).Pairwise (· < ·)
  | 0 => by simp [usersK]
  | k + 1 => by
    rw [usersK_succ, List.pairwise_append]
    refine ⟨usersK_asc al r k, by split <;> simp, fun x hx y hy => ?_⟩
    have := (usersK_lt x hx).2
    split at hy
    · simp at hy; omega
    · simp at hy
theorem put_users (al : List Ac) (r k : Nat) (b : Bool) : putB (setB (usersK al r k ++ if b then [(k : Int)] else [])) (k : Int) = usersK al r k ++ [(k : Int)] := by
  refine asc_eq (asc_putB (asc_setB _) _) ?_ (fun x => ?_)
  · rw [List.pairwise_append]
    exact ⟨usersK_asc al r k, by simp, fun x hx y hy => by simp at hy; have := (usersK_lt x hx).2; omega⟩
  · rw [mem_putB, mem_setB]
    cases b <;> simp
noncomputable def usersB (p : Pj) (r : Int) : List Int := if pokB p = true ∧ 0 ≤ r ∧ r < (p.ress.length : Int) then usersK p.acts r.toNat p.acts.length else []
theorem usersB_len (p : Pj) (r : Int) : (usersB p r).length ≤ 6 := by
  unfold usersB
  split
  · next h =>
    have := usersK_len p.acts r.toNat p.acts.length
    have := (pok_acts h.1).1
    omega
  · simp
theorem use_take {al : List Ac} {r k : Nat} (h : k < al.length) : useB al r k = al[k].ms.any (usM r) := by rw [useB, List.getElem?_eq_getElem h]
theorem any_take {ms : List Md} {f : Md → Bool} {j : Nat} (h : j < ms.length) : (ms.take (j + 1)).any f = ((ms.take j).any f || f ms[j]) := by
  rw [List.take_succ_eq_append_getElem h, List.any_append]; simp
theorem usM_at {r : Nat} {m : Md} (h : r < m.us.length) : usM r m = decide (0 < m.us[r]) := by rw [usM, List.getD_eq_getElem?_getD, List.getElem?_eq_getElem h]; rfl
theorem us_len {p : Pj} (hok : pokB p = true) {k j : Nat} (hk : k < p.acts.length) (hj : j < p.acts[k].ms.length) : p.acts[k].ms[j].us.length = p.ress.length := by
  have := (mok_us ((aok_modes ((pok_acts hok).2 _ (List.getElem_mem hk))).2.1 _ (List.getElem_mem hj))).1
  omega

set_option maxRecDepth 100000 in
set_option maxHeartbeats 4000000 in
theorem specUsers_any (p : Pj) (r : Int) (v : Value) (w : World) (hv : (trPj p).rd w v) (hk : (trPj p).ok) :
    Calls Try.prog 28 #[v, .int .i64 r] w fun e w' => ∃ u F, e = .returned u ∧ (trI (usersB p r)).own w' w.heap.size u F ∧ F.Nodup ∧ Below w.heap.size w w' := by
  have HV := Lib.hid hv
  have HK := Lib.hid hk
  obtain ⟨A1, c1, A2, c2, A3, c3, A4, c4, rfl, r1, r2, r3, r4⟩ := rdProject_t hv
  obtain ⟨hl1, B1, d1, he, g1⟩ := rdActivityS_t r1
  injection he with he _ he2
  subst he he2
  obtain ⟨hl3, _⟩ := rdResourceS_t r3
  have G1 := Lib.hid g1
  have R3 := Lib.hid r3
  have KA := Lib.hid (okL_flat (f := cellsA) (xs := p.acts) hk.2.1)
  clear hv r1 r2 r3 r4 g1 hk
  have S0 := Lib.hid (((Sn.start w).box 46 [.int .i64 p.dl, .slice A1 p.acts.length c1, .slice A2 p.lks.length c2, .slice A3 p.ress.length c3, .slice A4 p.stk.length c4]).emptyI)
  simp only [World.size_alloc] at S0
  go_enter Try.func28, Try.ntmps28
  go_wp2_with fail
  refine (specProjectOk_any p _ _ (by exact S0.out.old HV.out) HK.out).mono ?_
  rintro e w1 ⟨rfl, b⟩
  have S1 := Lib.hid (S0.out.go b)
  clear S0 b
  rcases hok : pokB p with _ | _
  · have HS := Lib.hid (show usersB p r = [] by rw [usersB, if_neg (by rw [hok]; simp)])
    clear hok
    go_wp2
    go_ret
    have hnil : ∀ W : World, (trI (usersB p r)).own W w.heap.size (.slice none 0 0) [] := fun W => by rw [HS.out]; exact ⟨[], [], ⟨rfl, .inl ⟨rfl, rfl⟩⟩, ⟨rfl, rfl⟩, rfl⟩
    first
      | exact ⟨[], hnil _, List.nodup_nil, S1.out.1⟩
      | exact ⟨.slice none 0 0, [], rfl, hnil _, List.nodup_nil, S1.out.1⟩
      | exact ⟨.slice none 0 0, rfl, [], hnil _, List.nodup_nil, S1.out.1⟩
  obtain ⟨e0, e1, e2, e3, e4, ef⟩ := (S1.out.bk 1 rfl).c5
  have HOK := Lib.hid hok
  go_wp2_with fail
  refine (inD_any _ _ _ _).mono ?_
  rintro e wz ⟨rfl, hw⟩
  subst hw
  by_cases hr : 0 ≤ r ∧ r < (p.ress.length : Int)
  case neg =>
    have HS := Lib.hid (show usersB p r = [] by rw [usersB, if_neg (fun h => hr h.2)])
    rw [inB_no (n := r) (lo := 0) (hi := (p.ress.length : Int) - 1) (by omega)]
    clear hr hok
    go_wp2
    go_ret
    have hnil : ∀ W : World, (trI (usersB p r)).own W w.heap.size (.slice none 0 0) [] := fun W => by rw [HS.out]; exact ⟨[], [], ⟨rfl, .inl ⟨rfl, rfl⟩⟩, ⟨rfl, rfl⟩, rfl⟩
    first
      | exact ⟨[], hnil _, List.nodup_nil, S1.out.1⟩
      | exact ⟨.slice none 0 0, [], rfl, hnil _, List.nodup_nil, S1.out.1⟩
      | exact ⟨.slice none 0 0, rfl, [], hnil _, List.nodup_nil, S1.out.1⟩
  rw [inB_yes (n := r) (lo := 0) (hi := (p.ress.length : Int) - 1) (by omega)]
  obtain ⟨n, rfl⟩ : ∃ n : Nat, r = (n : Int) := ⟨r.toNat, by omega⟩
  have hn : n < p.ress.length := by omega
  have HS := Lib.hid (show usersB p (n : Int) = usersK p.acts n p.acts.length by rw [usersB, if_pos ⟨hok, hr⟩, Int.toNat_natCast])
  have h6 := (pok_acts hok).1
  clear hok hr
  go_wp2
  clear e0 e1 e2 e3 e4 ef
  go_loopw [5, 26] (fun u i wr => ∃ (k : Nat) (F : List Nat), k ≤ p.acts.length ∧ i = .int .i64 k ∧ Sn w wr [⟨trI (usersK p.acts n k), u, F⟩, boxI w.heap.size 46 [.int .i64 p.dl, .slice A1 p.acts.length c1, .slice A2 p.lks.length c2, .slice A3 p.ress.length c3, .slice A4 p.stk.length c4]]) (fun _ i _ => p.acts.length - (intOf i).toNat)
  case atStart => exact ⟨0, _, Nat.zero_le _, rfl, S1.out⟩
  case round =>
    obtain ⟨k, F, hkl, rfl, hS⟩ := hrel
    have S2 := Lib.hid hS
    clear hS S1
    obtain ⟨U, cu, rfl⟩ := slice_ints (S2.out.rd 0 rfl)
    by_cases hlt : k < p.acts.length
    · have hlt' : (k : Int) < (p.acts.length : Int) := by omega
      obtain ⟨b, o, rfl, hb, hc⟩ := G1.out k hlt
      obtain ⟨M, cm, y0, y1, y2, rm⟩ := hc k hlt
      have hx0 := (S2.out.1.cell (p := ⟨b, o + k * 3, none⟩) hb).trans y0
      have hx1 := (S2.out.1.cell (p := ⟨b, o + k * 3 + 1, none⟩) hb).trans y1
      have hx2 := (S2.out.1.cell (p := ⟨b, o + k * 3 + 2, none⟩) hb).trans y2
      obtain ⟨hlm, M', cm', he, gm⟩ := rdModeS_t rm
      injection he with he hln he2
      subst he he2
      have GM := Lib.hid gm
      have HUL := Lib.hid (fun j (hj : j < p.acts[k].ms.length) => us_len HOK.out hlt hj)
      have HUS := Lib.hid (use_take (r := n) hlt)
      have HSU := Lib.hid (usersK_succ p.acts n k)
      have hul := usersK_len p.acts n k
      have PUT := Lib.hid (put_users p.acts n k)
      clear hc y0 y1 y2 rm gm hln
      generalize p.acts[k] = a at hx0 hx1 hx2 hlm GM HUL HUS
      generalize usersK p.acts n k = us at S2 HSU hul PUT ⊢
      go_wp2
      have S3 := Lib.hid ((S2.out.box 68 [.string a.nm, .int .i64 a.fa, .slice M a.ms.length cm]).pick 1 rfl)
      clear S2
      go_loopw [5, 34] (fun u i wz => ∃ (j : Nat) (F : List Nat), j ≤ a.ms.length ∧ i = .int .i64 j ∧ Sn w wz [⟨trI (us ++ if (a.ms.take j).any (usM n) then [(k : Int)] else []), u, F⟩, boxI wr.heap.size 68 [.string a.nm, .int .i64 a.fa, .slice M a.ms.length cm], boxI w.heap.size 46 [.int .i64 p.dl, .slice (some ⟨b, o, none⟩) p.acts.length c1, .slice A2 p.lks.length c2, .slice A3 p.ress.length c3, .slice A4 p.stk.length c4]]) (fun _ i _ => a.ms.length - (intOf i).toNat)
      case atStart => exact ⟨0, _, Nat.zero_le _, rfl, by simpa using S3.out⟩
      case round =>
        obtain ⟨j, F2, hjl, rfl, hS⟩ := hrel
        have S4 := Lib.hid hS
        clear hS S3
        obtain ⟨U2, cu2, rfl⟩ := slice_ints (S4.out.rd 0 rfl)
        by_cases hltj : j < a.ms.length
        · have hltj' : (j : Int) < (a.ms.length : Int) := by omega
          obtain ⟨b2, o2, rfl, hb2, hc2⟩ := GM.out j hltj
          obtain ⟨P, cp, Q, cq, q0, q1, q2, ru, rq⟩ := hc2 j hltj
          have hul2 := HUL.out j hltj
          obtain ⟨_, P', cp', he, gu⟩ := rdI (rd_flat ru)
          injection he with he hln he2
          subst he he2
          obtain ⟨b3, o3, rfl, hb3, hc3⟩ := gu n (by omega)
          have hu0 := hc3 n (by omega)
          have hy0 := (S4.out.1.cell (p := ⟨b2, o2 + j * 3, none⟩) hb2).trans q0
          have hy1 := (S4.out.1.cell (p := ⟨b2, o2 + j * 3 + 1, none⟩) hb2).trans q1
          have hy2 := (S4.out.1.cell (p := ⟨b2, o2 + j * 3 + 2, none⟩) hb2).trans q2
          have hy3 := (S4.out.1.cell (p := ⟨b3, o3 + n, none⟩) hb3).trans hu0
          have ANY := Lib.hid (any_take (f := usM n) hltj)
          have UM := Lib.hid (usM_at (r := n) (m := a.ms[j]) (by omega))
          have hn' : (n : Int) < (p.ress.length : Int) := by omega
          rw [hul2] at hy1
          have hbw := Nat.lt_of_lt_of_le hb3 S4.out.1.size
          clear hc2 q0 q1 q2 ru rq gu hc3 hu0 hln
          generalize usM n a.ms[j] = bm at ANY UM
          generalize a.ms[j].us[n] = x at hy3 UM
          clear hul2
          generalize a.ms[j].co.length = lc at hy2
          generalize a.ms[j].du = dm at hy0
          generalize (a.ms.take j).any (usM n) = ba at S4 ANY ⊢
          have PUTB := Lib.hid (PUT.out ba)
          have hlen : (us ++ if ba = true then [(k : Int)] else []).length ≤ k + 1 := by
            rw [List.length_append]; split <;> simp <;> omega
          generalize hule : (us ++ if ba = true then [(k : Int)] else []) = ul at S4 PUTB hlen ⊢
          have HULE := Lib.hid hule
          clear hule
          have S5 := Lib.hid (S4.out.box 70 [.int .i64 dm, .slice (some ⟨b3, o3, none⟩) p.ress.length cp, .slice Q lc cq])
          clear S4
          by_cases hx : 0 < x
          · have HBM := Lib.hid (show bm = true by rw [UM.out, decide_eq_true hx])
            go_wp2_with fail
            refine (specAdd_any _ _ _ _ (rd_flat (S5.out.rd 1 rfl)) (by omega)).mono ?_
            rintro e wy ⟨v', rfl, ow, b⟩
            rw [PUTB.out] at ow
            have S6 := Lib.hid ((((S5.out.drop 1).drop 0).new (flat_own ow).1 (flat_own ow).2 b))
            clear S5 ow b
            go_wp2
            go_roundw
            case rel => exact ⟨j + 1, _, by omega, by go_num, by rw [ANY.out, HBM.out, Bool.or_true, if_pos rfl]; exact S6.out⟩
            case measure => simp [intOf]; omega
          · have HBM := Lib.hid (show bm = false by rw [UM.out, decide_eq_false hx])
            have S6 := Lib.hid (S5.out.drop 0)
            clear S5
            go_wp2
            go_roundw
            case rel => exact ⟨j + 1, _, by omega, by go_num, by rw [ANY.out, HBM.out, Bool.or_false, HULE.out]; exact S6.out⟩
            case measure => simp [intOf]; omega
        · have hgej : ¬ (j : Int) < (a.ms.length : Int) := by omega
          obtain rfl : j = a.ms.length := by omega
          have S5 := Lib.hid (S4.out.drop 1)
          clear S4
          go_wp2
          go_roundw
          case rel => exact ⟨k + 1, _, by omega, by go_num, by rw [HSU.out, HUS.out]; have h := S5.out; rw [List.take_length] at h ⊢; exact h⟩
          case measure => simp [intOf]; omega
    · have hge : ¬ (k : Int) < (p.acts.length : Int) := by omega
      obtain rfl : k = p.acts.length := by omega
      go_wp2
      go_ret
      exact ⟨_, rfl, F, by rw [HS.out]; exact (S2.out.own 0 rfl).1, (S2.out.own 0 rfl).2, S2.out.1⟩

set_option maxRecDepth 100000 in
theorem cloUse_any (m : Md) (n g : Nat) (v : Value) (w : World) (hv : (trM m).rd w v) (hl : n < m.us.length) (hg : w.cell? ⟨g, 0, none⟩ = some (.int .i64 (n : Int))) (hlt : g < w.heap.size) :
    Calls Try.prog 79 #[v, .pointer (some ⟨g, 0, none⟩)] w fun e w' => e = .returned (.bool (usM n m)) ∧ Below w.heap.size w w' := by
  obtain ⟨A1, c1, A2, c2, rfl, r1, r2⟩ := rdMode_t hv
  obtain ⟨_, U, cu, he, gu⟩ := rdI (rd_flat r1)
  injection he with he hln he2
  subst he he2
  obtain ⟨b, o, rfl, hb, hc⟩ := gu n hl
  have hx := hc n hl
  have UM := Lib.hid (usM_at hl)
  have hn' : (n : Int) < (m.us.length : Int) := by omega
  clear hv r1 r2 gu hc hln
  generalize usM n m = res at UM ⊢
  generalize m.us[n] = x at hx UM
  generalize m.us.length = lu at hn' ⊢
  clear hl
  go_enter Try.func79, Try.ntmps79
  go_wp2
  go_ret
  exact ⟨by rw [UM.out]; simp, (Below.refl _ _).alloc (Nat.le_refl _) _⟩
theorem enters_cloUse : ∀ args w, (callFunc 79 args).run Try.prog w = .ok (.enter 79 args) w := enters_of Try.func79 (by kernel_rfl) rfl

set_option maxRecDepth 100000 in
set_option maxHeartbeats 4000000 in
theorem implUsers_any (p : Pj) (r : Int) (v : Value) (w : World) (hv : (trPj p).rd w v) (hk : (trPj p).ok) :
    Calls Try.prog 29 #[v, .int .i64 r] w fun e w' => ∃ u F, e = .returned u ∧ (trI (usersB p r)).own w' w.heap.size u F ∧ F.Nodup ∧ Below w.heap.size w w' := by
  have HV := Lib.hid hv
  have HK := Lib.hid hk
  obtain ⟨A1, c1, A2, c2, A3, c3, A4, c4, rfl, r1, r2, r3, r4⟩ := rdProject_t hv
  obtain ⟨hl1, B1, d1, he, g1⟩ := rdActivityS_t r1
  injection he with he _ he2
  subst he he2
  obtain ⟨hl3, _⟩ := rdResourceS_t r3
  have G1 := Lib.hid g1
  have R3 := Lib.hid r3
  have KA := Lib.hid (okL_flat (f := cellsA) (xs := p.acts) hk.2.1)
  clear hv r1 r2 r3 r4 g1 hk
  have S0 := Lib.hid (((Sn.start w).box 46 [.int .i64 p.dl, .slice A1 p.acts.length c1, .slice A2 p.lks.length c2, .slice A3 p.ress.length c3, .slice A4 p.stk.length c4]).box 3 [.int .i64 r])
  simp only [World.size_alloc] at S0
  go_enter Try.func29, Try.ntmps29
  by_cases hr : 0 ≤ r ∧ r < (p.ress.length : Int)
  case neg =>
    have HS := Lib.hid (show usersB p r = [] by rw [usersB, if_neg (fun h => hr h.2)])
    have HR := Lib.hid hr
    clear hr
    go_wp2_with fail
    refine (elemResource_no p.ress r _ _ (by exact S0.out.old R3.out) HR.out).mono ?_
    rintro e w1 ⟨rfl, b⟩
    have S1 := Lib.hid ((S0.out.go b).box 30 [.slice none 0 0, .slice none 0 0])
    clear S0 b
    go_wp2
    go_ret
    have hnil : ∀ W : World, (trI (usersB p r)).own W w.heap.size (.slice none 0 0) [] := fun W => by rw [HS.out]; exact ⟨[], [], ⟨rfl, .inl ⟨rfl, rfl⟩⟩, ⟨rfl, rfl⟩, rfl⟩
    first
      | exact ⟨[], hnil _, List.nodup_nil, S1.out.1⟩
      | exact ⟨.slice none 0 0, [], rfl, hnil _, List.nodup_nil, S1.out.1⟩
      | exact ⟨.slice none 0 0, rfl, [], hnil _, List.nodup_nil, S1.out.1⟩
  obtain ⟨n, rfl⟩ : ∃ n : Nat, r = (n : Int) := ⟨r.toNat, by omega⟩
  have hn : n < p.ress.length := by omega
  clear hr
  go_wp2_with fail
  refine (elemResource_yes p.ress n hn _ _ (by exact S0.out.old R3.out)).mono ?_
  rintro e w1 ⟨X0, x0, X1, x1, rfl, _, b⟩
  have S1 := Lib.hid ((S0.out.go b).box 30 [.slice X0 p.ress[n].st.length x0, .slice X1 p.ress[n].su.length x1])
  clear S0 b
  obtain ⟨e0, e1, e2, e3, e4, ef⟩ := (S1.out.bk 2 rfl).c5
  go_wp2_with fail
  clear e0 e1 e2 e3 e4 ef
  refine (implProjectOk_any p _ _ (by exact S1.out.old HV.out) HK.out).mono ?_
  rintro e w2 ⟨rfl, b⟩
  have S2 := Lib.hid ((S1.out.go b).drop 0)
  clear S1 b
  rcases hok : pokB p with _ | _
  · have HS := Lib.hid (show usersB p (n : Int) = [] by rw [usersB, if_neg (by rw [hok]; simp)])
    clear hok
    go_wp2
    go_ret
    have hnil : ∀ W : World, (trI (usersB p (n : Int))).own W w.heap.size (.slice none 0 0) [] := fun W => by rw [HS.out]; exact ⟨[], [], ⟨rfl, .inl ⟨rfl, rfl⟩⟩, ⟨rfl, rfl⟩, rfl⟩
    first
      | exact ⟨[], hnil _, List.nodup_nil, S2.out.1⟩
      | exact ⟨.slice none 0 0, [], rfl, hnil _, List.nodup_nil, S2.out.1⟩
      | exact ⟨.slice none 0 0, rfl, [], hnil _, List.nodup_nil, S2.out.1⟩
  have HOK := Lib.hid hok
  have HS := Lib.hid (show usersB p (n : Int) = usersK p.acts n p.acts.length by rw [usersB, if_pos ⟨hok, by omega, by omega⟩, Int.toNat_natCast])
  have h6 := (pok_acts hok).1
  clear hok
  obtain ⟨e0, e1, e2, e3, e4, ef⟩ := (S2.out.bk 1 rfl).c5
  have S3 := Lib.hid S2.out.nilI
  clear S2
  obtain ⟨i0, hi0, hz0, hz1, hz2⟩ := info_parts infoInt
  go_wp2
  clear e0 e1 e2 e3 e4 ef
  go_loopw [8, 29] (fun u i wr => ∃ (k : Nat) (F : List Nat), k ≤ p.acts.length ∧ i = .int .i64 k ∧ Sn w wr [⟨trI (usersK p.acts n k), u, F⟩, boxI (w.heap.size + 1) 3 [.int .i64 (n : Int)], boxI w.heap.size 46 [.int .i64 p.dl, .slice A1 p.acts.length c1, .slice A2 p.lks.length c2, .slice A3 p.ress.length c3, .slice A4 p.stk.length c4]]) (fun _ i _ => p.acts.length - (intOf i).toNat)
  case atStart => exact ⟨0, _, Nat.zero_le _, rfl, S3.out⟩
  case round =>
    obtain ⟨k, F, hkl, rfl, hS⟩ := hrel
    have S4 := Lib.hid hS
    clear hS S3
    obtain ⟨U, cu, rfl⟩ := slice_ints (S4.out.rd 0 rfl)
    by_cases hlt : k < p.acts.length
    · have hlt' : (k : Int) < (p.acts.length : Int) := by omega
      obtain ⟨b, o, rfl, hb, hc⟩ := G1.out k hlt
      obtain ⟨M, cm, y0, y1, y2, rm⟩ := hc k hlt
      have hx0 := (S4.out.1.cell (p := ⟨b, o + k * 3, none⟩) hb).trans y0
      have hx1 := (S4.out.1.cell (p := ⟨b, o + k * 3 + 1, none⟩) hb).trans y1
      have hx2 := (S4.out.1.cell (p := ⟨b, o + k * 3 + 2, none⟩) hb).trans y2
      have RM := Lib.hid rm
      have KM := Lib.hid (KA.out _ (List.getElem_mem hlt)).2.2.1
      have HUL := Lib.hid (fun j (hj : j < p.acts[k].ms.length) => us_len HOK.out hlt hj)
      have HUS := Lib.hid (use_take (r := n) hlt)
      have HSU := Lib.hid (usersK_succ p.acts n k)
      have hul := usersK_len p.acts n k
      clear hc y0 y1 y2 rm
      generalize p.acts[k] = a at hx0 hx1 hx2 RM KM HUL HUS
      generalize usersK p.acts n k = us at S4 HSU hul ⊢
      go_wp2_with fail
      have S5 := Lib.hid (S4.out.box 68 [.string a.nm, .int .i64 a.fa, .slice M a.ms.length cm])
      clear S4
      refine (containsFuncModeT_any 79 _ (usM n) a.ms _ _ (by exact S5.out.old RM.out) KM.out enters_cloUse (by
        intro j hj v2 w3 hb3 hm hr3
        have h := (S5.out.bk 2 rfl).below hb3 (Nat.le_refl _)
        exact cloUse_any _ n (w.heap.size + 1) v2 w3 hr3 (by have := HUL.out j hj; omega) (h.cell 0) h.lt)).mono ?_
      rintro e w3 ⟨rfl, b2⟩
      have S6 := Lib.hid ((S5.out.go b2).drop 0)
      clear S5 b2
      rcases hany : a.ms.any (usM n) with _ | _
      · have HA := Lib.hid hany
        clear hany
        go_wp2
        go_roundw
        case rel => exact ⟨k + 1, _, by omega, by go_num, by rw [HSU.out, HUS.out, HA.out, if_neg (by simp), List.append_nil]; exact S6.out⟩
        case measure => simp [intOf]; omega
      · have HA := Lib.hid hany
        have OW := Lib.hid S6.out.ownRI
        have hz := S6.out.1.size
        clear hany
        go_wp2_with (first | (at_builtin; refine wpList_append_own_at _ rfl (.tmp 38) (.tmp 40) 37 rfl w.heap.size 3 i0 (.int .i64 0) 1 8 Try.underlying37 hi0 hz0 hz1 hz2 rfl (by decide) (.slice U us.length cu) us.length (us.map (.int .i64)) rfl (by exact OW.out.alloc _) ⟨w3.heap.size, 0, none⟩ 1 1 [.int .i64 (k : Int)] rfl rfl ?c1 ?c2 ?c3 ?c4 ?c5 ?_))
        try case c1 => exact one_cell _ _ _
        case c2 => simp [Value.oneCell']
        case c3 => unfold maxLen; omega
        case c4 => omega
        case c5 => first | omega | (simp; omega)
        intro v' w8 hown8 hg8 _ hat8
        obtain ⟨F9, h9⟩ := S6.out.appI2 hown8 hg8 (by simpa using hat8)
        have S9 := Lib.hid h9
        clear hown8 hg8 hat8 h9 OW
        go_wp2
        go_roundw
        case rel => exact ⟨k + 1, _, by omega, by go_num, by rw [HSU.out, HUS.out, HA.out, if_pos rfl]; exact S9.out⟩
        case measure => simp [intOf]; omega
    · have hge : ¬ (k : Int) < (p.acts.length : Int) := by omega
      obtain rfl : k = p.acts.length := by omega
      go_wp2
      go_ret
      exact ⟨_, rfl, F, by rw [HS.out]; exact (S4.out.own 0 rfl).1, (S4.out.own 0 rfl).2, S4.out.1⟩

end Go.Proofs.Ytfgmbgdbnjpclaa
end

section
namespace Go.Proofs.Ytfgmbgdbnjpclaa
open Go.RowKit
set_option linter.unusedVariables false
set_option maxRecDepth 100000 in
set_option maxHeartbeats 4000000 in
theorem walkFnExactUsers (v0 : Value) (d0 : Pj) (a1 : Int) (w : World) (hr0 : (trPj d0).rd w v0) (hk0 : (trPj d0).ok) (hw1 : (Lit.int .i64 a1).wf = true) :
    Calls Try.prog 8 #[v0, .int .i64 a1] w fun e w' => e = .returned (.bool true) ∧ Below w.heap.size w w' := by
  have HK0 := Lib.hid hk0
  have HR0 := Lib.hid hr0
  obtain ⟨U0_1, u0_1, U0_2, u0_2, U0_3, u0_3, U0_4, u0_4, rfl, _, _, _, _⟩ := rdProject_t hr0
  clear hk0 hr0
  have HW1 := Lib.hid hw1
  clear hw1
  have S0 := Lib.hid (Sn.start w)
  have S1 := Lib.hid (S0.out.box 39 [.int .i64 d0.dl, .slice U0_1 d0.acts.length u0_1, .slice U0_2 d0.lks.length u0_2, .slice U0_3 d0.ress.length u0_3, .slice U0_4 d0.stk.length u0_4])
  clear S0
  go_enter Try.func8, Try.ntmps8
  have hn0 : (trI (usersB d0 a1)).sz ≤ 6 := by rw [trI_sz]; exact usersB_len _ _
  go_wp2_with fail
  refine (szProject_t d0 _ (1048576) _ (by exact S1.out.old HR0.out) HK0.out (by omega) (by omega)).mono ?_
  rintro e w2 ⟨rfl, b⟩
  have S2 := Lib.hid (S1.out.go b)
  clear S1 b
  generalize hz0 : (trPj d0).sz = z0
  have HZ0 := Lib.hid hz0
  clear hz0
  by_cases hbig0 : (1048576 : Int) < (z0 : Int)
  · rw [if_pos hbig0]
    go_wp2
    go_ret
    exact ⟨rfl, S2.out.1⟩
  rw [if_neg hbig0]
  have hq0 : 0 ≤ (1048576 - (z0 : Int) : Int) := by omega
  have hb0 : z0 ≤ 1048576 := by omega
  obtain ⟨c0, c1, c2, c3, c4, cf⟩ := (S2.out.bk 0 rfl).c5
  go_wp2_with fail
  clear c0 c1 c2 c3 c4 cf
  refine (toProject_t d0 _ _ (by exact S2.out.old HR0.out) (by have := HZ0.out; omega)).mono ?_
  rintro e w3 ⟨v3_, F3, rfl, o, h, b⟩
  have S3 := Lib.hid (S2.out.new o h b)
  clear S2 o h b
  go_wp2_with fail
  refine (specUsers_any d0 a1 _ _ (by exact S3.out.rd 0 rfl) HK0.out).mono ?_
  rintro e w4 ⟨v4_, F4, rfl, o, h, b⟩
  have S4 := Lib.hid (S3.out.new o h b)
  clear S3 o h b
  obtain ⟨c0, c1, c2, c3, c4, cf⟩ := (S4.out.bk 2 rfl).c5
  go_wp2_with fail
  clear c0 c1 c2 c3 c4 cf
  refine (toProject_t d0 _ _ (by exact S4.out.old HR0.out) (by have := HZ0.out; omega)).mono ?_
  rintro e w5 ⟨v5_, F5, rfl, o, h, b⟩
  obtain ⟨X5_1, x5_1, X5_2, x5_2, X5_3, x5_3, X5_4, x5_4, rfl, _, _, _, _⟩ := rdProject_t (Tr.own_rd _ _ _ o)
  have S5 := Lib.hid ((S4.out.new o h b).box 46 [.int .i64 d0.dl, .slice X5_1 d0.acts.length x5_1, .slice X5_2 d0.lks.length x5_2, .slice X5_3 d0.ress.length x5_3, .slice X5_4 d0.stk.length x5_4])
  clear S4 o h b
  obtain ⟨x0, x1, x2, x3, x4, xf⟩ := (S5.out.bk 0 rfl).c5
  go_wp2_with fail
  clear x0 x1 x2 x3 x4 xf
  refine (implUsers_any d0 a1 _ _ (by exact S5.out.rd 1 rfl) HK0.out).mono ?_
  rintro e w6 ⟨v6_, F6, rfl, o, h, b⟩
  have S6 := Lib.hid (S5.out.new o h b)
  clear S5 o h b
  go_wp2_with fail
  refine (eqIntS_t (usersB d0 a1) _ _ _ (by exact S6.out.rd 0 rfl) (by exact S6.out.rd 3 rfl)).mono ?_
  rintro e w7 ⟨rfl, b⟩
  have S7 := Lib.hid (S6.out.go b)
  clear S6 b
  obtain ⟨c0, c1, c2, c3, c4, cf⟩ := (S7.out.bk 1 rfl).c5
  obtain ⟨g0, g1, g2, g3, g4, gf⟩ := (S7.out.bk 5 rfl).c5
  have S8 := Lib.hid (S7.out.drew1)
  clear S7
  go_wp2_with fail
  go_region_with (first
    | (go_at_call 19; refine (toProject_t d0 _ _ (by exact S8.out.old HR0.out) (by have := HZ0.out; omega)).mono ?_; rintro e w9 ⟨v9_, F9, rfl, o, h, b⟩; have S9 := Lib.hid (S8.out.new o h b); obtain ⟨e0, e1, e2, e3, e4, ef⟩ := (S9.out.bk 2 rfl).c5; clear S8 o h b)
    | (go_at_call 21; refine (eqProject_t d0 _ _ _ (by exact S9.out.rd 3 rfl) (by exact S9.out.rd 0 rfl)).mono ?_; rintro e w10 ⟨rfl, b⟩; have S10 := Lib.hid (S9.out.go b); clear S9 b))
  all_goals
    clear c0 c1 c2 c3 c4 cf g0 g1 g2 g3 g4 gf
    try clear e0 e1 e2 e3 e4 ef
    have hcnt0 : cntO (cellsPj d0) ≤ 8388608 := by
      have h1 := cntO_le (cellsPj d0) (thin_ProjectL d0)
      have h2 : (trPj d0).sz = szL (cellsPj d0) := rfl
      have h3 : (trPj d0).sz ≤ 1048576 := by have := HZ0.out; omega
      omega
    obtain ⟨c0, c1, c2, c3, c4, cf⟩ := (S10.out.bk 2 rfl).c5
    go_wp2_with fail
    clear c0 c1 c2 c3 c4 cf
    refine (markProject_t (1) _ (d0) _ _ _ (by exact (S10.out.own 3 rfl).1) (by exact (S10.out.own 3 rfl).2) (by omega) (by omega)).mono ?_
    rintro e w11 ⟨F11, rfl, o, h, hs, g⟩
    have S11 := Lib.hid (S10.out.mark 3 rfl o h hs g)
    clear S10 o h hs g
    go_wp2_with fail
    refine (eqIntS_t (usersB d0 a1) _ _ _ (by exact S11.out.rd 1 rfl) (by exact S11.out.rd 4 rfl)).mono ?_
    rintro e w12 ⟨rfl, b⟩
    have S12 := Lib.hid (S11.out.go b)
    clear S11 b
    have hcr0 : (trI (usersB d0 a1)).cnt ≤ 8388608 := by
      have h3 : (trI (usersB d0 a1)).sz ≤ 1048576 := by have := hn0; omega
      rw [trI_cnt]
      rw [trI_sz] at h3
      omega
    go_wp2_with fail
    refine (markIntS_t (1) _ (usersB d0 a1) _ _ _ (by exact (S12.out.own 1 rfl).1) (by exact (S12.out.own 1 rfl).2) (by omega) (by omega)).mono ?_
    rintro e w13 ⟨F13, rfl, o, h, hs, g⟩
    have S13 := Lib.hid (S12.out.mark 1 rfl o h hs g)
    clear S12 o h hs g
    go_wp2_with fail
    refine (heldIntS_t (1) (usersB d0 a1) _ _ (by exact S13.out.rd 1 rfl) (by omega) (by omega)).mono ?_
    rintro e w14 ⟨rfl, b⟩
    have S14 := Lib.hid (S13.out.go b)
    clear S13 b
    obtain ⟨c0, c1, c2, c3, c4, cf⟩ := (S14.out.bk 6 rfl).c5
    go_wp2_with fail
    clear c0 c1 c2 c3 c4 cf
    refine (toProject_t d0 _ _ (by exact S14.out.old HR0.out) (by have := HZ0.out; omega)).mono ?_
    rintro e w15 ⟨v15_, F15, rfl, o, h, b⟩
    have S15 := Lib.hid (S14.out.new o h b)
    clear S14 o h b
    go_wp2_with fail
    refine (implUsers_any d0 a1 _ _ (by exact S15.out.rd 0 rfl) HK0.out).mono ?_
    rintro e w16 ⟨v16_, F16, rfl, o, h, b⟩
    have S16 := Lib.hid (S15.out.new o h b)
    clear S15 o h b
    go_wp2_with fail
    refine (eqIntS_t (usersB d0 a1) _ _ _ (by exact S16.out.rd 0 rfl) (by exact S16.out.rd 6 rfl)).mono ?_
    rintro e w17 ⟨rfl, b⟩
    have S17 := Lib.hid (S16.out.go b)
    clear S16 b
    go_wp2_with fail
    refine (heldIntS_t (1) (usersB d0 a1) _ _ (by exact S17.out.rd 3 rfl) (by omega) (by omega)).mono ?_
    rintro e w18 ⟨rfl, b⟩
    have S18 := Lib.hid (S17.out.go b)
    clear S17 b
    go_wp2
    go_ret
    exact ⟨rfl, S18.out.1⟩
end Go.Proofs.Ytfgmbgdbnjpclaa
end

section
namespace Go.Proofs.Ytfgmbgdbnjpclaa.fnExactUsers
open Go.ChangeShapes Go.WideShapes Go.ChangeAt Go.RowKit
open Go.ChangeMaps (open_string shut_string)
set_option linter.unusedVariables false

theorem own : ownKnob Try.prog.godebug = none := by kernel_rfl
theorem laidOut : laidOutB Try.prog = true := by kernel_rfl

set_option maxRecDepth 100000 in
theorem lifted (os : Os) (started : os.Started) (H : Type) (enc : TypeId × Value → H) :
    ReturnsInHanded {} Try.checked os 8 .any (Rows.fnExactUsersSpec.pre6 enc Try.prog Try.f8 Rows.fnExactUsersRow.domain false) (Rows.fnExactUsersSpec.post enc Try.prog Try.f8 false true false false) := by
  refine returnsInHanded_of_change (C := Try.checked) own started (by kernel_rfl) Try.func8
    (ChangeSpec.witness6 (enc := enc) (C := Try.checked) false ⟨#[], #[.agg #[.int .i64 0, .slice none 0 0, .slice none 0 0, .slice none 0 0, .slice none 0 0], .int .i64 0], []⟩ 8 (by kernel_rfl) (by kernel_rfl) (by kernel_rfl) (by kernel_rfl)) ?_
  intro W base args ds gs before hval0 hW hcnd _
  have hval : ∀ (j : Nat) t v, Try.f8.params[j]? = some t → args[j]? = some v → Value.okWide Try.prog W .any base t v := hval0
  have hW' := hW
  obtain ⟨p, q, hA0, hV, rfl, hfz, hnd⟩ := hW
  have hA : DataW.TrodAll enc Try.prog W 0 (fun _ => true) true Try.f8.params.toList args.toList ds p := hA0
  rw [Try.params8] at hA hval
  obtain ⟨v0, vs0, d0, ds0, p0, q0, hargs, rfl, rfl, h0, r0⟩ := trodAll_cons hA
  obtain ⟨v1, vs1, d1, ds1, p1, q1, rfl, rfl, rfl, h1, r1⟩ := trodAll_cons r0
  obtain ⟨rfl, rfl, rfl⟩ := trodAll_nil r1
  obtain rfl : args = #[v0, v1] := by cases args; simp_all
  obtain ⟨rfl, rfl⟩ := trodVars_none hV
  have k0 := h0
  have lt0 : ∀ x ∈ p0, x.block < W.heap.size := by obtain ⟨m, hm⟩ := k0; exact DataW.trod_lt m _ _ _ hm
  obtain ⟨a0, ok0, w0⟩ := opens_agg Try.underlying39 opens_Project (hval 0 39 v0 rfl rfl) h0
  obtain ⟨a1, rfl, rfl, rfl, w1⟩ := open_int Try.underlying3 (hval 1 3 v1 rfl rfl) h1
  clear hA0 hval0
  refine (walkFnExactUsers v0 a0 a1 W w0 ok0 w1).mono fun e W' ⟨he, bel⟩ => ?_
  subst he
  exact ⟨_, rfl, _, _, _, [], _, [], hW', trodAll_mk1 (shut_bool Try.underlying4 _), (trodAll_cons_mk (Below.trod laidOut (by kernel_rfl) (of_decide_eq_true (by kernel_rfl)) k0 bel lt0) (trodAll_cons_mk (shut_int Try.underlying3 w1) trodAll_mk0)), rfl, bel.frame _, fun h => by cases h⟩

theorem over : Rows.fnExactUsersRow.holds Try.pinned (OpenSpec.ofChange Rows.fnExactUsersSpec) :=
  OpenClaim.holds_of_wide 8 Try.f8 rfl rfl rfl rfl rfl rfl rfl ⟨rfl, rfl, rfl, rfl, rfl⟩ rfl rfl rfl rfl rfl (by kernel_rfl) Try.func8 (by kernel_rfl)
    (of_decide_eq_true (by kernel_rfl)) (by unfold Func.isWrapper; first | (rw [if_pos (by decide +kernel)]; kernel_rfl) | (rw [if_neg (by decide +kernel)]; exact ⟨rfl, rfl⟩))
    (fun os started H enc _ => lifted os started H enc)

theorem proved : Rows.FnExactUsersSaid := over
end Go.Proofs.Ytfgmbgdbnjpclaa.fnExactUsers
end
