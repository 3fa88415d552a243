/- DERIVED. CONTRACTS of the laws' helpers over slices of capacity steps: szStepS, toStep(S), eqStep(S), markStepS, heldStepS. -/
import Derived.Test.YtlcmnmobfhajdabGreatDoorChecked
import Derived.Test.YtlcmnmobfhajdabGreatDoorCore
import Derived.WalkKit
import Derived.Lib.Hide
import Derived.OwnWalk
import Derived.BigQuiet
import Derived.Deep.RegionWith
import Derived.Deep.QuietTactic
import Derived.Outline
namespace Go.Proofs.YtlcmnmobfhajdabGreatDoor
open Go.RowKit

set_option maxRecDepth 100000 in
theorem eqStep_any (p q : Int × Int) (w : World) :
    Calls Tryz.prog 140 #[.agg #[.int .i64 p.1, .int .i64 p.2], .agg #[.int .i64 q.1, .int .i64 q.2]] w fun e w' => e = .returned (.bool (decide (p = q))) ∧ Below w.heap.size w w' := by
  obtain ⟨a, b⟩ := p
  obtain ⟨c, d⟩ := q
  have hdec : decide ((a, b) = (c, d)) = (decide (a = c) && decide (b = d)) := by simp [Prod.mk.injEq]
  rw [hdec]
  clear hdec
  by_cases h1 : a = c
  · subst h1
    by_cases h2 : b = d
    · subst h2
      go_enter Tryz.func140, Tryz.ntmps140
      go_wp2
      go_ret
      exact ⟨by simp, ((Below.refl _ _).alloc (Nat.le_refl _) _).alloc (by simp) _⟩
    · have h2' : (b == d) = false := by simpa using h2
      have H := Lib.hid h2
      clear h2
      go_enter Tryz.func140, Tryz.ntmps140
      go_wp2
      go_ret
      exact ⟨by simp [H.out], ((Below.refl _ _).alloc (Nat.le_refl _) _).alloc (by simp) _⟩
  · have h1' : (a == c) = false := by simpa using h1
    have H := Lib.hid h1
    clear h1
    go_enter Tryz.func140, Tryz.ntmps140
    go_wp2
    go_ret
    exact ⟨by simp [H.out], ((Below.refl _ _).alloc (Nat.le_refl _) _).alloc (by simp) _⟩

set_option maxRecDepth 100000 in
theorem toStep_any (a b : Int) (w : World) :
    Calls Tryz.prog 129 #[.agg #[.int .i64 a, .int .i64 b]] w fun e w' => e = .returned (.agg #[.int .i64 a, .int .i64 b]) ∧ Below w.heap.size w w' := by
  go_enter Tryz.func129, Tryz.ntmps129
  go_wp2
  refine bodyPost_ret (v := .agg #[.int .i64 a, .int .i64 b]) (by simp [results, Tryz.results129, go_sem]) rfl ⟨rfl, ?_⟩
  repeat (first | exact Below.refl _ _ | refine Below.setCell ?_ (by simp) _ | refine Below.alloc ?_ (by first | (simp; done) | (simp; omega)) _)

theorem eqP_pre {xs ys : List (Int × Int)} {k : Nat} (hl : xs.length = ys.length) (hk : ¬ k < xs.length) (h : ∀ j, (h1 : j < xs.length) → (h2 : j < ys.length) → j < k → xs[j] = ys[j]) : xs = ys :=
  List.ext_getElem hl fun j h1 h2 => h j h1 h2 (by omega)

set_option maxRecDepth 100000 in
set_option maxHeartbeats 1000000 in
theorem eqP_any (xs ys : List (Int × Int)) (va vb : Value) (w : World) (ha : RdP w va xs) (hb : RdP w vb ys) :
    Calls Tryz.prog 117 #[va, vb] w fun e w' => e = .returned (.bool (decide (xs = ys))) ∧ Below w.heap.size w w' := by
  have hla := ha.le
  have hlb := hb.le
  obtain ⟨A, ca, rfl, ga⟩ := rdP ha
  obtain ⟨B, cb, rfl, gb⟩ := rdP hb
  clear ha hb
  by_cases hne : xs.length = ys.length
  · rcases ga with ha | ⟨b1, o1, rfl, hb1, hc1⟩
    · subst ha
      have hy : ys = [] := List.eq_nil_of_length_eq_zero hne.symm
      subst hy
      clear gb hne hla hlb
      go_enter Tryz.func117, Tryz.ntmps117
      go_wp2
      refine wp_loop_rounds 1 ?_
      rw [rounds_succ]
      go_wp2
      go_ret
      exact ⟨rfl, Below.refl _ _⟩
    · rcases gb with hb | ⟨b2, o2, rfl, hb2, hc2⟩
      · subst hb
        have hx : xs = [] := List.eq_nil_of_length_eq_zero hne
        subst hx
        clear hne hla hlb hc1
        go_enter Tryz.func117, Tryz.ntmps117
        go_wp2
        refine wp_loop_rounds 1 ?_
        rw [rounds_succ]
        go_wp2
        go_ret
        exact ⟨rfl, Below.refl _ _⟩
      · have hne' : ((xs.length : Int) != (ys.length : Int)) = false := by simp; omega
        have HL := Lib.hid hne
        clear hne
        have HC1 := Lib.hid hc1
        have HC2 := Lib.hid hc2
        clear hc1 hc2
        go_enter Tryz.func117, Tryz.ntmps117
        go_wp2
        go_loopw [5] (fun i wr => ∃ k : Nat, k ≤ xs.length ∧ i = .int .i64 k ∧ Below w.heap.size w wr ∧ ∀ j, (h1 : j < xs.length) → (h2 : j < ys.length) → j < k → xs[j] = ys[j]) (fun i _ => xs.length - (intOf i).toNat)
        case atStart => exact ⟨0, Nat.zero_le _, rfl, Below.refl _ _, fun j _ _ h => absurd h (by omega)⟩
        case round =>
          obtain ⟨k, hk, rfl, hbel, hall⟩ := hrel
          by_cases hlt : k < xs.length
          · have hlt' : (k : Int) < (xs.length : Int) := by omega
            have hlt2 : k < ys.length := by have := HL.out; omega
            have hlt2' : (k : Int) < (ys.length : Int) := by omega
            obtain ⟨cx0, cx1⟩ : wr.cell? ⟨b1, o1 + k * 2, none⟩ = some (.int .i64 xs[k].1) ∧ wr.cell? ⟨b1, o1 + k * 2 + 1, none⟩ = some (.int .i64 xs[k].2) :=
              ⟨(hbel.cell (p := ⟨b1, o1 + k * 2, none⟩) hb1).trans (HC1.out k hlt).1, (hbel.cell (p := ⟨b1, o1 + k * 2 + 1, none⟩) hb1).trans (HC1.out k hlt).2⟩
            obtain ⟨cy0, cy1⟩ : wr.cell? ⟨b2, o2 + k * 2, none⟩ = some (.int .i64 ys[k].1) ∧ wr.cell? ⟨b2, o2 + k * 2 + 1, none⟩ = some (.int .i64 ys[k].2) :=
              ⟨(hbel.cell (p := ⟨b2, o2 + k * 2, none⟩) hb2).trans (HC2.out k hlt2).1, (hbel.cell (p := ⟨b2, o2 + k * 2 + 1, none⟩) hb2).trans (HC2.out k hlt2).2⟩
            have HB := Lib.hid hbel
            clear hbel
            by_cases he : xs[k] = ys[k]
            · have step : ∀ j, (h1 : j < xs.length) → (h2 : j < ys.length) → j < k + 1 → xs[j] = ys[j] := fun j h1 h2 h => by
                by_cases e : j = k
                · subst e; exact he
                · exact hall j h1 h2 (by omega)
              have STEP := Lib.hid step
              clear step hall
              rw [he] at cx0 cx1
              clear he
              generalize ys[k] = y at cx0 cx1 cy0 cy1
              go_wp2
              go_region_with (go_at_call 140; refine (eqStep_any y y _).mono ?_; rintro e w1 ⟨rfl, hb1⟩; rw [decide_eq_true rfl])
              all_goals
                go_wp2
                go_roundw
                case rel => exact ⟨k + 1, by omega, by go_num, HB.out.drew.trans (hb1.mono HB.out.size), STEP.out⟩
                case measure => simp [intOf]; omega
            · have hfin : decide (xs = ys) = false := by
                rw [decide_eq_false_iff_not]; intro e; subst e; exact he rfl
              have HF := Lib.hid hfin
              have HD := Lib.hid (decide_eq_false he)
              clear hall hfin he
              generalize xs[k] = x at cx0 cx1 HD
              generalize ys[k] = y at cy0 cy1 HD
              go_wp2
              go_region_with (go_at_call 140; refine (eqStep_any x y _).mono ?_; rintro e w1 ⟨rfl, hb1⟩; rw [HD.out])
              all_goals
                go_wp2
                go_ret
                exact ⟨by rw [HF.out]; rfl, HB.out.drew.trans (hb1.mono HB.out.size)⟩
          · have hge : ¬ (k : Int) < (xs.length : Int) := by omega
            have HF := Lib.hid (decide_eq_true (eqP_pre HL.out hlt hall))
            clear hall
            go_wp2
            go_ret
            exact ⟨by rw [HF.out]; rfl, hbel⟩
  · have HF : Hid (decide (xs = ys) = false) := Lib.hid (by rw [decide_eq_false_iff_not]; intro e; exact hne (by rw [e]))
    have hne' : ((xs.length : Int) != (ys.length : Int)) = true := by simp; omega
    clear hne ga gb
    go_enter Tryz.func117, Tryz.ntmps117
    go_wp2
    go_ret
    exact ⟨by rw [HF.out]; rfl, Below.refl _ _⟩

def mkP (k : Nat) (i : Nat) : Int × Int := ((k + 2 * i : Nat), (k + 2 * i + 1 : Nat))
def marksP (k n : Nat) : List (Int × Int) := (List.range n).map (mkP k)
theorem marksP_len (k n : Nat) : (marksP k n).length = n := by simp [marksP]

/-- The first j pairs marked, the rest as before; 'mixP' one cell at a time is the same list with the j-th pair half marked. -/
def mixP (mk : Nat → Int × Int) (xs : List (Int × Int)) (j : Nat) : List (Int × Int) := (List.range j).map mk ++ xs.drop j
theorem mixP_zero (mk : Nat → Int × Int) (xs : List (Int × Int)) : mixP mk xs 0 = xs := by simp [mixP]
theorem mixP_full (mk : Nat → Int × Int) (xs : List (Int × Int)) {n : Nat} (h : xs.length = n) : mixP mk xs n = (List.range n).map mk := by simp [mixP, ← h]
theorem mixP_len (mk : Nat → Int × Int) (xs : List (Int × Int)) {j : Nat} (h : j ≤ xs.length) : (mixP mk xs j).length = xs.length := by simp [mixP]; omega
theorem mixP_set (mk : Nat → Int × Int) (xs : List (Int × Int)) {j : Nat} (h : j < xs.length) : (mixP mk xs j).set j (mk j) = mixP mk xs (j + 1) := by
  unfold mixP
  have e : (List.drop j xs).set 0 (mk j) = mk j :: List.drop (j + 1) xs := by rw [List.drop_eq_getElem_cons h]; rfl
  rw [List.set_append_right _ _ (by simp)]
  simp [List.range_succ, e]
/-- Both cells of the j-th pair written. -/
theorem cellsP_put (xs : List (Int × Int)) (j : Nat) (h : j < xs.length) (a b : Int) : ((cellsP xs).set (j * 2) (.int .i64 a)).set (j * 2 + 1) (.int .i64 b) = cellsP (xs.set j (a, b)) := by
  rw [cellsP_set0 xs j h, cellsP_set1 _ j (by simpa using h)]
  simp

set_option maxRecDepth 100000 in
set_option maxHeartbeats 1000000 in
theorem markP_any (k n base : Nat) (v : Value) (xs : List (Int × Int)) (w : World) (hown : w.ownsRow base 105 2 v n (cellsP xs)) (h0 : 0 < k) (hk : k + 2 * n ≤ 1000000000) :
    Calls Tryz.prog 92 #[v, .int .i64 k] w fun e w' => e = .returned (.int .i64 (k + 2 * n : Nat)) ∧ w'.ownsRow base 105 2 v n (cellsP (marksP k n)) ∧ w.grownBy w' v.ownBlock := by
  have hlen := ownP_len hown
  rcases hown.2 with ⟨rfl, rfl⟩ | ⟨g, cap, cur, rfl, hg, hh, hnc, hcm, hcs, htake⟩
  · have hx : xs = [] := List.eq_nil_of_length_eq_zero hlen
    subst hx
    go_enter Tryz.func92, Tryz.ntmps92
    go_wp2
    refine wp_loop_rounds 1 ?_
    rw [rounds_succ]
    go_wp2
    go_ret
    exact ⟨rfl, hown, World.grownBy.refl _ _⟩
  · have hlen' : (xs.length = n) := hlen
    have HL := Lib.hid hlen'
    clear hlen' hlen hh hcs htake
    go_enter Tryz.func92, Tryz.ntmps92
    go_wp2
    go_loopw [1, 5] (fun q i wr => ∃ j : Nat, j ≤ n ∧ i = .int .i64 j ∧ q = .int .i64 (k + 2 * j : Nat) ∧ wr.ownsRow base 105 2 (.slice (some ⟨g, 0, none⟩) n cap) n (cellsP (mixP (mkP k) xs j)) ∧ w.grownBy wr (some g)) (fun _ i _ => n - (intOf i).toNat)
    case atStart => exact ⟨0, Nat.zero_le _, rfl, rfl, by rw [mixP_zero]; exact hown, World.grownBy.refl _ _⟩
    case round =>
      obtain ⟨j, hj, rfl, rfl, how, hgr⟩ := hrel
      by_cases hlt : j < n
      · have hlt' : (j : Int) < (n : Int) := by omega
        have hgw : g < wr.heap.size := (how.lt g rfl).2
        have hml : (mixP (mkP k) xs j).length = n := by rw [mixP_len _ _ (by have := HL.out; omega)]; exact HL.out
        have hc0 : wr.cell? ⟨g, j * 2, none⟩ = some (.int .i64 ((mixP (mkP k) xs j)[j]'(by omega)).1) := by
          rw [how.cellAt (j * 2) (by omega)]; exact cellsP_0 _ _ _
        have hc1 : wr.cell? ⟨g, j * 2 + 1, none⟩ = some (.int .i64 ((mixP (mkP k) xs j)[j]'(by omega)).2) := by
          rw [how.cellAt (j * 2 + 1) (by omega)]; exact cellsP_1 _ _ _
        have hf0 : wr.frozen? ⟨g, j * 2, none⟩ = false := how.frozenAt _
        have hf1 : wr.frozen? ⟨g, j * 2 + 1, none⟩ = false := how.frozenAt _
        obtain ⟨hs1, hs2⟩ := how.stored (j * 2) (.int .i64 (mkP k j).1)
        obtain ⟨hs3, hs4⟩ := hs1.stored (j * 2 + 1) (.int .i64 (mkP k j).2)
        rw [cellsP_put _ _ (by omega)] at hs3
        rw [show ((mkP k j).1, (mkP k j).2) = mkP k j from rfl, mixP_set _ _ (by have := HL.out; omega)] at hs3
        have H1 := Lib.hid hs3
        have H2 := Lib.hid (grown_trans hgr (grown_trans hs2 hs4))
        clear hs1 hs2 hs3 hs4 how hgr
        generalize ((mixP (mkP k) xs j)[j]'_).1 = z0 at hc0
        generalize ((mixP (mkP k) xs j)[j]'_).2 = z1 at hc1
        go_wp2
        go_roundw
        case rel => exact ⟨j + 1, by omega, by go_num, by go_num, H1.out, H2.out⟩
        case measure => simp [intOf]; omega
      · have hge : ¬ (j : Int) < (n : Int) := by omega
        obtain rfl : j = n := by omega
        rw [mixP_full _ _ HL.out] at how
        have H1 := Lib.hid how
        have H2 := Lib.hid hgr
        clear how hgr
        go_wp2
        go_ret
        exact ⟨rfl, H1.out, H2.out⟩

theorem marksP_0 (k n j : Nat) (h : j < n) : (marksP k n)[j]'(by rw [marksP_len]; exact h) = mkP k j := by simp [marksP]

set_option maxRecDepth 100000 in
set_option maxHeartbeats 1000000 in
theorem heldP_any (k n : Nat) (v : Value) (w : World) (hr : RdP w v (marksP k n)) (h0 : 0 < k) (hk : k + 2 * n ≤ 1000000000) :
    Calls Tryz.prog 95 #[v, .int .i64 k] w fun e w' => e = .returned (.int .i64 (k + 2 * n : Nat)) ∧ Below w.heap.size w w' := by
  obtain ⟨A, ca, rfl, ga⟩ := rdP hr
  clear hr
  rcases ga with ha | ⟨b, o, rfl, hb, hc⟩
  · have hn : n = 0 := by have := marksP_len k n; rw [ha] at this; simpa using this.symm
    subst hn
    clear ha
    rw [marksP_len]
    go_enter Tryz.func95, Tryz.ntmps95
    go_wp2
    refine wp_loop_rounds 1 ?_
    rw [rounds_succ]
    go_wp2
    go_ret
    exact ⟨rfl, Below.refl _ _⟩
  · have HC := Lib.hid hc
    clear hc
    rw [marksP_len]
    go_enter Tryz.func95, Tryz.ntmps95
    go_wp2
    go_loopw [1, 5] (fun q i wr => ∃ j : Nat, j ≤ n ∧ i = .int .i64 j ∧ q = .int .i64 (k + 2 * j : Nat) ∧ Below w.heap.size w wr) (fun _ i _ => n - (intOf i).toNat)
    case atStart => exact ⟨0, Nat.zero_le _, rfl, rfl, Below.refl _ _⟩
    case round =>
      obtain ⟨j, hj, rfl, rfl, hbw⟩ := hrel
      by_cases hlt : j < n
      · have hlt' : (j : Int) < (n : Int) := by omega
        obtain ⟨hc0, hc1⟩ : wr.cell? ⟨b, o + j * 2, none⟩ = some (.int .i64 ((k + 2 * j : Nat) : Int)) ∧ wr.cell? ⟨b, o + j * 2 + 1, none⟩ = some (.int .i64 ((k + 2 * j : Nat) + 1 : Int)) := by
          obtain ⟨h1, h2⟩ := HC.out j (by rw [marksP_len]; exact hlt)
          rw [marksP_0 _ _ _ hlt] at h1 h2
          exact ⟨(hbw.cell (p := ⟨b, o + j * 2, none⟩) hb).trans h1, (hbw.cell (p := ⟨b, o + j * 2 + 1, none⟩) hb).trans h2⟩
        have HB := Lib.hid hbw
        clear hbw
        go_wp2
        go_roundw
        case rel => exact ⟨j + 1, by omega, by go_num, by go_num, HB.out⟩
        case measure => simp [intOf]; omega
      · have hge : ¬ (j : Int) < (n : Int) := by omega
        obtain rfl : j = n := by omega
        go_wp2
        go_ret
        exact ⟨rfl, hbw⟩

theorem szP_any (a : Option Addr) (len cap : Nat) (left : Int) (w : World) (h1 : len ≤ 9223372036854775807) (h0 : 0 ≤ left) (h2 : left ≤ 1048576) :
    Calls Tryz.prog 98 #[.slice a len cap, .int .i64 left] w fun e w' => e = .returned (.int .i64 (if left < len then -1 else left - len)) ∧ w = w' := by
  by_cases h : left < len
  · have h' : left - len < 0 := by omega
    rw [if_pos h]
    go_enter Tryz.func98, Tryz.ntmps98
    go_wp2
    go_ret
    exact ⟨rfl, rfl⟩
  · have h' : ¬ left - len < 0 := by omega
    rw [if_neg h]
    go_enter Tryz.func98, Tryz.ntmps98
    go_wp2
    go_ret
    exact ⟨rfl, rfl⟩

theorem infoStep : (Tryz.prog.info? 105).map (fun i => (i.zero, i.size, i.bytes)) = some (some (.agg #[.int .i64 0, .int .i64 0]), 2, 16) := by kernel_rfl
def elP (xs : List (Int × Int)) (i : Nat) : Int × Int := xs.getD i (0, 0)
theorem elP_all (xs : List (Int × Int)) : (List.range xs.length).map (elP xs) = xs := by
  apply List.ext_getElem
  · simp
  · intro i h1 h2
    simp [elP] at h1 ⊢
    rw [List.getElem?_eq_getElem h2]; rfl

/-- The first j pairs written, the rest as made. -/
def mixPC (xs : List (Int × Int)) (ms : List Value) (j : Nat) : List Value := cellsP (xs.take j) ++ ms.drop (j * 2)
theorem mixPC_zero (xs : List (Int × Int)) (ms : List Value) : mixPC xs ms 0 = ms := by simp [mixPC, cellsP]
theorem mixPC_full (xs : List (Int × Int)) (ms : List Value) (h : ms.length = xs.length * 2) : mixPC xs ms xs.length = cellsP xs := by simp [mixPC, ← h]
theorem mixPC_len (xs : List (Int × Int)) (ms : List Value) (j : Nat) (hj : j ≤ xs.length) (h : ms.length = xs.length * 2) : (mixPC xs ms j).length = xs.length * 2 := by
  simp [mixPC, cellsP_len]; omega
theorem mixPC_set (xs : List (Int × Int)) (ms : List Value) (j : Nat) (hj : j < xs.length) (h : ms.length = xs.length * 2) :
    ((mixPC xs ms j).set (j * 2) (.int .i64 xs[j].1)).set (j * 2 + 1) (.int .i64 xs[j].2) = mixPC xs ms (j + 1) := by
  unfold mixPC
  have hl : (cellsP (xs.take j)).length = j * 2 := by rw [cellsP_len]; simp; omega
  rw [List.set_append_right _ _ (by omega), List.set_append_right _ _ (by omega), hl, Nat.sub_self, show j * 2 + 1 - j * 2 = 1 from by omega]
  rw [List.take_succ_eq_append_getElem hj, cellsP_app]
  have e1 : ms.drop (j * 2) = ms[j * 2] :: ms[j * 2 + 1] :: ms.drop ((j + 1) * 2) := by
    rw [List.drop_eq_getElem_cons (by omega), List.drop_eq_getElem_cons (by omega), show (j + 1) * 2 = j * 2 + 1 + 1 from by omega]
  rw [e1]
  simp [cellsP]

set_option maxRecDepth 100000 in
set_option maxHeartbeats 1000000 in
theorem toP_any (xs : List (Int × Int)) (v : Value) (w : World) (hr : RdP w v xs) (hl : xs.length ≤ 1073741824) :
    Calls Tryz.prog 103 #[v] w fun e w' => ∃ v', e = .returned v' ∧ w'.ownsRow w.heap.size 105 2 v' xs.length (cellsP xs) ∧ Below w.heap.size w w' := by
  have hla := hr.le
  obtain ⟨A, ca, rfl, ga⟩ := rdP hr
  clear hr
  obtain ⟨i0, hi, hz0, hz1, hz2⟩ := info_parts infoStep
  rcases ga with ha | ⟨b1, o1, rfl, hb1, hc1⟩
  · subst ha
    go_enter Tryz.func103, Tryz.ntmps103
    go_wp2_with (at_make; refine wpList_make_full _ rfl _ _ 49 rfl w.heap.size 105 i0 (.agg #[.int .i64 0, .int .i64 0]) 2 Tryz.underlying49 hi hz0 hz1 .i64 .i64 _ _ 0 rfl rfl (by simp) (by simp) (by rw [hz2]; omega) (by unfold maxLen; omega) (Nat.le_refl _) ?_; intro w1 hown1 hgrow1)
    refine wp_loop_rounds 1 ?_
    rw [rounds_succ]
    go_wp2
    go_ret
    exact ⟨_, rfl, by simpa [cellsP, madeCells] using hown1, (Below.refl _ _).grown hgrow1 (Nat.le_refl _) (by simp)⟩
  · have HC := Lib.hid hc1
    clear hc1
    go_enter Tryz.func103, Tryz.ntmps103
    go_wp2_with (at_make; refine wpList_make_full _ rfl _ _ 49 rfl w.heap.size 105 i0 (.agg #[.int .i64 0, .int .i64 0]) 2 Tryz.underlying49 hi hz0 hz1 .i64 .i64 _ _ xs.length rfl rfl rfl rfl (by rw [hz2]; omega) (by unfold maxLen; omega) (Nat.le_refl _) ?_; intro w1 hown1 hgrow1)
    have hbel1 : Below w.heap.size w w1 := (Below.refl _ _).grown hgrow1 (Nat.le_refl _) (by simp)
    have hm := hown1.1
    generalize hms : (madeCells _ (xs.length * 2)).toList = ms at hown1 hm
    have HM := Lib.hid hm
    clear hm hms hgrow1
    go_loopw [4] (fun i wr => ∃ k : Nat, k ≤ xs.length ∧ i = .int .i64 k ∧ wr.ownsRow w.heap.size 105 2 (.slice (some ⟨w.heap.size, 0, none⟩) xs.length xs.length) xs.length (mixPC xs ms k) ∧ Below w.heap.size w wr) (fun i _ => xs.length - (intOf i).toNat)
    case atStart => exact ⟨0, Nat.zero_le _, rfl, by rw [mixPC_zero]; exact hown1, hbel1⟩
    case round =>
      obtain ⟨k, hk, rfl, how, hbel⟩ := hrel
      by_cases hlt : k < xs.length
      · have hlt' : (k : Int) < (xs.length : Int) := by omega
        obtain ⟨cx0, cx1⟩ : wr.cell? ⟨b1, o1 + k * 2, none⟩ = some (.int .i64 xs[k].1) ∧ wr.cell? ⟨b1, o1 + k * 2 + 1, none⟩ = some (.int .i64 xs[k].2) :=
          ⟨(hbel.cell (p := ⟨b1, o1 + k * 2, none⟩) hb1).trans (HC.out k hlt).1, (hbel.cell (p := ⟨b1, o1 + k * 2 + 1, none⟩) hb1).trans (HC.out k hlt).2⟩
        have HW := Lib.hid how
        have HB := Lib.hid hbel
        have HS := Lib.hid (mixPC_set xs ms k hlt HM.out)
        have HLM := Lib.hid (mixPC_len xs ms k (by omega) HM.out)
        clear how hbel
        generalize xs[k].1 = x0 at cx0 HS
        generalize xs[k].2 = x1 at cx1 HS
        go_wp2_with fail
        refine (toStep_any x0 x1 _).mono ?_
        rintro e w2 ⟨rfl, hb2⟩
        have how2 := own_below HW.out hb2 (Nat.le_refl _)
        have hbel2 := HB.out.trans (hb2.mono HB.out.size)
        have hgw : w.heap.size < w2.heap.size := (how2.lt w.heap.size rfl).2
        obtain ⟨z0, hc0⟩ : ∃ z, w2.cell? ⟨w.heap.size, k * 2, none⟩ = some z := ⟨_, by rw [how2.cellAt (k * 2) (by omega)]; exact List.getElem?_eq_getElem (by rw [HLM.out]; omega)⟩
        obtain ⟨z1, hc1⟩ : ∃ z, w2.cell? ⟨w.heap.size, k * 2 + 1, none⟩ = some z := ⟨_, by rw [how2.cellAt (k * 2 + 1) (by omega)]; exact List.getElem?_eq_getElem (by rw [HLM.out]; omega)⟩
        have hf0 : w2.frozen? ⟨w.heap.size, k * 2, none⟩ = false := how2.frozenAt _
        have hf1 : w2.frozen? ⟨w.heap.size, k * 2 + 1, none⟩ = false := how2.frozenAt _
        obtain ⟨hs1, _⟩ := how2.stored (k * 2) (.int .i64 x0)
        obtain ⟨hs2, _⟩ := hs1.stored (k * 2 + 1) (.int .i64 x1)
        rw [HS.out] at hs2
        have H1 := Lib.hid hs2
        have H2 := Lib.hid ((hbel2.setCell (p := ⟨w.heap.size, k * 2, none⟩) (Nat.le_refl _) (.int .i64 x0)).setCell (p := ⟨w.heap.size, k * 2 + 1, none⟩) (Nat.le_refl _) (.int .i64 x1))
        clear hs1 hs2 how2 hbel2 hb2
        go_wp2
        go_roundw
        case rel => exact ⟨k + 1, by omega, by go_num, H1.out, H2.out⟩
        case measure => simp [intOf]; omega
      · have hge : ¬ (k : Int) < (xs.length : Int) := by omega
        obtain rfl : k = xs.length := by omega
        rw [mixPC_full _ _ HM.out] at how
        have H1 := Lib.hid how
        clear how
        go_wp2
        go_ret
        exact ⟨_, rfl, H1.out, hbel⟩
end Go.Proofs.YtlcmnmobfhajdabGreatDoor
