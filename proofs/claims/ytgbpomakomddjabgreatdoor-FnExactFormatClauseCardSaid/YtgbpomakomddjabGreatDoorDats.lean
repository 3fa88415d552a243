/- DERIVED. CONTRACTS: l01In. -/
import Derived.Test.YtgbpomakomddjabGreatDoorChecked
import Derived.Test.YtgbpomakomddjabGreatDoorCore
import Derived.WalkKit
import Derived.Lib.Hide
import Derived.OwnWalk
import Derived.BigQuiet
import Derived.Deep.QuietTactic
import Derived.Outline
import Derived.Laws.BytesArg
import Derived.Deep.RegionWith
import Derived.Laws.AppendOwnNone
import Derived.Maps.AppendAt
import Derived.Test.YtgbpomakomddjabGreatDoorMaths

section
namespace Go.Proofs.YtgbpomakomddjabGreatDoor
open Go.RowKit

theorem eqI_pre {xs ys : List Int} {k : Nat} (hl : xs.length = ys.length) (hk : ¬ k < xs.length) (h : ∀ j, (h1 : j < xs.length) → (h2 : j < ys.length) → j < k → xs[j] = ys[j]) : xs = ys :=
  List.ext_getElem hl fun j h1 h2 => h j h1 h2 (by omega)

set_option maxRecDepth 100000 in
set_option maxHeartbeats 1000000 in
theorem eqI_any (xs ys : List Int) (va vb : Value) (w : World) (ha : Rd w va (xs.map (.int .i64))) (hb : Rd w vb (ys.map (.int .i64))) :
    Calls Tryz.prog 36 #[va, vb] w fun e w' => e = .returned (.bool (decide (xs = ys))) ∧ ∃ n, w' = w.drewN n := by
  obtain ⟨hla, A, ca, rfl, ha⟩ := ha
  obtain ⟨hlb, B, cb, rfl, hb⟩ := hb
  simp only [List.length_map] at *
  unfold maxLen at hla hlb
  by_cases hne : xs.length = ys.length
  · rcases ha with ha | ⟨b1, o1, rfl, hb1, hc1⟩
    · have hx : xs = [] := by simpa using ha
      subst hx
      have hy : ys = [] := List.eq_nil_of_length_eq_zero hne.symm
      subst hy
      clear ha hb hne hla hlb
      go_enter Tryz.func36, Tryz.ntmps36
      go_wp2
      refine wp_loop_rounds 1 ?_
      rw [rounds_succ]
      go_wp2
      go_ret
      exact ⟨rfl, 0, rfl⟩
    · rcases hb with hb | ⟨b2, o2, rfl, hb2, hc2⟩
      · have hy : ys = [] := by simpa using hb
        subst hy
        have hx : xs = [] := List.eq_nil_of_length_eq_zero hne
        subst hx
        clear hb hne hla hlb hc1
        go_enter Tryz.func36, Tryz.ntmps36
        go_wp2
        refine wp_loop_rounds 1 ?_
        rw [rounds_succ]
        go_wp2
        go_ret
        exact ⟨rfl, 0, rfl⟩
      · have hne' : ((xs.length : Int) != (ys.length : Int)) = false := by simp; omega
        have HL := Lib.hid hne
        clear hne
        have HC1 := Lib.hid hc1
        have HC2 := Lib.hid hc2
        clear hc1 hc2
        go_enter Tryz.func36, Tryz.ntmps36
        go_wp2
        go_loopw [5] (fun i wr => ∃ k n : Nat, k ≤ xs.length ∧ i = .int .i64 k ∧ wr = w.drewN n ∧ ∀ j, (h1 : j < xs.length) → (h2 : j < ys.length) → j < k → xs[j] = ys[j]) (fun i _ => xs.length - (intOf i).toNat)
        case atStart => exact ⟨0, 0, Nat.zero_le _, rfl, rfl, fun j _ _ h => absurd h (by omega)⟩
        case round =>
          obtain ⟨k, n, hk, rfl, rfl, hall⟩ := hrel
          by_cases hlt : k < xs.length
          · have hlt' : (k : Int) < (xs.length : Int) := by omega
            have hlt2 : k < ys.length := by have := HL.out; omega
            have hlt2' : (k : Int) < (ys.length : Int) := by omega
            have cx : w.cell? ⟨b1, o1 + k, none⟩ = some (.int .i64 xs[k]) := by have := HC1.out k hlt; simpa using this
            have cy : w.cell? ⟨b2, o2 + k, none⟩ = some (.int .i64 ys[k]) := by have := HC2.out k hlt2; simpa using this
            by_cases he : xs[k] = ys[k]
            · have step : ∀ j, (h1 : j < xs.length) → (h2 : j < ys.length) → j < k + 1 → xs[j] = ys[j] := fun j h1 h2 h => by
                by_cases e : j = k
                · subst e; exact he
                · exact hall j h1 h2 (by omega)
              have STEP := Lib.hid step
              clear step hall
              rw [he] at cx
              clear he
              generalize ys[k] = y at cx cy
              go_wp2
              go_quiet (fail)
              go_wp2
              go_roundw
              case rel => exact ⟨k + 1, n + nq, by omega, by go_num, rfl, STEP.out⟩
              case measure => simp [intOf]; omega
            · have hfin : decide (xs = ys) = false := by
                rw [decide_eq_false_iff_not]; intro e; subst e; exact he rfl
              have HF := Lib.hid hfin
              have he' : (xs[k] == ys[k]) = false := by simpa using he
              clear hall hfin he
              generalize xs[k] = x at cx he'
              generalize ys[k] = y at cy he'
              go_wp2
              go_quiet (fail)
              go_wp2
              go_ret
              exact ⟨by rw [HF.out]; rfl, n + nq, by rw [World.drewN_drewN]⟩
          · have hge : ¬ (k : Int) < (xs.length : Int) := by omega
            have HF := Lib.hid (decide_eq_true (eqI_pre HL.out hlt hall))
            clear hall
            go_wp2
            go_ret
            exact ⟨by rw [HF.out]; rfl, _, rfl⟩
  · have HF : Hid (decide (xs = ys) = false) := Lib.hid (by rw [decide_eq_false_iff_not]; intro e; exact hne (by rw [e]))
    have hne' : ((xs.length : Int) != (ys.length : Int)) = true := by simp; omega
    clear hne ha hb
    go_enter Tryz.func36, Tryz.ntmps36
    go_wp2
    go_ret
    exact ⟨by rw [HF.out]; rfl, 0, rfl⟩

theorem infoInt : (Tryz.prog.info? 3).map (fun i => (i.zero, i.size, i.bytes)) = some (some (.int .i64 0), 1, 8) := by kernel_rfl

/-- From what the row tells of an argument to 'Rd'. -/
theorem isInts_rd {w : World} {a : Option Addr} {len cap : Nat} {zs : List Int} (h : IsInts w a len cap zs) : len ≤ zs.length ∧ Rd w (.slice a len cap) ((zs.take len).map (.int .i64)) := by
  rcases h with ⟨rfl, rfl, rfl, rfl⟩ | ⟨x, rfl, hl, hm, hz, hb, hc, _⟩
  · exact ⟨Nat.le_refl _, by simp, none, 0, by simp, .inl rfl⟩
  · have hlen : ((zs.take len).map (Value.int .i64)).length = len := by simp; omega
    refine ⟨by omega, by omega, some x, cap, by rw [hlen], ?_⟩
    by_cases h0 : len = 0
    · left; subst h0; simp
    · right
      have h1 := hc 0 (by omega)
      obtain ⟨b, o, spot⟩ := x
      have hspot : spot = none := by simpa [Addr.add] using World.cell?_spot h1
      subst hspot
      refine ⟨b, o, rfl, hb (by omega), fun j hj => ?_⟩
      have := hc j (by omega)
      rw [show ((⟨b, o, none⟩ : Addr).add j) = ⟨b, o + j, none⟩ from by unfold Addr.add; split <;> simp_all] at this
      rw [this]
      have hj' : j < zs.length := by omega
      simp [List.getD, List.getElem?_eq_getElem hj']

def mkI (k : Nat) (i : Nat) : Value := .int .i64 (k + i : Nat)
def marksI (k n : Nat) : List Value := (List.range n).map (mkI k)
theorem marksI_len (k n : Nat) : (marksI k n).length = n := by simp [marksI]

set_option maxRecDepth 100000 in
set_option maxHeartbeats 1000000 in
theorem markI_any (k n base : Nat) (v : Value) (xs : List Value) (w : World) (hown : w.ownsRow base 3 1 v n xs) (h0 : 0 < k) (hk : k + n ≤ 1000000000) :
    Calls Tryz.prog 45 #[v, .int .i64 k] w fun e w' => e = .returned (.int .i64 (k + n : Nat)) ∧ w'.ownsRow base 3 1 v n (marksI k n) ∧ w.grownBy w' v.ownBlock := by
  have hlen := own_len hown
  rcases hown.2 with ⟨rfl, rfl⟩ | ⟨g, cap, cur, rfl, hg, hh, hnc, hcm, hcs, htake⟩
  · have hx : xs = [] := List.eq_nil_of_length_eq_zero hlen
    subst hx
    go_enter Tryz.func45, Tryz.ntmps45
    go_wp2
    refine wp_loop_rounds 1 ?_
    rw [rounds_succ]
    go_wp2
    go_ret
    exact ⟨rfl, hown, World.grownBy.refl _ _⟩
  · have hlen' : (xs.length = n) := hlen
    have HL := Lib.hid hlen'
    clear hlen' hlen hh hcs htake
    go_enter Tryz.func45, Tryz.ntmps45
    go_wp2
    go_loopw [1, 5] (fun q i wr => ∃ j : Nat, j ≤ n ∧ i = .int .i64 j ∧ q = .int .i64 (k + j : Nat) ∧ wr.ownsRow base 3 1 (.slice (some ⟨g, 0, none⟩) n cap) n (mix (mkI k) xs j) ∧ w.grownBy wr (some g)) (fun _ i _ => n - (intOf i).toNat)
    case atStart => exact ⟨0, Nat.zero_le _, rfl, rfl, by rw [mix_zero]; exact hown, World.grownBy.refl _ _⟩
    case round =>
      obtain ⟨j, hj, rfl, rfl, how, hgr⟩ := hrel
      by_cases hlt : j < n
      · have hlt' : (j : Int) < (n : Int) := by omega
        have hgw : g < wr.heap.size := (how.lt g rfl).2
        have hc : wr.cell? ⟨g, j, none⟩ = some ((mix (mkI k) xs j)[j]'(by rw [mix_len _ _ (by have := HL.out; omega)]; have := HL.out; omega)) := by
          rw [how.cellAt j (by omega)]; exact List.getElem?_eq_getElem _
        have hf : wr.frozen? ⟨g, j, none⟩ = false := how.frozenAt j
        obtain ⟨hs1, hs2⟩ := how.stored j (mkI k j)
        rw [mix_set _ _ (by have := HL.out; omega)] at hs1
        have H1 := Lib.hid hs1
        have H2 := Lib.hid (grown_trans hgr hs2)
        clear hs1 hs2 how hgr
        generalize (mix (mkI k) xs j)[j]'_ = z at hc
        go_wp2
        go_roundw
        case rel => exact ⟨j + 1, by omega, by go_num, by go_num, H1.out, H2.out⟩
        case measure => simp [intOf]; omega
      · have hge : ¬ (j : Int) < (n : Int) := by omega
        obtain rfl : j = n := by omega
        rw [mix_full _ _ HL.out] at how
        have H1 := Lib.hid how
        have H2 := Lib.hid hgr
        clear how hgr
        go_wp2
        go_ret
        exact ⟨rfl, H1.out, H2.out⟩

def elI (xs : List Int) (i : Nat) : Value := .int .i64 (xs.getD i 0)
theorem elI_all (xs : List Int) : (List.range xs.length).map (elI xs) = xs.map (.int .i64) := by
  apply List.ext_getElem
  · simp
  · intro i h1 h2
    simp [elI] at h1 ⊢
    rw [List.getElem?_eq_getElem h1]; rfl

set_option maxRecDepth 100000 in
set_option maxHeartbeats 1000000 in
theorem toI_any (xs : List Int) (v : Value) (w : World) (hr : Rd w v (xs.map (.int .i64))) (hl : xs.length ≤ 1073741824) :
    Calls Tryz.prog 28 #[v] w fun e w' => ∃ v', e = .returned v' ∧ w'.ownsRow w.heap.size 3 1 v' xs.length (xs.map (.int .i64)) ∧ Below w.heap.size w w' := by
  obtain ⟨hla, A, ca, rfl, ha⟩ := hr
  simp only [List.length_map] at *
  unfold maxLen at hla
  obtain ⟨i0, hi, hz0, hz1, hz2⟩ := info_parts infoInt
  rcases ha with ha | ⟨b1, o1, rfl, hb1, hc1⟩
  · have hx : xs = [] := by simpa using ha
    subst hx
    clear ha
    go_enter Tryz.func28, Tryz.ntmps28
    go_wp2_with (at_make; refine wpList_make_full _ rfl _ _ 25 rfl w.heap.size 3 i0 (.int .i64 0) 1 Tryz.underlying25 hi hz0 hz1 .i64 .i64 _ _ 0 rfl rfl (by simp) (by simp) (by rw [hz2]; omega) (by unfold maxLen; omega) (Nat.le_refl _) ?_; intro w1 hown1 hgrow1)
    refine wp_loop_rounds 1 ?_
    rw [rounds_succ]
    go_wp2
    go_ret
    exact ⟨_, rfl, by have := own_len hown1; rw [List.eq_nil_of_length_eq_zero this] at hown1; exact hown1, (Below.refl _ _).grown hgrow1 (Nat.le_refl _) (by simp)⟩
  · have HC := Lib.hid hc1
    clear hc1
    go_enter Tryz.func28, Tryz.ntmps28
    go_wp2_with (at_make; refine wpList_make_full _ rfl _ _ 25 rfl w.heap.size 3 i0 (.int .i64 0) 1 Tryz.underlying25 hi hz0 hz1 .i64 .i64 _ _ xs.length rfl rfl rfl rfl (by rw [hz2]; omega) (by unfold maxLen; omega) (Nat.le_refl _) ?_; intro w1 hown1 hgrow1)
    have hbel1 : Below w.heap.size w w1 := (Below.refl _ _).grown hgrow1 (Nat.le_refl _) (by simp)
    have hm := own_len hown1
    generalize hms : (madeCells (Value.int .i64 0).cells (xs.length * 1)).toList = ms at hown1 hm
    have HM := Lib.hid hm
    clear hm hms hgrow1
    go_loopw [4] (fun i wr => ∃ k : Nat, k ≤ xs.length ∧ i = .int .i64 k ∧ wr.ownsRow w.heap.size 3 1 (.slice (some ⟨w.heap.size, 0, none⟩) xs.length xs.length) xs.length (mix (elI xs) ms k) ∧ Below w.heap.size w wr) (fun i _ => xs.length - (intOf i).toNat)
    case atStart => exact ⟨0, Nat.zero_le _, rfl, by rw [mix_zero]; exact hown1, hbel1⟩
    case round =>
      obtain ⟨k, hk, rfl, how, hbel⟩ := hrel
      by_cases hlt : k < xs.length
      · have hlt' : (k : Int) < (xs.length : Int) := by omega
        have cx : wr.cell? ⟨b1, o1 + k, none⟩ = some (elI xs k) := by
          rw [hbel.cell (p := ⟨b1, o1 + k, none⟩) hb1]
          have := HC.out k (by simpa using hlt)
          simp [elI, List.getD, List.getElem?_eq_getElem hlt]
          simpa using this
        have hgw : w.heap.size < wr.heap.size := (how.lt w.heap.size rfl).2
        have hc : wr.cell? ⟨w.heap.size, k, none⟩ = some ((mix (elI xs) ms k)[k]'(by rw [mix_len _ _ (by have := HM.out; omega)]; have := HM.out; omega)) := by
          rw [how.cellAt k (by omega)]; exact List.getElem?_eq_getElem _
        have hf : wr.frozen? ⟨w.heap.size, k, none⟩ = false := how.frozenAt k
        obtain ⟨hs1, _⟩ := how.stored k (elI xs k)
        rw [mix_set _ _ (by have := HM.out; omega)] at hs1
        have H1 := Lib.hid hs1
        have H2 := Lib.hid (hbel.setCell (p := ⟨w.heap.size, k, none⟩) (Nat.le_refl _) (elI xs k))
        clear hs1 how hbel
        generalize (mix (elI xs) ms k)[k]'_ = z at hc
        obtain ⟨u, hu⟩ : ∃ u, elI xs k = .int .i64 u := ⟨_, rfl⟩
        rw [hu] at cx H1 H2
        clear hu
        go_wp2
        go_roundw
        case rel => exact ⟨k + 1, by omega, by go_num, H1.out, H2.out⟩
        case measure => simp [intOf]; omega
      · have hge : ¬ (k : Int) < (xs.length : Int) := by omega
        obtain rfl : k = xs.length := by omega
        rw [mix_full _ _ HM.out, elI_all] at how
        have H1 := Lib.hid how
        clear how
        go_wp2
        go_ret
        exact ⟨_, rfl, H1.out, hbel⟩
end Go.Proofs.YtgbpomakomddjabGreatDoor
end

section
namespace Go.Proofs.YtgbpomakomddjabGreatDoor
open Go.RowKit

def mtDig (k : Nat) : ByteArray := strOfNums [48 + (k : Int) % 10]
theorem mtDig_size (k : Nat) : (mtDig k).size = 1 := by simp [mtDig, strOfNums, ByteArray.size]
def mtGo : Nat → Nat → ByteArray → ByteArray
  | 0, _, acc => acc
  | f + 1, k, acc => if k = 0 then acc else mtGo f (k / 10) (mtDig k ++ acc)
/-- What markText answers at k > 0. -/
def mtxt (k : Nat) : ByteArray := ⟨#[109]⟩ ++ mtGo k k ByteArray.empty

set_option maxRecDepth 100000 in
set_option maxHeartbeats 1000000 in
theorem markText_any (k0 : Nat) (w : World) (h0 : 0 < k0) (hk : k0 ≤ 1000000000) :
    Calls Tryz.prog 74 #[.int .i64 k0] w fun e w' => e = .returned (.string (mtxt k0)) ∧ Below w.heap.size w w' := by
  have h0' : ¬ (k0 : Int) ≤ 0 := by omega
  go_enter Tryz.func74, Tryz.ntmps74
  go_wp2
  go_loopw [0, 3] (fun i s wr => ∃ (k f : Nat) (acc : ByteArray), k ≤ f ∧ f ≤ k0 ∧ i = .int .i64 k ∧ s = .string acc ∧ Below w.heap.size w wr ∧ mtGo f k acc = mtGo k0 k0 ByteArray.empty ∧ acc.size ≤ k0 - f) (fun i _ _ => (intOf i).toNat)
  case atStart => exact ⟨k0, k0, ByteArray.empty, Nat.le_refl _, Nat.le_refl _, rfl, rfl, Below.refl _ _, rfl, Nat.zero_le _⟩
  case round =>
    obtain ⟨k, f, acc, hkf, hf, rfl, rfl, hb, hgo, hsz⟩ := hrel
    by_cases hz : 0 < k
    · have hz' : (0 : Int) < k := by omega
      have hcv : (convert 104 9 (.slice (some ⟨wr.heap.size, 0, none⟩) 1 1)).run Tryz.prog (wr.alloc (.cells #[.int .u8 (48 + (k : Int) % 10)] 5)) = .ok (.string (mtDig k)) (wr.alloc (.cells #[.int .u8 (48 + (k : Int) % 10)] 5)) :=
        run_convert_bytes_arg _ 104 5 Tryz.underlying104 Tryz.underlying5 wr.heap.size 0 1 1 [48 + (k : Int) % 10] rfl (fun i hi => by
          obtain rfl : i = 0 := by omega
          rw [World.cell?_alloc_at _ _ _ _ rfl]; rfl) 9 Tryz.underlying9
      have hds := mtDig_size k
      obtain ⟨f', rfl⟩ : ∃ f', f = f' + 1 := ⟨f - 1, by omega⟩
      have hnext : mtGo f' (k / 10) (mtDig k ++ acc) = mtGo k0 k0 ByteArray.empty := by rw [← hgo, mtGo, if_neg (by omega)]
      have HN := Lib.hid hnext
      clear hgo hnext
      generalize mtDig k = d at hcv hds HN
      have hsum : d.size + acc.size ≤ k0 - f' := by omega
      have hsum' : d.size + acc.size ≤ 9223372036854775807 := by omega
      have HS := Lib.hid hsum
      clear hds
      go_wp2
      go_roundw
      case rel => exact ⟨k / 10, f', d ++ acc, by omega, by omega, by go_num, rfl, hb.alloc hb.size _, HN.out, by rw [ByteArray.size_append]; exact HS.out⟩
      case measure => simp [intOf]; omega
    · obtain rfl : k = 0 := by omega
      have hend : mtGo f 0 acc = acc := by cases f <;> simp [mtGo]
      have HN : Hid (mtxt k0 = ⟨#[109]⟩ ++ acc) := Lib.hid (by rw [mtxt, ← hgo, hend])
      have hsum' : 1 + acc.size ≤ 9223372036854775807 := by omega
      clear hgo hend
      go_wp2
      go_ret
      exact ⟨by rw [HN.out]; rfl, hb⟩

def mkS (k : Nat) (i : Nat) : Value := .string (mtxt (k + i))
def marksS (k n : Nat) : List Value := (List.range n).map (mkS k)
theorem marksS_len (k n : Nat) : (marksS k n).length = n := by simp [marksS]

end Go.Proofs.YtgbpomakomddjabGreatDoor
end

section
namespace Go.Proofs.YtgbpomakomddjabGreatDoor
open Go.RowKit

structure Md where
  du : Int
  us : List Int
  co : List Int
structure Ac where
  nm : ByteArray
  fa : Int
  ms : List Md
theorem md_ext {m n : Md} : m = n ↔ m.du = n.du ∧ m.us = n.us ∧ m.co = n.co := by
  cases m; cases n; simp
theorem ac_ext {a b : Ac} : a = b ↔ a.nm = b.nm ∧ a.fa = b.fa ∧ a.ms = b.ms := by
  cases a; cases b; simp
instance instDecMd : DecidableEq Md := fun m n => decidable_of_iff _ (md_ext (m := m) (n := n)).symm
instance instDecAc : DecidableEq Ac := fun a b => decidable_of_iff _ (ac_ext (a := a) (b := b)).symm

abbrev trI (xs : List Int) : Tr := flat 3 (xs.map (.int .i64))
def cellsM (m : Md) : List Tr := [.one (.int .i64 m.du), trI m.us, trI m.co]
theorem cellsM_len (m : Md) : (cellsM m).length = 3 := rfl
def trM (m : Md) : Tr := .agg (cellsM m)
def trMs (ms : List Md) : Tr := rows 149 3 cellsM ms
def cellsA (a : Ac) : List Tr := [.one (.string a.nm), .one (.int .i64 a.fa), trMs a.ms]
def trA (a : Ac) : Tr := .agg (cellsA a)

theorem rdI_slice {w : World} {v : Value} {xs : List Int} (h : Rd w v (xs.map (.int .i64))) : ∃ A c, v = .slice A xs.length c ∧ xs.length ≤ 9223372036854775807 := by
  obtain ⟨hl, A, c, rfl, _⟩ := h
  unfold maxLen at hl
  simp only [List.length_map] at *
  exact ⟨A, c, rfl, hl⟩

theorem rd_cellsM {w : World} {m : Md} {vs : List Value} (h : rdL w (cellsM m) vs) : ∃ U cu C cc, vs = [.int .i64 m.du, .slice U m.us.length cu, .slice C m.co.length cc] ∧ Rd w (.slice U m.us.length cu) (m.us.map (.int .i64)) ∧ Rd w (.slice C m.co.length cc) (m.co.map (.int .i64)) := by
  obtain ⟨v0, vs, rfl, h0, v1, vs, rfl, h1, v2, vs, rfl, h2, h3⟩ := h
  have h0' : v0 = .int .i64 m.du := h0
  have h3' : vs = [] := h3
  have r1 := rd_flat h1
  have r2 := rd_flat h2
  obtain ⟨U, cu, rfl, _⟩ := rdI_slice r1
  obtain ⟨C, cc, rfl, _⟩ := rdI_slice r2
  exact ⟨U, cu, C, cc, by rw [h0', h3'], r1, r2⟩
theorem mk_cellsM {w : World} {m : Md} {u c : Value} (hu : Rd w u (m.us.map (.int .i64))) (hc : Rd w c (m.co.map (.int .i64))) : rdL w (cellsM m) [.int .i64 m.du, u, c] :=
  ⟨_, _, rfl, rfl, _, _, rfl, flat_rd hu, _, _, rfl, flat_rd hc, rfl⟩
theorem rdM {w : World} {m : Md} {v : Value} (h : (trM m).rd w v) : ∃ U cu C cc, v = .agg #[.int .i64 m.du, .slice U m.us.length cu, .slice C m.co.length cc] ∧ Rd w (.slice U m.us.length cu) (m.us.map (.int .i64)) ∧ Rd w (.slice C m.co.length cc) (m.co.map (.int .i64)) := by
  obtain ⟨vs, rfl, h⟩ := h
  obtain ⟨U, cu, C, cc, rfl, h1, h2⟩ := rd_cellsM h
  exact ⟨U, cu, C, cc, rfl, h1, h2⟩
theorem mk_rdM {w : World} {m : Md} {u c : Value} (hu : Rd w u (m.us.map (.int .i64))) (hc : Rd w c (m.co.map (.int .i64))) : (trM m).rd w (.agg #[.int .i64 m.du, u, c]) :=
  ⟨_, rfl, mk_cellsM hu hc⟩
theorem rdMs {w : World} {ms : List Md} {v : Value} (h : (trMs ms).rd w v) :
    ms.length ≤ 9223372036854775807 ∧ ∃ A c, v = .slice A ms.length c ∧ ∀ k, k < ms.length → ∃ b o, A = some ⟨b, o, none⟩ ∧ b < w.heap.size ∧ ∀ j, (hj : j < ms.length) →
      ∃ U cu C cc, w.cell? ⟨b, o + j * 3, none⟩ = some (.int .i64 ms[j].du) ∧ w.cell? ⟨b, o + j * 3 + 1, none⟩ = some (.slice U ms[j].us.length cu) ∧ w.cell? ⟨b, o + j * 3 + 2, none⟩ = some (.slice C ms[j].co.length cc) ∧
        Rd w (.slice U ms[j].us.length cu) (ms[j].us.map (.int .i64)) ∧ Rd w (.slice C ms[j].co.length cc) (ms[j].co.map (.int .i64)) := by
  obtain ⟨hl, A, c, rfl, g⟩ := rd_rows cellsM_len h
  refine ⟨hl, A, c, rfl, fun k hk => ?_⟩
  obtain ⟨b, o, rfl, hb, hj⟩ := g k hk
  refine ⟨b, o, rfl, hb, fun j hjl => ?_⟩
  obtain ⟨us, h1, h2⟩ := hj j hjl
  obtain ⟨U, cu, C, cc, rfl, r1, r2⟩ := rd_cellsM h1
  exact ⟨U, cu, C, cc, h2 0 (by omega), h2 1 (by omega), h2 2 (by omega), r1, r2⟩
theorem rdA {w : World} {a : Ac} {v : Value} (h : (trA a).rd w v) : ∃ A c, v = .agg #[.string a.nm, .int .i64 a.fa, .slice A a.ms.length c] ∧ (trMs a.ms).rd w (.slice A a.ms.length c) := by
  obtain ⟨vs, rfl, v0, vs, rfl, h0, v1, vs, rfl, h1, v2, vs, rfl, h2, h3⟩ := h
  have h0' : v0 = .string a.nm := h0
  have h1' : v1 = .int .i64 a.fa := h1
  have h3' : vs = [] := h3
  obtain ⟨_, A, c, rfl, _⟩ := rdMs h2
  exact ⟨A, c, by rw [h0', h1', h3'], h2⟩
theorem mk_rdA {w : World} {a : Ac} {v : Value} (h : (trMs a.ms).rd w v) : (trA a).rd w (.agg #[.string a.nm, .int .i64 a.fa, v]) :=
  ⟨_, rfl, _, _, rfl, rfl, _, _, rfl, rfl, _, _, rfl, h, rfl⟩

theorem mk_ownM {w : World} {B : Nat} {m : Md} {u c : Value} {F G : List Nat} (hu : (trI m.us).own w B u F) (hc : (trI m.co).own w B c G) : (trM m).own w B (.agg #[.int .i64 m.du, u, c]) (F ++ G) :=
  ⟨_, rfl, _, _, [], _, rfl, ⟨rfl, rfl⟩, ⟨_, _, F, _, rfl, hu, ⟨_, _, G, [], rfl, hc, ⟨rfl, rfl⟩, rfl⟩, rfl⟩, by simp⟩
theorem ownM {w : World} {B : Nat} {m : Md} {v : Value} {F : List Nat} (h : (trM m).own w B v F) : ∃ u c G H, v = .agg #[.int .i64 m.du, u, c] ∧ (trI m.us).own w B u G ∧ (trI m.co).own w B c H ∧ F = G ++ H := by
  obtain ⟨vs, rfl, v0, vs, F0, G0, rfl, h0, ⟨v1, vs, F1, G1, rfl, h1, ⟨v2, vs, F2, G2, rfl, h2, h3, rfl⟩, rfl⟩, rfl⟩ := h
  obtain ⟨e0, f0⟩ : v0 = .int .i64 m.du ∧ F0 = [] := h0
  obtain ⟨e3, f3⟩ : vs = [] ∧ G2 = [] := h3
  exact ⟨v1, v2, F1, F2, by rw [e0, e3], h1, h2, by rw [f0, f3]; simp⟩
theorem mk_ownA {w : World} {B : Nat} {a : Ac} {v : Value} {F : List Nat} (h : (trMs a.ms).own w B v F) : (trA a).own w B (.agg #[.string a.nm, .int .i64 a.fa, v]) F :=
  ⟨_, rfl, _, _, [], _, rfl, ⟨rfl, rfl⟩, ⟨_, _, [], _, rfl, ⟨rfl, rfl⟩, ⟨_, _, F, [], rfl, h, ⟨rfl, rfl⟩, rfl⟩, rfl⟩, by simp⟩
theorem ownA {w : World} {B : Nat} {a : Ac} {v : Value} {F : List Nat} (h : (trA a).own w B v F) : ∃ x, v = .agg #[.string a.nm, .int .i64 a.fa, x] ∧ (trMs a.ms).own w B x F := by
  obtain ⟨vs, rfl, v0, vs, F0, G0, rfl, h0, ⟨v1, vs, F1, G1, rfl, h1, ⟨v2, vs, F2, G2, rfl, h2, h3, rfl⟩, rfl⟩, rfl⟩ := h
  obtain ⟨e0, f0⟩ : v0 = .string a.nm ∧ F0 = [] := h0
  obtain ⟨e1, f1⟩ : v1 = .int .i64 a.fa ∧ F1 = [] := h1
  obtain ⟨e3, f3⟩ : vs = [] ∧ G2 = [] := h3
  exact ⟨v2, by rw [e0, e1, e3], by rw [f0, f1, f3]; simpa using h2⟩

def szM (m : Md) : Nat := m.us.length + m.co.length
def szMs (ms : List Md) : Nat := (ms.map szM).sum
theorem szMs_take {ms : List Md} {k : Nat} (h : k < ms.length) : szMs (ms.take (k + 1)) = szMs (ms.take k) + szM ms[k] := by
  unfold szMs
  rw [List.take_succ_eq_append_getElem h, List.map_append, List.sum_append]
  simp only [List.map_cons, List.map_nil, List.sum_cons, List.sum_nil, Nat.add_zero]
theorem szMs_le (ms : List Md) (k : Nat) : szMs (ms.take k) ≤ szMs ms := by
  unfold szMs
  conv => rhs; rw [← List.take_append_drop k ms, List.map_append, List.sum_append]
  omega
theorem szMs_at {ms : List Md} {k : Nat} (h : k < ms.length) : szM ms[k] ≤ szMs ms := by
  have h1 := szMs_take h
  have h2 := szMs_le ms (k + 1)
  omega
end Go.Proofs.YtgbpomakomddjabGreatDoor
end

section
namespace Go.Proofs.YtgbpomakomddjabGreatDoor
open Go.RowKit

mutual
/-- How many cells a mark walks over. -/
def Tr.cnt : Tr → Nat
  | .one _ => 1
  | .agg ts => cntL ts
  | .row _ _ _ cs => cntL cs
def cntL : List Tr → Nat
  | [] => 0
  | t :: ts => t.cnt + cntL ts
end
mutual
/-- What the laws count of an argument. -/
def Tr.sz : Tr → Nat
  | .one (.string s) => s.size
  | .one _ => 0
  | .agg ts => szL ts
  | .row _ _ n cs => n + szL cs
def szL : List Tr → Nat
  | [] => 0
  | t :: ts => t.sz + szL ts
end
mutual
/-- Ints in range, strings no longer than a string can be. -/
def Tr.ok : Tr → Prop
  | .one (.string s) => s.size ≤ maxLen
  | .one (.int k n) => (Lit.int k n).wf = true
  | .one _ => True
  | .agg ts => okL ts
  | .row _ _ _ cs => okL cs
def okL : List Tr → Prop
  | [] => True
  | t :: ts => t.ok ∧ okL ts
end
/-- A plain cell marked. -/
def mkV (k : Nat) : Value → Value
  | .int .i64 _ => .int .i64 (k : Int)
  | .string _ => .string (mtxt k)
  | .bool _ => .bool (decide ((k : Int) % 3 = 0))
  | v => v
mutual
def Tr.mkd : Nat → Tr → Tr
  | k, .one x => .one (mkV k x)
  | k, .agg ts => .agg (mkdL k ts)
  | k, .row e s n cs => .row e s n (mkdL k cs)
def mkdL : Nat → List Tr → List Tr
  | _, [] => []
  | k, t :: ts => t.mkd k :: mkdL (k + t.cnt) ts
end
/-- A struct by value marked: its rows alone. -/
def cntO : List Tr → Nat
  | [] => 0
  | .one _ :: ts => cntO ts
  | t :: ts => t.cnt + cntO ts
def mkdO : Nat → List Tr → List Tr
  | _, [] => []
  | k, .one x :: ts => .one x :: mkdO k ts
  | k, t :: ts => t.mkd k :: mkdO (k + t.cnt) ts

theorem cntL_app : ∀ a b : List Tr, cntL (a ++ b) = cntL a + cntL b
  | [], b => by simp [cntL]
  | t :: a, b => by simp [cntL, cntL_app a b]; omega
theorem szL_app : ∀ a b : List Tr, szL (a ++ b) = szL a + szL b
  | [], b => by simp [szL]
  | t :: a, b => by simp [szL, szL_app a b]; omega
theorem okL_app : ∀ a b : List Tr, okL (a ++ b) ↔ okL a ∧ okL b
  | [], b => by simp [okL]
  | t :: a, b => by simp [okL, okL_app a b, and_assoc]
theorem okL_at : ∀ {cs : List Tr} {i : Nat} {t : Tr}, okL cs → cs[i]? = some t → t.ok
  | t0 :: cs, 0, t, h, hi => by simp at hi; subst hi; exact h.1
  | t0 :: cs, i + 1, t, h, hi => okL_at h.2 (by simpa using hi)
theorem okL_flat {α : Type} {f : α → List Tr} : ∀ {xs : List α}, okL (xs.flatMap f) → ∀ x ∈ xs, okL (f x)
  | x0 :: xs, h, x, hx => by
    rw [List.flatMap_cons, okL_app] at h
    rcases List.mem_cons.1 hx with rfl | hx
    · exact h.1
    · exact okL_flat h.2 x hx
theorem flat_okL {α : Type} {f : α → List Tr} : ∀ {xs : List α}, (∀ x ∈ xs, okL (f x)) → okL (xs.flatMap f)
  | [], _ => trivial
  | x0 :: xs, h => by
    rw [List.flatMap_cons, okL_app]
    exact ⟨h x0 (by simp), flat_okL fun x hx => h x (by simp [hx])⟩
theorem mkdL_len : ∀ (k : Nat) (a : List Tr), (mkdL k a).length = a.length
  | _, [] => rfl
  | k, t :: a => by simp [mkdL, mkdL_len (k + t.cnt) a]
theorem mkdL_app : ∀ (k : Nat) (a b : List Tr), mkdL k (a ++ b) = mkdL k a ++ mkdL (k + cntL a) b
  | k, [], b => by simp [mkdL, cntL]
  | k, t :: a, b => by simp [mkdL, cntL, mkdL_app (k + t.cnt) a b, Nat.add_assoc]
theorem mkdL_get : ∀ (k : Nat) (cs : List Tr) (i : Nat) (t : Tr), cs[i]? = some t → (mkdL k cs)[i]? = some (t.mkd (k + cntL (cs.take i)))
  | k, t0 :: cs, 0, t, h => by simp at h; subst h; simp [mkdL, cntL]
  | k, t0 :: cs, i + 1, t, h => by
    have := mkdL_get (k + t0.cnt) cs i t (by simpa using h)
    simp [mkdL, cntL, this, Nat.add_assoc]
theorem cntL_take {cs : List Tr} {i : Nat} {t : Tr} (h : cs[i]? = some t) : cntL (cs.take (i + 1)) = cntL (cs.take i) + t.cnt := by
  rw [List.take_add_one, h, cntL_app]; simp [cntL]
theorem cntL_le (cs : List Tr) (i : Nat) : cntL (cs.take i) ≤ cntL cs := by
  conv => rhs; rw [← List.take_append_drop i cs, cntL_app]
  omega
theorem szL_take {cs : List Tr} {i : Nat} {t : Tr} (h : cs[i]? = some t) : szL (cs.take (i + 1)) = szL (cs.take i) + t.sz := by
  rw [List.take_add_one, h, szL_app]; simp [szL]
theorem szL_le (cs : List Tr) (i : Nat) : szL (cs.take i) ≤ szL cs := by
  conv => rhs; rw [← List.take_append_drop i cs, szL_app]
  omega
theorem szL_flat {α : Type} {f : α → List Tr} {xs : List α} {j : Nat} (h : j < xs.length) : szL ((xs.take (j + 1)).flatMap f) = szL ((xs.take j).flatMap f) + szL (f xs[j]) := by
  rw [List.take_succ_eq_append_getElem h, List.flatMap_append, szL_app]; simp
theorem szL_flat_le {α : Type} {f : α → List Tr} (xs : List α) (j : Nat) : szL ((xs.take j).flatMap f) ≤ szL (xs.flatMap f) := by
  conv => rhs; rw [← List.take_append_drop j xs, List.flatMap_append, szL_app]
  omega
theorem szL_flat_at {α : Type} {f : α → List Tr} {xs : List α} {j : Nat} (h : j < xs.length) : szL (f xs[j]) ≤ szL (xs.flatMap f) := by
  have h1 := szL_flat (f := f) h
  have h2 := szL_flat_le (f := f) xs (j + 1)
  omega
theorem cntL_flat {α : Type} {f : α → List Tr} {xs : List α} {j : Nat} (h : j < xs.length) : cntL ((xs.take (j + 1)).flatMap f) = cntL ((xs.take j).flatMap f) + cntL (f xs[j]) := by
  rw [List.take_succ_eq_append_getElem h, List.flatMap_append, cntL_app]; simp
theorem cntL_flat_le {α : Type} {f : α → List Tr} (xs : List α) (j : Nat) : cntL ((xs.take j).flatMap f) ≤ cntL (xs.flatMap f) := by
  conv => rhs; rw [← List.take_append_drop j xs, List.flatMap_append, cntL_app]
  omega
theorem flat_take {α : Type} {f : α → List Tr} {s : Nat} (hs : ∀ x, (f x).length = s) (xs : List α) {j : Nat} (h : j ≤ xs.length) : (xs.flatMap f).take (j * s) = (xs.take j).flatMap f := by
  conv => lhs; rw [← List.take_append_drop j xs, List.flatMap_append]
  have : ((xs.take j).flatMap f).length = j * s := by rw [flatMap_len hs, List.length_take, Nat.min_eq_left h]
  rw [← this, List.take_left]

mutual
/-- Trees whose rows have at most eight cells an element. -/
def Tr.thins : Tr → Prop
  | .one _ => True
  | .agg _ => False
  | .row _ s n cs => s ≤ 8 ∧ cs.length = n * s ∧ thinL cs
def thinL : List Tr → Prop
  | [] => True
  | t :: ts => t.thins ∧ thinL ts
end
theorem thinL_app : ∀ a b : List Tr, thinL (a ++ b) ↔ thinL a ∧ thinL b
  | [], b => by simp [thinL]
  | t :: a, b => by simp [thinL, thinL_app a b, and_assoc]
theorem thin_ones : ∀ xs : List Value, thinL (xs.map .one)
  | [] => trivial
  | _ :: xs => ⟨trivial, thin_ones xs⟩
theorem thin_rows {α : Type} {e : TypeId} {s : Nat} {f : α → List Tr} (hs : ∀ x, (f x).length = s) (h8 : s ≤ 8) (hf : ∀ x, thinL (f x)) (xs : List α) : (rows e s f xs).thins := by
  refine ⟨h8, flatMap_len hs xs, ?_⟩
  induction xs with
  | nil => trivial
  | cons x xs ih => rw [List.flatMap_cons, thinL_app]; exact ⟨hf x, ih⟩
theorem thin_ints (xs : List Int) : (trI xs).thins := ⟨by omega, by simp, thin_ones _⟩
mutual
theorem Tr.cnt_le : ∀ t : Tr, t.thins → t.cnt ≤ 1 + 8 * t.sz
  | .one _, _ => by simp only [Tr.cnt]; omega
  | .agg ts, h => by cases h
  | .row _ s n cs, h => by
    have h1 := cntL_le8 cs h.2.2
    have h2 : n * s ≤ n * 8 := Nat.mul_le_mul_left _ h.1
    have h3 := h.2.1
    simp only [Tr.cnt, Tr.sz]
    omega
theorem cntL_le8 : ∀ ts : List Tr, thinL ts → cntL ts ≤ ts.length + 8 * szL ts
  | [], _ => by simp [cntL]
  | t :: ts, h => by
    have h1 := t.cnt_le h.1
    have h2 := cntL_le8 ts h.2
    simp only [cntL, szL, List.length_cons]
    omega
end
theorem row_cnt_le {e : TypeId} {s n : Nat} {cs : List Tr} (h : (Tr.row e s n cs).thins) : (Tr.row e s n cs).cnt ≤ 8 * (Tr.row e s n cs).sz := by
  have h1 := cntL_le8 cs h.2.2
  have h2 : n * s ≤ n * 8 := Nat.mul_le_mul_left _ h.1
  have h3 := h.2.1
  simp only [Tr.cnt, Tr.sz]
  omega
theorem cntO_le : ∀ ts : List Tr, thinL ts → cntO ts ≤ 8 * szL ts
  | [], _ => by simp [cntO]
  | .one _ :: ts, h => by
    have := cntO_le ts h.2
    simp only [cntO, szL]; omega
  | .agg _ :: ts, h => by cases h.1
  | .row e s n cs :: ts, h => by
    have h1 := row_cnt_le h.1
    have h2 := cntO_le ts h.2
    simp only [cntO, szL]; omega

-- Rows of ints.
theorem marksI_succ (k n : Nat) : marksI k (n + 1) = .int .i64 (k : Int) :: marksI (k + 1) n := by
  simp only [marksI, List.range_succ_eq_map, List.map_cons, List.map_map]
  refine congr (congrArg _ ?_) ?_
  · simp [mkI]
  · apply List.map_congr_left
    intro i _
    simp only [Function.comp, mkI]
    congr 2
    omega
theorem mkdL_ints : ∀ (xs : List Int) (k : Nat), mkdL k ((xs.map (Value.int .i64)).map Tr.one) = (marksI k xs.length).map Tr.one
  | [], _ => rfl
  | x :: xs, k => by
    simp only [List.map_cons, mkdL, Tr.mkd, mkV, Tr.cnt, List.length_cons, marksI_succ]
    rw [mkdL_ints xs]
theorem trI_mkd (xs : List Int) (k : Nat) : (trI xs).mkd k = flat 3 (marksI k xs.length) := by
  simp only [trI, flat, Tr.mkd, List.length_map, mkdL_ints, marksI_len]
theorem cntL_ones : ∀ xs : List Value, cntL (xs.map .one) = xs.length
  | [] => rfl
  | x :: xs => by simp [cntL, Tr.cnt, cntL_ones xs]; omega
theorem szL_ints : ∀ xs : List Int, szL ((xs.map (Value.int .i64)).map .one) = 0
  | [] => rfl
  | x :: xs => by simp [szL, Tr.sz] ; simpa using szL_ints xs
theorem trI_cnt (xs : List Int) : (trI xs).cnt = xs.length := by
  simp only [trI, flat, Tr.cnt, cntL_ones, List.length_map]
theorem trI_sz (xs : List Int) : (trI xs).sz = xs.length := by
  simp only [trI, flat, Tr.sz, szL_ints, List.length_map, Nat.add_zero]
theorem slice_ints {w : World} {xs : List Int} {v : Value} (h : (trI xs).rd w v) : ∃ A c, v = .slice A xs.length c := by
  obtain ⟨A, c, e, _⟩ := rdI_slice (rd_flat h)
  exact ⟨A, c, e⟩
theorem slice_row {w : World} {e : TypeId} {s n : Nat} {cs : List Tr} {v : Value} (h : (Tr.row e s n cs).rd w v) : ∃ A c, v = .slice A n c := by
  obtain ⟨vs, ⟨_, _, A, c, rfl, _⟩, _⟩ := h
  exact ⟨A, c, rfl⟩
theorem slice_mints {w : World} {k : Nat} {xs : List Int} {v : Value} (h : ((trI xs).mkd k).rd w v) : ∃ A c, v = .slice A xs.length c := by
  obtain ⟨A, c, e⟩ := slice_row h
  exact ⟨A, c, by rw [e]; simp⟩

/-- A row's cells, by their trees. -/
theorem rd_cells {w : World} {e : TypeId} {s n : Nat} {cs : List Tr} {v : Value} (h : (Tr.row e s n cs).rd w v) :
    n ≤ 9223372036854775807 ∧ cs.length = n * s ∧ ∃ A c, v = .slice A n c ∧ ∀ i0, i0 < cs.length → ∃ b o, A = some ⟨b, o, none⟩ ∧ b < w.heap.size ∧ ∀ (i : Nat) (t : Tr), cs[i]? = some t → ∃ x, w.cell? ⟨b, o + i, none⟩ = some x ∧ t.rd w x := by
  obtain ⟨vs, ⟨hm, hl, A, c, rfl, g⟩, hv⟩ := h
  have hlen := rdL_len hv
  refine ⟨by unfold maxLen at hm; exact hm, by omega, A, c, rfl, fun i0 hi0 => ?_⟩
  rcases g with g | ⟨b, o, rfl, hb, hc⟩
  · subst g; omega
  · refine ⟨b, o, rfl, hb, fun i t hi => ?_⟩
    obtain ⟨x, hx, hr⟩ := rdL_get hv hi
    obtain ⟨hi', he⟩ := List.getElem?_eq_some_iff.1 hx
    exact ⟨x, by rw [hc i hi', he], hr⟩
theorem own_form {w : World} {B : Nat} {e : TypeId} {s n : Nat} {cs : List Tr} {v : Value} {F : List Nat} (h : (Tr.row e s n cs).own w B v F) :
    (v = .slice none 0 0 ∧ n = 0) ∨ ∃ g cap, v = .slice (some ⟨g, 0, none⟩) n cap ∧ n ≤ cap ∧ n ≤ 9223372036854775807 := by
  obtain ⟨vs, G, ho, _, _⟩ := h
  have hle := own_le ho
  unfold maxLen at hle
  rcases ho.2 with h | ⟨g, cap, cur, rfl, _, _, hc, _⟩
  · exact .inl h
  · exact .inr ⟨g, cap, rfl, hc, hle⟩

theorem cell_set1 {w : World} {g i j : Nat} {y : Value} (h : i ≠ j) : (w.setCell ⟨g, i, none⟩ y).cell? ⟨g, j, none⟩ = w.cell? ⟨g, j, none⟩ := by
  rw [World.cell?_setCell_other]
  intro e; injection e with _ e; omega
/-- One tree of own trees in focus, marked in place. -/
theorem ownL_mark {w : World} {B : Nat} {ts : List Tr} {vs : List Value} {F : List Nat} {i : Nat} {t : Tr} (h : ownL w B ts vs F) (hn : F.Nodup) (hi : ts[i]? = some t) :
    ∃ v G, vs[i]? = some v ∧ t.own w B v G ∧ G.Nodup ∧ (∀ k ∈ G, k ∈ F) ∧ ∀ (w' : World) (t' : Tr) (G' : List Nat), t'.own w' B v G' → G'.Nodup → (∀ k ∈ G', k ∈ G) → Wr G w w' →
      ∃ F', ownL w' B (ts.set i t') vs F' ∧ F'.Nodup ∧ (∀ k ∈ F', k ∈ F) ∧ Wr F w w' := by
  have hall := ownL_lt _ _ _ h
  obtain ⟨v, G, F1, F2, hv, ho, hF, hback⟩ := ownL_focus h hi
  rw [hF] at hn
  obtain ⟨m1, m2, m3⟩ := nodup_mid hn
  have hGF : ∀ k ∈ G, k ∈ F := fun k hk => by rw [hF]; simp [hk]
  refine ⟨v, G, hv, ho, m1, hGF, fun w' t' G' ho' hn' hs hw => ?_⟩
  refine ⟨F1 ++ (G' ++ F2), ?_, m3 G' hn' (fun k hk => m2 k (hs k hk)), fun k hk => ?_, hw.sub hGF⟩
  · have := hback w' t' v G' ho' (fun k hk => hw.block k (hall k (by rw [hF]; rcases hk with hk | hk <;> simp [hk])).2 (fun e => by rcases hk with hk | hk; exact (m2 k e).1 hk; exact (m2 k e).2 hk))
    rwa [show vs.set i v = vs from by
      obtain ⟨hj, he⟩ := List.getElem?_eq_some_iff.1 hv
      exact he ▸ List.set_getElem_self hj] at this
  · rw [hF]
    simp only [List.mem_append] at hk ⊢
    rcases hk with hk | hk | hk
    · exact .inl hk
    · exact .inr (.inl (hs k hk))
    · exact .inr (.inr hk)

/-- The first i cells marked, the rest as before. -/
def mixC (k : Nat) (cs : List Tr) (i : Nat) : List Tr := mkdL k (cs.take i) ++ cs.drop i
theorem mixC_zero (k : Nat) (cs : List Tr) : mixC k cs 0 = cs := by simp [mixC, mkdL]
theorem mixC_full (k : Nat) (cs : List Tr) {i : Nat} (h : cs.length ≤ i) : mixC k cs i = mkdL k cs := by simp [mixC, List.take_of_length_le h, List.drop_of_length_le h]
theorem mixC_len (k : Nat) (cs : List Tr) (i : Nat) : (mixC k cs i).length = cs.length := by simp [mixC, mkdL_len]; omega
theorem mixC_get {k : Nat} {cs : List Tr} {i j : Nat} {t : Tr} (hij : i ≤ j) (h : cs[j]? = some t) : (mixC k cs i)[j]? = some t := by
  have hj := (List.getElem?_eq_some_iff.1 h).1
  have hl : (mkdL k (cs.take i)).length = i := by rw [mkdL_len, List.length_take]; omega
  rw [mixC, List.getElem?_append_right (by omega), hl, List.getElem?_drop, ← h]
  congr 1; omega
theorem mixC_set {k : Nat} {cs : List Tr} {i : Nat} {t : Tr} (h : cs[i]? = some t) : (mixC k cs i).set i (t.mkd (k + cntL (cs.take i))) = mixC k cs (i + 1) := by
  obtain ⟨hi, he⟩ := List.getElem?_eq_some_iff.1 h
  have hl : (mkdL k (cs.take i)).length = i := by rw [mkdL_len, List.length_take]; omega
  unfold mixC
  rw [List.set_append_right _ _ (by omega), hl, Nat.sub_self, List.drop_eq_getElem_cons hi, List.set_cons_zero, List.take_succ_eq_append_getElem hi, mkdL_app, he]
  simp [mkdL]

section
variable {w : World} {B : Nat} {e : TypeId} {s n g cap k i : Nat} {cs : List Tr} {F : List Nat}
theorem rowAt_mark1 {x y : Value} (h : RowAt w B e s n g cap (mixC k cs i) F) (hi : cs[i]? = some (.one x)) (hy : mkV (k + cntL (cs.take i)) x = y) :
    ∃ F', RowAt (w.setCell ⟨g, i, none⟩ y) B e s n g cap (mixC k cs (i + 1)) F' ∧ (∀ j ∈ F', j ∈ F) ∧ Wr F w (w.setCell ⟨g, i, none⟩ y) := by
  have hil := (List.getElem?_eq_some_iff.1 hi).1
  obtain ⟨F', h1, h2⟩ := h.put1 (i := i) (by rw [mixC_len]; exact hil) y
  have h3 := mixC_set (k := k) hi
  rw [Tr.mkd, hy] at h3
  rw [h3] at h1
  exact ⟨F', h1, h2, Wr.setCell w _ h.mem y⟩
theorem rowAt_peek {t : Tr} {i0 : Nat} (h : RowAt w B e s n g cap (mixC k cs i0) F) (hij : i0 ≤ i) (hi : cs[i]? = some t) : ∃ x, w.cell? ⟨g, i, none⟩ = some x ∧ t.rd w x := by
  obtain ⟨x, H, hx, _, ho, _⟩ := h.cell (mixC_get (k := k) hij hi)
  exact ⟨x, hx, t.own_rd _ _ ho⟩
theorem rowAt_markR {t : Tr} (h : RowAt w B e s n g cap (mixC k cs i) F) (hi : cs[i]? = some t) :
    ∃ x H, w.cell? ⟨g, i, none⟩ = some x ∧ t.own w B x H ∧ H.Nodup ∧ (∀ j ∈ H, j ∈ F ∧ j ≠ g) ∧ ∀ (w' : World) (H' : List Nat), (t.mkd (k + cntL (cs.take i))).own w' B x H' → H'.Nodup → (∀ j ∈ H', j ∈ H) → Wr H w w' →
      ∃ F', RowAt w' B e s n g cap (mixC k cs (i + 1)) F' ∧ (∀ j ∈ F', j ∈ F) ∧ Wr F w w' := by
  have hg := mixC_get (k := k) (Nat.le_refl i) hi
  have hlt := h.lt
  obtain ⟨⟨vs, G, h1, h2, hF⟩, hn⟩ := h
  have hgF : g ∈ F := by rw [hF]; simp [Value.ownBlock]
  simp only [Value.ownBlock, Option.toList] at hF
  rw [hF] at hn
  obtain ⟨n1, n2, n3⟩ := List.nodup_append.1 hn
  obtain ⟨x, H, hx, ho, hnH, hs, back⟩ := ownL_mark h2 n2 hg
  have hil : i < vs.length := (List.getElem?_eq_some_iff.1 hx).1
  have hne : ∀ j ∈ H, j ≠ g := fun j hj e => n3 g (by simp) j (hs j hj) e.symm
  refine ⟨x, H, by rw [h1.cellAt i (by rw [← h1.1]; exact hil), hx], ho, hnH, fun j hj => ⟨by rw [hF]; simp [hs j hj], hne j hj⟩, fun w' H' ho' hn' hs' hw => ?_⟩
  obtain ⟨G', hL, hnG, hsG, hwG⟩ := back w' _ H' ho' hn' hs' hw
  rw [mixC_set hi] at hL
  have hwF : Wr F w w' := hw.sub (fun j hj => by rw [hF]; simp [hs j hj])
  refine ⟨[g] ++ G', ⟨⟨vs, G', own_keep1 h1 (fun j hj => ?_), hL, by simp [Value.ownBlock]⟩, ?_⟩, fun j hj => ?_, hwF⟩
  · simp only [Value.ownBlock, Option.some.injEq] at hj
    subst hj
    exact hw.block g hlt.2 (fun e => hne g e rfl)
  · exact List.nodup_append.2 ⟨by simp, hnG, fun a ha b hb e => n3 a ha b (hsG b hb) e⟩
  · rw [hF]
    rcases List.mem_append.1 hj with hj | hj
    · exact List.mem_append.2 (.inl hj)
    · exact List.mem_append.2 (.inr (hsG j hj))
end

-- A struct packed of the state's trees.
section
variable {w0 w : World} {L : List Item}
theorem Items.pick {B : Nat} : ∀ {L : List Item} (i : Nat) {a : Item}, Items w B L → L[i]? = some a → Items w B (a :: L.eraseIdx i)
  | r :: rs, 0, a, h, ha => by simp at ha; subst ha; exact h
  | r :: rs, i + 1, a, h, ha => by
    have ha' : rs[i]? = some a := by simpa using ha
    obtain ⟨o1, n1, p1, rest⟩ := h
    have hp := Items.pick i rest ha'
    refine ⟨hp.1, hp.2.1, fun s hs k hk => ?_, ?_⟩
    · simp only [List.eraseIdx_cons_succ, List.mem_cons] at hs
      rcases hs with rfl | hs
      · exact fun e => p1 a (List.mem_of_getElem? ha') k e hk
      · exact hp.2.2.1 s hs k hk
    · exact ⟨o1, n1, fun s hs k hk => p1 s (List.mem_of_mem_eraseIdx hs) k hk, hp.2.2.2⟩
theorem Sn.pick (i : Nat) {a : Item} (h : Sn w0 w L) (ha : L[i]? = some a) : Sn w0 w (a :: L.eraseIdx i) := ⟨h.1, h.2.pick i ha⟩
theorem Sn.nil0 (h : Sn w0 w L) : Sn w0 w (⟨.agg [], .agg ⟨[]⟩, []⟩ :: L) := ⟨h.1, ⟨_, rfl, rfl, rfl⟩, by simp, fun _ _ _ hk => by simp at hk, h.2⟩
theorem Sn.pack {t : Tr} {ts : List Tr} {v : Value} {vs : List Value} {F G : List Nat} (h : Sn w0 w (⟨t, v, F⟩ :: ⟨.agg ts, .agg ⟨vs⟩, G⟩ :: L)) : Sn w0 w (⟨.agg (t :: ts), .agg ⟨v :: vs⟩, F ++ G⟩ :: L) := by
  obtain ⟨hb, oa, na, pa, ⟨vs', hvs, od⟩, nd, pd, rest⟩ := h
  have e : vs = vs' := by injection hvs with hvs; injection hvs
  subst e
  refine ⟨hb, ⟨_, rfl, v, vs, F, G, rfl, oa, od, rfl⟩, ?_, fun s hs k hk => ?_, rest⟩
  · exact List.nodup_append.2 ⟨na, nd, fun p hp q hq e => pa ⟨.agg ts, .agg ⟨vs⟩, G⟩ (List.mem_cons_self ..) p hp (e ▸ hq)⟩
  · rcases List.mem_append.1 hk with hk | hk
    · exact pa s (by simp [hs]) k hk
    · exact pd s hs k hk
theorem Sn.pack1 {ts : List Tr} {vs : List Value} {G : List Nat} (x : Value) (h : Sn w0 w (⟨.agg ts, .agg ⟨vs⟩, G⟩ :: L)) : Sn w0 w (⟨.agg (.one x :: ts), .agg ⟨x :: vs⟩, G⟩ :: L) := by
  obtain ⟨hb, ⟨vs', hvs, od⟩, nd, pd, rest⟩ := h
  have e : vs = vs' := by injection hvs with hvs; injection hvs
  subst e
  exact ⟨hb, ⟨_, rfl, x, vs, [], G, rfl, ⟨rfl, rfl⟩, od, rfl⟩, nd, pd, rest⟩
theorem Sn.drop (h : Sn w0 w L) (i : Nat) : Sn w0 w (L.eraseIdx i) := by
  refine ⟨h.1, ?_⟩
  obtain ⟨_, h⟩ := h
  induction L generalizing i with
  | nil => exact h
  | cons r rs ih =>
    cases i with
    | zero => exact h.2.2.2
    | succ i => exact ⟨h.1, h.2.1, fun s hs k hk => h.2.2.1 s (List.mem_of_mem_eraseIdx hs) k hk, ih i h.2.2.2⟩
end
end Go.Proofs.YtgbpomakomddjabGreatDoor
end

section
namespace Go.Proofs.YtgbpomakomddjabGreatDoor
open Go.RowKit

theorem szI_any (a : Option Addr) (len cap : Nat) (left : Int) (w : World) (h1 : len ≤ 9223372036854775807) (h0 : 0 ≤ left) (h2 : left ≤ 1048576) :
    Calls Tryz.prog 21 #[.slice a len cap, .int .i64 left] w fun e w' => e = .returned (.int .i64 (if left < len then -1 else left - len)) ∧ w = w' := by
  by_cases h : left < len
  · have h' : left - len < 0 := by omega
    rw [if_pos h]
    go_enter Tryz.func21, Tryz.ntmps21
    go_wp2
    go_ret
    exact ⟨rfl, rfl⟩
  · have h' : ¬ left - len < 0 := by omega
    rw [if_neg h]
    go_enter Tryz.func21, Tryz.ntmps21
    go_wp2
    go_ret
    exact ⟨rfl, rfl⟩

theorem ret_numZ {a b : Int} (h : a = b) : Ending.returned (.int .i64 a) = .returned (.int .i64 b) := by rw [h]

set_option maxRecDepth 100000 in
theorem szM_any (d : Int) (U C : Option Addr) (n k cu cc : Nat) (left : Int) (w : World) (h1 : n ≤ 9223372036854775807) (h2 : k ≤ 9223372036854775807) (h0 : 0 ≤ left) (h3 : left ≤ 1048576) :
    Calls Tryz.prog 109 #[.agg #[.int .i64 d, .slice U n cu, .slice C k cc], .int .i64 left] w fun e w' => e = .returned (.int .i64 (if left < n + k then -1 else left - (n + k))) ∧ Below w.heap.size w w' := by
  generalize hres : (if left < n + k then -1 else left - (n + k)) = res
  have RES := Lib.hid hres
  clear hres
  go_enter Tryz.func109, Tryz.ntmps109
  go_wp2_with fail
  refine (szI_any _ _ _ _ _ h1 h0 h3).mono ?_
  rintro e wz ⟨rfl, hwz⟩
  subst hwz
  by_cases hn : left < (n : Int)
  · rw [if_pos hn]
    go_wp2
    go_ret
    exact ⟨ret_numZ (by rw [← RES.out, if_pos (by omega)]), (Below.refl _ _).alloc (Nat.le_refl _) _⟩
  · rw [if_neg hn]
    have g1 : 0 ≤ left - (n : Int) := by omega
    have g2 : left - (n : Int) ≤ 1048576 := by omega
    go_wp2_with fail
    refine (szI_any _ _ _ _ _ h2 g1 g2).mono ?_
    rintro e wz ⟨rfl, hwz⟩
    subst hwz
    by_cases hk : left - (n : Int) < (k : Int)
    · rw [if_pos hk]
      go_wp2
      go_ret
      exact ⟨ret_numZ (by rw [← RES.out, if_pos (by omega)]), (Below.refl _ _).alloc (Nat.le_refl _) _⟩
    · rw [if_neg hk]
      have g3 : 0 ≤ left - (n : Int) - (k : Int) := by omega
      go_wp2
      go_ret
      exact ⟨ret_numZ (by rw [← RES.out, if_neg (by omega)]; omega), (Below.refl _ _).alloc (Nat.le_refl _) _⟩

set_option maxRecDepth 100000 in
set_option maxHeartbeats 1000000 in
theorem szMs_any (ms : List Md) (v : Value) (left : Int) (w : World) (hr : (trMs ms).rd w v) (h0 : 0 ≤ left) (h3 : left ≤ 1048576) :
    Calls Tryz.prog 78 #[v, .int .i64 left] w fun e w' => e = .returned (.int .i64 (if left < ms.length + szMs ms then -1 else left - (ms.length + szMs ms))) ∧ Below w.heap.size w w' := by
  obtain ⟨hl, A, c, rfl, ga⟩ := rdMs hr
  clear hr
  have GA := Lib.hid ga
  clear ga
  generalize hres : (if left < ms.length + szMs ms then -1 else left - (ms.length + szMs ms)) = res
  have RES := Lib.hid hres
  clear hres
  by_cases hn : left < (ms.length : Int)
  · have hn' : left - (ms.length : Int) < 0 := by omega
    go_enter Tryz.func78, Tryz.ntmps78
    go_wp2
    go_ret
    exact ⟨ret_numZ (by rw [← RES.out, if_pos (by omega)]), Below.refl _ _⟩
  · have hn' : ¬ left - (ms.length : Int) < 0 := by omega
    have hn2 : (ms.length : Int) ≤ 1048576 := by omega
    go_enter Tryz.func78, Tryz.ntmps78
    go_wp2
    go_loopw [1, 5] (fun q i wr => ∃ k : Nat, k ≤ ms.length ∧ i = .int .i64 k ∧ q = .int .i64 (left - ms.length - szMs (ms.take k)) ∧ 0 ≤ left - ms.length - szMs (ms.take k) ∧ Below w.heap.size w wr) (fun _ i _ => ms.length - (intOf i).toNat)
    case atStart => exact ⟨0, Nat.zero_le _, rfl, by simp [szMs], by simp [szMs]; omega, Below.refl _ _⟩
    case round =>
      obtain ⟨k, hk, rfl, rfl, hq, hbel⟩ := hrel
      by_cases hlt : k < ms.length
      · have hlt' : (k : Int) < (ms.length : Int) := by omega
        obtain ⟨b, o, rfl, hb, hc⟩ := GA.out k hlt
        obtain ⟨U, cu, C, cc, hc0, hc1, hc2, r1, r2⟩ := hc k hlt
        obtain ⟨_, _, e1, hu⟩ := rdI_slice r1
        obtain ⟨_, _, e2, hv⟩ := rdI_slice r2
        clear e1 e2 r1 r2
        have hx0 := (hbel.cell (p := ⟨b, o + k * 3, none⟩) hb).trans hc0
        have hx1 := (hbel.cell (p := ⟨b, o + k * 3 + 1, none⟩) hb).trans hc1
        have hx2 := (hbel.cell (p := ⟨b, o + k * 3 + 2, none⟩) hb).trans hc2
        clear hc hc0 hc1 hc2
        have HT := Lib.hid (szMs_take hlt)
        have HLE := szMs_le ms (k + 1)
        have hsz : szM ms[k] = ms[k].us.length + ms[k].co.length := rfl
        have HSZ := Lib.hid hsz
        clear hsz
        generalize ms[k].du = d at hx0
        generalize ms[k].us.length = nu at hx1 hu HSZ
        generalize ms[k].co.length = nc at hx2 hv HSZ
        have HB := Lib.hid hbel
        clear hbel
        generalize hQ : left - (ms.length : Int) - (szMs (ms.take k) : Int) = Q at hq ⊢
        have HQ := Lib.hid hQ
        have hq2 : Q ≤ 1048576 := by omega
        clear hQ
        go_wp2_with fail
        refine (szM_any _ _ _ _ _ _ _ _ _ hu hv hq hq2).mono ?_
        rintro e w1 ⟨rfl, hb1⟩
        all_goals
          have HB1 := Lib.hid (HB.out.trans (hb1.mono HB.out.size))
          clear hb1
          by_cases hs : Q < (nu : Int) + (nc : Int)
          · rw [if_pos hs]
            go_wp2
            go_ret
            exact ⟨ret_numZ (by rw [← RES.out, if_pos (by have := HT.out; have := HSZ.out; have := HQ.out; omega)]), HB1.out⟩
          · rw [if_neg hs]
            have hs' : 0 ≤ Q - ((nu : Int) + (nc : Int)) := by omega
            go_wp2
            go_roundw
            case rel => exact ⟨k + 1, by omega, by go_num, by have := HT.out; have := HSZ.out; have := HQ.out; congr 1; omega, by have := HT.out; have := HSZ.out; have := HQ.out; omega, HB1.out⟩
            case measure => simp [intOf]; omega
      · have hge : ¬ (k : Int) < (ms.length : Int) := by omega
        obtain rfl : k = ms.length := by omega
        rw [List.take_length] at hq ⊢
        have HB := Lib.hid hbel
        clear hbel
        go_wp2
        go_ret
        exact ⟨ret_numZ (by rw [← RES.out, if_neg (by omega)]; omega), HB.out⟩

set_option maxRecDepth 100000 in
theorem szA_any (a : Ac) (A : Option Addr) (c : Nat) (left : Int) (w : World) (hs : a.nm.size ≤ 9223372036854775807) (hr : (trMs a.ms).rd w (.slice A a.ms.length c)) (h0 : 0 ≤ left) (h3 : left ≤ 1048576) :
    Calls Tryz.prog 46 #[.agg #[.string a.nm, .int .i64 a.fa, .slice A a.ms.length c], .int .i64 left] w fun e w' => e = .returned (.int .i64 (if left < a.nm.size + (a.ms.length + szMs a.ms) then -1 else left - (a.nm.size + (a.ms.length + szMs a.ms)))) ∧ Below w.heap.size w w' := by
  have HR := Lib.hid hr
  clear hr
  generalize hres : (if left < a.nm.size + (a.ms.length + szMs a.ms) then -1 else left - (a.nm.size + (a.ms.length + szMs a.ms))) = res
  have RES := Lib.hid hres
  clear hres
  by_cases hn : left < (a.nm.size : Int)
  · have hn' : left - (a.nm.size : Int) < 0 := by omega
    go_enter Tryz.func46, Tryz.ntmps46
    go_wp2
    go_ret
    exact ⟨ret_numZ (by rw [← RES.out, if_pos (by omega)]), (Below.refl _ _).alloc (Nat.le_refl _) _⟩
  · have hn' : ¬ left - (a.nm.size : Int) < 0 := by omega
    have g1 : 0 ≤ left - (a.nm.size : Int) := by omega
    have g2 : left - (a.nm.size : Int) ≤ 1048576 := by omega
    go_enter Tryz.func46, Tryz.ntmps46
    go_wp2_with fail
    refine (szMs_any a.ms _ _ _ (Tr.rd_below ((Below.refl _ _).alloc (Nat.le_refl _) _) (Nat.le_refl _) _ _ HR.out) g1 g2).mono ?_
    rintro e w1 ⟨rfl, hb⟩
    have HB := Lib.hid (((Below.refl _ _).alloc (Nat.le_refl _) _).trans (hb.mono (by simp)))
    clear hb
    by_cases hs : left - (a.nm.size : Int) < (a.ms.length : Int) + (szMs a.ms : Int)
    · rw [if_pos hs]
      go_wp2
      go_ret
      exact ⟨ret_numZ (by rw [← RES.out, if_pos (by omega)]), HB.out⟩
    · rw [if_neg hs]
      have g3 : 0 ≤ left - (a.nm.size : Int) - ((a.ms.length : Int) + (szMs a.ms : Int)) := by omega
      go_wp2
      go_ret
      exact ⟨ret_numZ (by rw [← RES.out, if_neg (by omega)]; omega), HB.out⟩
end Go.Proofs.YtgbpomakomddjabGreatDoor
end

section
namespace Go.Proofs.YtgbpomakomddjabGreatDoor
open Go.RowKit
set_option linter.unusedVariables false

theorem szIntS_t (xs : List Int) (v : Value) (left : Int) (w : World) (hr : (trI xs).rd w v) (hk : (trI xs).ok) (h0 : 0 ≤ left) (h3 : left ≤ 1048576) :
    Calls Tryz.prog 21 #[v, .int .i64 left] w fun e w' => e = .returned (.int .i64 (if left < (trI xs).sz then -1 else left - (trI xs).sz)) ∧ Below w.heap.size w w' := by
  obtain ⟨A, c, rfl, hl⟩ := rdI_slice (rd_flat hr)
  refine (szI_any A xs.length c left w hl h0 h3).mono ?_
  rintro e w' ⟨rfl, rfl⟩
  exact ⟨by rw [trI_sz], Below.refl _ _⟩
theorem eqIntS_t (xs : List Int) (v u : Value) (w : World) (hv : (trI xs).rd w v) (hu : (trI xs).rd w u) :
    Calls Tryz.prog 36 #[v, u] w fun e w' => e = .returned (.bool true) ∧ Below w.heap.size w w' := by
  refine (eqI_any xs xs v u w (rd_flat hv) (rd_flat hu)).mono ?_
  rintro e w' ⟨rfl, n, rfl⟩
  exact ⟨by simp, below_drewN' _ _⟩
theorem toIntS_t (xs : List Int) (v : Value) (w : World) (hv : (trI xs).rd w v) (hl : (trI xs).sz ≤ 1073741824) :
    Calls Tryz.prog 28 #[v] w fun e w' => ∃ u F, e = .returned u ∧ (trI xs).own w' w.heap.size u F ∧ F.Nodup ∧ Below w.heap.size w w' := by
  rw [trI_sz] at hl
  refine (toI_any xs v w (rd_flat hv) hl).mono ?_
  rintro e w' ⟨u, rfl, o, hb⟩
  exact ⟨u, _, rfl, (flat_own o).1, (flat_own o).2, hb⟩
theorem markIntS_t (k B : Nat) (xs : List Int) (v : Value) (F : List Nat) (w : World) (hown : (trI xs).own w B v F) (hn : F.Nodup) (h0 : 0 < k) (hk : k + (trI xs).cnt ≤ 1000000000) :
    Calls Tryz.prog 45 #[v, .int .i64 k] w fun e w' => ∃ F', e = .returned (.int .i64 (k + (trI xs).cnt : Nat)) ∧ ((trI xs).mkd k).own w' B v F' ∧ F'.Nodup ∧ (∀ x ∈ F', x ∈ F) ∧ Wr F w w' := by
  obtain ⟨o, hF⟩ := own_flat hown
  rw [trI_cnt] at hk ⊢
  refine (markI_any k xs.length B v _ w (by simpa using o) h0 hk).mono ?_
  rintro e w' ⟨rfl, o2, hg⟩
  refine ⟨F, rfl, ?_, hn, fun _ h => h, hF ▸ Wr.of_grown hg⟩
  rw [trI_mkd, hF]
  exact (flat_own o2).1
end Go.Proofs.YtgbpomakomddjabGreatDoor
end

section
namespace Go.Proofs.YtgbpomakomddjabGreatDoor
open Go.RowKit

theorem rdI {w : World} {v : Value} {xs : List Int} (h : Rd w v (xs.map (.int .i64))) :
    xs.length ≤ maxLen ∧ ∃ A c, v = .slice A xs.length c ∧ ∀ k, k < xs.length → ∃ b o, A = some ⟨b, o, none⟩ ∧ b < w.heap.size ∧ ∀ j, (h : j < xs.length) → w.cell? ⟨b, o + j, none⟩ = some (.int .i64 xs[j]) := by
  obtain ⟨hl, A, c, rfl, h⟩ := h
  simp only [List.length_map] at *
  refine ⟨hl, A, c, rfl, fun k hk => ?_⟩
  rcases h with h | ⟨b, o, rfl, hb, hc⟩
  · have : xs = [] := by simpa using h
    subst this
    exact absurd hk (by simp)
  · exact ⟨b, o, rfl, hb, fun j hj => by simpa using hc j hj⟩

theorem ret_b {b c : Bool} (h : c = b) : Ending.returned (.bool b) = Ending.returned (.bool c) := by rw [h]
theorem all_succ {xs : List Int} {k : Nat} {p : Int → Prop} (hlt : k < xs.length) (hall : ∀ j, (h : j < xs.length) → j < k → p xs[j]) (hp : p xs[k]) : ∀ j, (h : j < xs.length) → j < k + 1 → p xs[j] := fun j hj hjk => by
  by_cases e : j = k
  · subst e; exact hp
  · exact hall j hj (by omega)

end Go.Proofs.YtgbpomakomddjabGreatDoor
end

section
namespace Go.Proofs.YtgbpomakomddjabGreatDoor
open Go.RowKit

/-- A nil slice has no room. -/
def NilOk (v : Value) : Prop := ∀ n c, v = .slice none n c → c = 0
theorem nilOk_some (ad : Addr) (n c : Nat) : NilOk (.slice (some ad) n c) := fun n' c' h => by cases h
theorem nilOk_ite (p : Prop) [Decidable p] (a b : Addr) (n c : Nat) : NilOk (.slice (if p then some a else some b) n c) := by
  split
  · exact nilOk_some _ _ _
  · exact nilOk_some _ _ _
theorem rd_zero (w : World) (A : Option Addr) (n c : Nat) (hn : n = 0) : Rd w (.slice A n c) [] := ⟨by simp, A, c, by subst hn; rfl, .inl rfl⟩
theorem nilOk_own {w : World} {base : Nat} {e : TypeId} {size : Nat} {v : Value} {n : Nat} {xs : List Value} (h : w.ownsRow base e size v n xs) : NilOk v := by
  rcases h.2 with ⟨rfl, _⟩ | ⟨g, cap, cur, rfl, _⟩
  · intro n c h; cases h; rfl
  · exact nilOk_some _ _ _
theorem rd_new (w : World) (x : Int) (t : TypeId) : Rd (w.alloc (.cells #[.int .i64 x] t)) (.slice (some ⟨w.heap.size, 0, none⟩) 1 1) ([x].map (.int .i64)) :=
  ⟨by simp [maxLen], _, _, rfl, .inr ⟨w.heap.size, 0, rfl, by simp, fun j hj => by
    have h := new_cell w (.int .i64 x) t j _ (List.getElem?_eq_getElem hj)
    have hadd : (⟨w.heap.size, 0, none⟩ : Addr).add j = ⟨w.heap.size, 0 + j, none⟩ := by unfold Addr.add; split <;> simp_all
    rw [hadd] at h
    exact h⟩⟩
theorem rd_alloc {w : World} {v : Value} {xs : List Value} (h : Rd w v xs) (o : Obj) : Rd (w.alloc o) v xs :=
  h.below ((Below.refl _ _).alloc (Nat.le_refl _) _) (Nat.le_refl _)

theorem step_below {B : Nat} {w0 w w' : World} {o : Obj} {r : Option Nat} (hb : Below B w0 w) (hg : (w.alloc o).grownBy w' r) (hB : B ≤ w.heap.size) (hv : ∀ i, r = some i → B ≤ i) : Below B w0 w' :=
  (hb.alloc hB _).grown hg (by simp; omega) hv
theorem own_base {w : World} {base base' : Nat} {e : TypeId} {size : Nat} {v : Value} {n : Nat} {xs : List Value} (h : w.ownsRow base e size v n xs) (hb : base' ≤ base) : w.ownsRow base' e size v n xs := by
  refine ⟨h.1, ?_⟩
  rcases h.2 with h | ⟨g, cap, cur, h1, h2, h3⟩
  · exact .inl h
  · exact .inr ⟨g, cap, cur, h1, Nat.le_trans hb h2, h3⟩
theorem own_mem {w : World} {base : Nat} {e : TypeId} {size : Nat} {v : Value} {n : Nat} {xs : List Value} (h : w.ownsRow base e size v n xs) : ∀ i, v.ownBlock = some i → base ≤ i := fun i hi => (h.lt i hi).1
theorem app_rd {w : World} {ops : Array Oper} {rest : List Oper} {o : Oper} {a : Act} {Q : Exit → Act → World → Prop} (hgd : o.guard = none) (s x : Operand) (t : TypeId)
    (ho : o.op = .call { callee := .builtin .append, args := #[s, x], argTypes := #[t, t] }) (ht : Tryz.prog.underlying t = some (.slice 3))
    (base : Nat) (v vx : Value) (xs ys : List Int) (hs : a.eval s = v) (hx : a.eval x = vx) (hown : w.ownsRow base 3 1 v xs.length (xs.map (.int .i64))) (hr : Rd w vx (ys.map (.int .i64))) (hnil : NilOk vx)
    (hlen : xs.length + ys.length ≤ 1099511627776) (hbase : base ≤ w.heap.size)
    (h : ∀ v' w', w'.ownsRow base 3 1 v' (xs ++ ys).length ((xs ++ ys).map (.int .i64)) → w.grownBy w' v.ownBlock → (v ≠ .slice none 0 0 ∨ ys ≠ [] → v' ≠ .slice none 0 0) → wpList Tryz.prog ops Q rest (a.put o.dst v') w') :
    wpList Tryz.prog ops Q (o :: rest) a w := by
  obtain ⟨i0, hi, hz0, hz1, hz2⟩ := info_parts infoInt
  obtain ⟨hl, A, c, rfl, hA⟩ := hr
  rw [List.length_map] at hx
  have key : ∀ ad, A = some ad → (∀ j u, (ys.map (Value.int .i64))[j]? = some u → w.cell? (ad.add j) = some u) → wpList Tryz.prog ops Q (o :: rest) a w := by
    intro ad had hc
    subst had
    refine wpList_append_own w hgd s x t ho base 3 i0 (.int .i64 0) 1 8 ht hi hz0 hz1 hz2 rfl (by decide) v xs.length (xs.map (.int .i64)) hs hown ad ys.length c (ys.map (.int .i64)) hx (by simp) hc
      (by intro u hu; obtain ⟨y, _, rfl⟩ := List.mem_map.1 hu; rfl) (by unfold maxLen; omega) (by omega) hbase ?_
    intro v' w' h1 h2 h3
    refine h v' w' (by rw [List.length_append, List.map_append]; exact h1) h2 ?_
    intro hor hv'
    obtain ⟨h4, h5⟩ := h3.1 hv'
    rcases hor with hor | hor
    · exact hor h4
    · exact hor (List.eq_nil_of_length_eq_zero h5)
  rcases hA with hA | ⟨b, off, rfl, hb, hc⟩
  · have hy : ys = [] := by simpa using hA
    subst hy
    cases A with
    | some ad => exact key ad rfl (by intro j u hu; simp at hu)
    | none =>
      have hc0 : c = 0 := hnil _ _ rfl
      subst hc0
      refine wpList_append_own_none hgd s x t ho base 3 i0 1 ht hi v xs.length (xs.map (.int .i64)) hs hown hx ?_
      exact h v w (by simpa using hown) ⟨rfl, rfl, rfl, Nat.le_refl _, fun _ _ _ => rfl⟩ (by
        intro hor; rcases hor with hor | hor
        · exact hor
        · exact absurd rfl hor)
  · refine key _ rfl fun j u hu => ?_
    obtain ⟨hj, rfl⟩ := List.getElem?_eq_some_iff.1 hu
    have hadd : (⟨b, off, none⟩ : Addr).add j = ⟨b, off + j, none⟩ := by unfold Addr.add; split <;> simp_all
    rw [hadd]
    exact hc j hj
end Go.Proofs.YtgbpomakomddjabGreatDoor
end

section
namespace Go.Proofs.YtgbpomakomddjabGreatDoor
open Go.RowKit

section
variable {w0 W W' : World} {L : List Item}
theorem Sn.turn {r : Item} {t' : Tr} {v' : Value} {F' : List Nat} (h : Sn w0 W (r :: L)) (ho : t'.own W' w0.heap.size v' F') (hn : F'.Nodup) (hs : ∀ k ∈ F', k ∈ r.F ∨ W.heap.size ≤ k) (hw : Wr r.F W W') : Sn w0 W' (⟨t', v', F'⟩ :: L) := by
  have hlt := Tr.own_lt _ _ _ h.2.1
  have hl2 := h.2.2.2.2.lt
  have hap := h.2.2.2.1
  refine ⟨hw.below h.1 h.1.size (fun k hk => (hlt k hk).1), ho, hn, fun s hs' k hk hk2 => ?_, h.2.2.2.2.keep (fun s hs' k hk => hw.block k (hl2 s hs' k hk).2 (fun e => hap s hs' k e hk))⟩
  rcases hs k hk with h1 | h1
  · exact hap s hs' k h1 hk2
  · have := (hl2 s hs' k hk2).2; omega
theorem Sn.nilR {α : Type} (e : TypeId) (s : Nat) (f : α → List Tr) (h : Sn w0 W L) : Sn w0 W (⟨rows e s f [], .slice none 0 0, []⟩ :: L) :=
  ⟨h.1, ⟨[], [], ⟨by simp, .inl ⟨rfl, rfl⟩⟩, ⟨rfl, rfl⟩, rfl⟩, by simp, fun _ _ _ hk => by simp at hk, h.2⟩
theorem Sn.nilI (h : Sn w0 W L) : Sn w0 W (⟨trI [], .slice none 0 0, []⟩ :: L) := h.nilR (α := Nat) 3 1 (fun _ => [])
theorem Sn.emptyR {α : Type} (e : TypeId) (s : Nat) (f : α → List Tr) (h : Sn w0 W L) : Sn w0 (W.alloc (.cells #[] e)) (⟨rows e s f [], .slice (some ⟨W.heap.size, 0, none⟩) 0 0, [W.heap.size]⟩ :: L) :=
  h.new ⟨[], [], ⟨by simp, .inr ⟨W.heap.size, 0, #[], rfl, Nat.le_refl _, heap_alloc_new W _, Nat.le_refl _, by unfold maxLen; omega, by simp, by simp⟩⟩, ⟨rfl, rfl⟩, rfl⟩ (by simp) ((Below.refl _ _).alloc (Nat.le_refl _) _)
theorem Sn.emptyI (h : Sn w0 W L) : Sn w0 (W.alloc (.cells #[] 3)) (⟨trI [], .slice (some ⟨W.heap.size, 0, none⟩) 0 0, [W.heap.size]⟩ :: L) := h.emptyR (α := Nat) 3 1 (fun _ => [])
theorem Sn.ownRI {us : List Int} {v : Value} {F : List Nat} (h : Sn w0 W (⟨trI us, v, F⟩ :: L)) : W.ownsRow w0.heap.size 3 1 v us.length (us.map (.int .i64)) := by
  have := (own_flat h.2.1).1
  simpa using this
theorem Sn.appI2 {w6 : World} {us : List Int} {v v' : Value} {F : List Nat} {r : Int} {n : Nat} {o : Obj}
    (h : Sn w0 W (⟨trI us, v, F⟩ :: L)) (hown : w6.ownsRow w0.heap.size 3 1 v' n (us.map (.int .i64) ++ [.int .i64 r]))
    (hg : (W.alloc o).grownBy w6 v.ownBlock) (hat : v'.ownBlock = v.ownBlock ∨ v'.ownBlock = some (W.heap.size + 1)) : ∃ F', Sn w0 w6 (⟨trI (us ++ [r]), v', F'⟩ :: L) := by
  have h1 := h.go ((Below.refl W.heap.size W).alloc (Nat.le_refl _) o)
  have hF : F = v.ownBlock.toList := (own_flat h1.2.1).2
  have hw : Wr F (W.alloc o) w6 := hF ▸ Wr.of_grown hg
  refine ⟨_, h1.turn (t' := trI (us ++ [r])) (flat_own (by simpa using hown)).1 (flat_own (by simpa using hown)).2 (fun k hk => ?_) hw⟩
  rcases hat with h2 | h2
  · left; show k ∈ F; rw [hF, ← h2]; exact hk
  · right
    rw [h2] at hk
    simp at hk
    rw [World.size_alloc]; omega
end
theorem one_cell (w : World) (x : Value) (t : TypeId) : ∀ j u, [x][j]? = some u → (w.alloc (.cells #[x] t)).cell? ((⟨w.heap.size, 0, none⟩ : Addr).add j) = some u := new_cell w x t
theorem Sn.setI {w0 W : World} {L : List Item} {us : List Int} {g c : Nat} {F : List Nat} (h : Sn w0 W (⟨trI us, .slice (some ⟨g, 0, none⟩) us.length c, F⟩ :: L)) (i : Nat) (y : Int) :
    Sn w0 (W.setCell ⟨g, i, none⟩ (.int .i64 y)) (⟨trI (us.set i y), .slice (some ⟨g, 0, none⟩) us.length c, F⟩ :: L) := by
  have ho := h.ownRI
  have hF : F = [g] := (own_flat h.2.1).2
  have hs := (ho.stored i (.int .i64 y)).1
  rw [← List.map_set] at hs
  have hf := flat_own (by simpa using hs : (W.setCell ⟨g, i, none⟩ (.int .i64 y)).ownsRow w0.heap.size 3 1 (.slice (some ⟨g, 0, none⟩) us.length c) ((us.set i y).map (Value.int .i64)).length ((us.set i y).map (Value.int .i64)))
  subst hF
  exact h.turn (t' := trI (us.set i y)) hf.1 hf.2 (fun k hk => .inl hk) (Wr.setCell W ⟨g, i, none⟩ (by simp) _)
theorem Sn.cellI {w0 W : World} {L : List Item} {us : List Int} {g c : Nat} {F : List Nat} (h : Sn w0 W (⟨trI us, .slice (some ⟨g, 0, none⟩) us.length c, F⟩ :: L)) {i : Nat} (hi : i < us.length) :
    W.cell? ⟨g, i, none⟩ = some (.int .i64 us[i]) ∧ W.frozen? ⟨g, i, none⟩ = false := by
  refine ⟨?_, h.ownRI.frozenAt i⟩
  rw [h.ownRI.cellAt i (by omega), List.getElem?_map, List.getElem?_eq_getElem hi]; rfl
theorem Sn.formI {w0 W : World} {L : List Item} {us : List Int} {A : Option Addr} {n c : Nat} {F : List Nat} (h : Sn w0 W (⟨trI us, .slice A n c, F⟩ :: L)) (hn : 0 < n) : ∃ g, A = some ⟨g, 0, none⟩ ∧ n ≤ c := by
  obtain ⟨_, h⟩ := h.ownRI
  rcases h with ⟨h, _⟩ | ⟨g, cap, cur, h, _, _, hle, _⟩
  · injection h with h1 h2 h3
    omega
  · injection h with h1 h2 h3
    exact ⟨g, h1, by omega⟩
end Go.Proofs.YtgbpomakomddjabGreatDoor
end

section
namespace Go.Proofs.YtgbpomakomddjabGreatDoor
open Go.RowKit

structure Rs where
  st : List (Int × Int)
  su : List (List Int)
structure Lk where
  fr : Int
  to : Int
  fe : Bool
  lag : Int
structure Pj where
  dl : Int
  acts : List Ac
  lks : List Lk
  ress : List Rs
  stk : List Int
def cellsPt (p : Int × Int) : List Tr := [.one (.int .i64 p.1), .one (.int .i64 p.2)]
theorem cellsPt_len (p : Int × Int) : (cellsPt p).length = 2 := rfl
def cellsI1 (l : List Int) : List Tr := [trI l]
theorem cellsI1_len (l : List Int) : (cellsI1 l).length = 1 := rfl
def trSt (xs : List (Int × Int)) : Tr := rows 151 2 cellsPt xs
def trSu (su : List (List Int)) : Tr := rows 25 1 cellsI1 su
def cellsR (r : Rs) : List Tr := [trSt r.st, trSu r.su]
theorem cellsR_len (r : Rs) : (cellsR r).length = 2 := rfl
def cellsL (l : Lk) : List Tr := [.one (.int .i64 l.fr), .one (.int .i64 l.to), .one (.bool l.fe), .one (.int .i64 l.lag)]
theorem cellsL_len (l : Lk) : (cellsL l).length = 4 := rfl
theorem cellsA_len (a : Ac) : (cellsA a).length = 3 := rfl
def trAs (al : List Ac) : Tr := rows 89 3 cellsA al
def trLs (ls : List Lk) : Tr := rows 93 4 cellsL ls
def trRs (rs : List Rs) : Tr := rows 98 2 cellsR rs
def cellsPj (p : Pj) : List Tr := [.one (.int .i64 p.dl), trAs p.acts, trLs p.lks, trRs p.ress, trI p.stk]
def trPj (p : Pj) : Tr := .agg (cellsPj p)
/-- A schedule: the starts and the modes. -/
structure Sc where
  st : List Int
  mo : List Int
def cellsSc (s : Sc) : List Tr := [trI s.st, trI s.mo]
theorem cellsSc_len (s : Sc) : (cellsSc s).length = 2 := rfl
def trSc (s : Sc) : Tr := .agg (cellsSc s)
/-- A rule: its kind and three numbers. -/
structure Ru where
  ki : Int
  a : Int
  b : Int
  c : Int
theorem ru_ext {r q : Ru} : r = q ↔ r.ki = q.ki ∧ r.a = q.a ∧ r.b = q.b ∧ r.c = q.c := by
  cases r; cases q; simp
instance instDecRu : DecidableEq Ru := fun r q => decidable_of_iff _ (ru_ext (r := r) (q := q)).symm
def cellsRu (r : Ru) : List Tr := [.one (.int .i64 r.ki), .one (.int .i64 r.a), .one (.int .i64 r.b), .one (.int .i64 r.c)]
theorem cellsRu_len (r : Ru) : (cellsRu r).length = 4 := rfl
def trRu (r : Ru) : Tr := .agg (cellsRu r)
/-- A literal: its kind, its activity and its value. -/
structure Lt where
  ki : Int
  ac : Int
  va : Int
theorem lt_ext {r q : Lt} : r = q ↔ r.ki = q.ki ∧ r.ac = q.ac ∧ r.va = q.va := by
  cases r; cases q; simp
instance instDecLt : DecidableEq Lt := fun r q => decidable_of_iff _ (lt_ext (r := r) (q := q)).symm
def cellsLt (r : Lt) : List Tr := [.one (.int .i64 r.ki), .one (.int .i64 r.ac), .one (.int .i64 r.va)]
theorem cellsLt_len (r : Lt) : (cellsLt r).length = 3 := rfl
def trLt (r : Lt) : Tr := .agg (cellsLt r)
def trLts (l : List Lt) : Tr := rows 55 3 cellsLt l
/-- A domain: least and greatest starts, and the modes of each activity. -/
structure Dm where
  mn : List Int
  mx : List Int
  md : List (List Int)
def cellsDm (d : Dm) : List Tr := [trI d.mn, trI d.mx, trSu d.md]
theorem cellsDm_len (d : Dm) : (cellsDm d).length = 3 := rfl
def trDm (d : Dm) : Tr := .agg (cellsDm d)
def trPt (p : Int × Int) : Tr := .agg (cellsPt p)
def trLk (l : Lk) : Tr := .agg (cellsL l)
def trR (r : Rs) : Tr := .agg (cellsR r)

theorem rows_slice {α : Type} {w : World} {e : TypeId} {s : Nat} {f : α → List Tr} {xs : List α} {v : Value} (h : (rows e s f xs).rd w v) : ∃ A c, v = .slice A xs.length c := by
  obtain ⟨vs, ⟨_, _, A, c, rfl, _⟩, _⟩ := h
  exact ⟨A, c, rfl⟩
end Go.Proofs.YtgbpomakomddjabGreatDoor
end

section
namespace Go.Proofs.YtgbpomakomddjabGreatDoor
open Go.RowKit
set_option linter.unusedVariables false

theorem rdL_cons {w : World} {t : Tr} {ts : List Tr} {vs : List Value} (h : rdL w (t :: ts) vs) : ∃ v us, vs = v :: us ∧ t.rd w v ∧ rdL w ts us := h
theorem rdStep_t {w : World} {d : (Int × Int)} {v : Value} (h : (trPt d).rd w v) : v = .agg #[.int .i64 d.1, .int .i64 d.2] := by
  obtain ⟨us, rfl, h⟩ := h
  obtain ⟨v0, us, rfl, h0, v1, us, rfl, h1, hz⟩ := h
  obtain rfl : v0 = .int .i64 d.1 := h0
  obtain rfl : v1 = .int .i64 d.2 := h1
  obtain rfl : us = [] := hz
  exact rfl
theorem mk_rdStep_t {w : World} {d : (Int × Int)}   : (trPt d).rd w (.agg #[.int .i64 d.1, .int .i64 d.2]) := ⟨_, rfl, _, _, rfl, rfl, _, _, rfl, rfl, rfl⟩
theorem rdStepS_t {w : World} {xs : List (Int × Int)} {v : Value} (h : (trSt xs).rd w v) :
    xs.length ≤ 9223372036854775807 ∧ ∃ A c, v = .slice A xs.length c ∧ ∀ k, k < xs.length → ∃ b o, A = some ⟨b, o, none⟩ ∧ b < w.heap.size ∧ ∀ j, (hj : j < xs.length) → w.cell? ⟨b, o + j * 2, none⟩ = some (.int .i64 xs[j].1) ∧ w.cell? ⟨b, o + j * 2 + 1, none⟩ = some (.int .i64 xs[j].2) := by
  obtain ⟨hl, A, c, rfl, g⟩ := rd_rows cellsPt_len h
  refine ⟨hl, A, c, rfl, fun k hk => ?_⟩
  obtain ⟨b, o, rfl, hb, hj⟩ := g k hk
  refine ⟨b, o, rfl, hb, fun j hjl => ?_⟩
  obtain ⟨us, h, hcl⟩ := hj j hjl
  obtain ⟨v0, us, rfl, h0, v1, us, rfl, h1, hz⟩ := h
  obtain rfl : v0 = .int .i64 xs[j].1 := h0
  obtain rfl : v1 = .int .i64 xs[j].2 := h1
  obtain rfl : us = [] := hz
  exact ⟨hcl 0 (by omega), hcl 1 (by omega)⟩
theorem rdMode_t {w : World} {d : Md} {v : Value} (h : (trM d).rd w v) : ∃ A1 c1, ∃ A2 c2, v = .agg #[.int .i64 d.du, .slice A1 d.us.length c1, .slice A2 d.co.length c2] ∧ (trI d.us).rd w (.slice A1 d.us.length c1) ∧ (trI d.co).rd w (.slice A2 d.co.length c2) := by
  obtain ⟨us, rfl, h⟩ := h
  obtain ⟨v0, us, rfl, h0, v1, us, rfl, h1, v2, us, rfl, h2, hz⟩ := h
  obtain rfl : v0 = .int .i64 d.du := h0
  obtain ⟨A1, c1, rfl⟩ := slice_ints h1
  obtain ⟨A2, c2, rfl⟩ := slice_ints h2
  obtain rfl : us = [] := hz
  exact ⟨A1, c1, A2, c2, rfl, h1, h2⟩
theorem mk_rdMode_t {w : World} {d : Md} {v1 : Value} {v2 : Value} (h1 : (trI d.us).rd w v1) (h2 : (trI d.co).rd w v2) : (trM d).rd w (.agg #[.int .i64 d.du, v1, v2]) := ⟨_, rfl, _, _, rfl, rfl, _, _, rfl, h1, _, _, rfl, h2, rfl⟩
theorem rdModeS_t {w : World} {xs : List Md} {v : Value} (h : (trMs xs).rd w v) :
    xs.length ≤ 9223372036854775807 ∧ ∃ A c, v = .slice A xs.length c ∧ ∀ k, k < xs.length → ∃ b o, A = some ⟨b, o, none⟩ ∧ b < w.heap.size ∧ ∀ j, (hj : j < xs.length) → ∃ A1 c1, ∃ A2 c2, w.cell? ⟨b, o + j * 3, none⟩ = some (.int .i64 xs[j].du) ∧ w.cell? ⟨b, o + j * 3 + 1, none⟩ = some (.slice A1 xs[j].us.length c1) ∧ w.cell? ⟨b, o + j * 3 + 2, none⟩ = some (.slice A2 xs[j].co.length c2) ∧ (trI xs[j].us).rd w (.slice A1 xs[j].us.length c1) ∧ (trI xs[j].co).rd w (.slice A2 xs[j].co.length c2) := by
  obtain ⟨hl, A, c, rfl, g⟩ := rd_rows cellsM_len h
  refine ⟨hl, A, c, rfl, fun k hk => ?_⟩
  obtain ⟨b, o, rfl, hb, hj⟩ := g k hk
  refine ⟨b, o, rfl, hb, fun j hjl => ?_⟩
  obtain ⟨us, h, hcl⟩ := hj j hjl
  obtain ⟨v0, us, rfl, h0, v1, us, rfl, h1, v2, us, rfl, h2, hz⟩ := h
  obtain rfl : v0 = .int .i64 xs[j].du := h0
  obtain ⟨A1, c1, rfl⟩ := slice_ints h1
  obtain ⟨A2, c2, rfl⟩ := slice_ints h2
  obtain rfl : us = [] := hz
  exact ⟨A1, c1, A2, c2, hcl 0 (by omega), hcl 1 (by omega), hcl 2 (by omega), h1, h2⟩
theorem rdActivity_t {w : World} {d : Ac} {v : Value} (h : (trA d).rd w v) : ∃ A2 c2, v = .agg #[.string d.nm, .int .i64 d.fa, .slice A2 d.ms.length c2] ∧ (trMs d.ms).rd w (.slice A2 d.ms.length c2) := by
  obtain ⟨us, rfl, h⟩ := h
  obtain ⟨v0, us, rfl, h0, v1, us, rfl, h1, v2, us, rfl, h2, hz⟩ := h
  obtain rfl : v0 = .string d.nm := h0
  obtain rfl : v1 = .int .i64 d.fa := h1
  obtain ⟨A2, c2, rfl⟩ := rows_slice h2
  obtain rfl : us = [] := hz
  exact ⟨A2, c2, rfl, h2⟩
theorem mk_rdActivity_t {w : World} {d : Ac} {v2 : Value} (h2 : (trMs d.ms).rd w v2) : (trA d).rd w (.agg #[.string d.nm, .int .i64 d.fa, v2]) := ⟨_, rfl, _, _, rfl, rfl, _, _, rfl, rfl, _, _, rfl, h2, rfl⟩
theorem rdActivityS_t {w : World} {xs : List Ac} {v : Value} (h : (trAs xs).rd w v) :
    xs.length ≤ 9223372036854775807 ∧ ∃ A c, v = .slice A xs.length c ∧ ∀ k, k < xs.length → ∃ b o, A = some ⟨b, o, none⟩ ∧ b < w.heap.size ∧ ∀ j, (hj : j < xs.length) → ∃ A2 c2, w.cell? ⟨b, o + j * 3, none⟩ = some (.string xs[j].nm) ∧ w.cell? ⟨b, o + j * 3 + 1, none⟩ = some (.int .i64 xs[j].fa) ∧ w.cell? ⟨b, o + j * 3 + 2, none⟩ = some (.slice A2 xs[j].ms.length c2) ∧ (trMs xs[j].ms).rd w (.slice A2 xs[j].ms.length c2) := by
  obtain ⟨hl, A, c, rfl, g⟩ := rd_rows cellsA_len h
  refine ⟨hl, A, c, rfl, fun k hk => ?_⟩
  obtain ⟨b, o, rfl, hb, hj⟩ := g k hk
  refine ⟨b, o, rfl, hb, fun j hjl => ?_⟩
  obtain ⟨us, h, hcl⟩ := hj j hjl
  obtain ⟨v0, us, rfl, h0, v1, us, rfl, h1, v2, us, rfl, h2, hz⟩ := h
  obtain rfl : v0 = .string xs[j].nm := h0
  obtain rfl : v1 = .int .i64 xs[j].fa := h1
  obtain ⟨A2, c2, rfl⟩ := rows_slice h2
  obtain rfl : us = [] := hz
  exact ⟨A2, c2, hcl 0 (by omega), hcl 1 (by omega), hcl 2 (by omega), h2⟩
theorem rdLink_t {w : World} {d : Lk} {v : Value} (h : (trLk d).rd w v) : v = .agg #[.int .i64 d.fr, .int .i64 d.to, .bool d.fe, .int .i64 d.lag] := by
  obtain ⟨us, rfl, h⟩ := h
  obtain ⟨v0, us, rfl, h0, v1, us, rfl, h1, v2, us, rfl, h2, v3, us, rfl, h3, hz⟩ := h
  obtain rfl : v0 = .int .i64 d.fr := h0
  obtain rfl : v1 = .int .i64 d.to := h1
  obtain rfl : v2 = .bool d.fe := h2
  obtain rfl : v3 = .int .i64 d.lag := h3
  obtain rfl : us = [] := hz
  exact rfl
theorem mk_rdLink_t {w : World} {d : Lk}   : (trLk d).rd w (.agg #[.int .i64 d.fr, .int .i64 d.to, .bool d.fe, .int .i64 d.lag]) := ⟨_, rfl, _, _, rfl, rfl, _, _, rfl, rfl, _, _, rfl, rfl, _, _, rfl, rfl, rfl⟩
theorem rdLinkS_t {w : World} {xs : List Lk} {v : Value} (h : (trLs xs).rd w v) :
    xs.length ≤ 9223372036854775807 ∧ ∃ A c, v = .slice A xs.length c ∧ ∀ k, k < xs.length → ∃ b o, A = some ⟨b, o, none⟩ ∧ b < w.heap.size ∧ ∀ j, (hj : j < xs.length) → w.cell? ⟨b, o + j * 4, none⟩ = some (.int .i64 xs[j].fr) ∧ w.cell? ⟨b, o + j * 4 + 1, none⟩ = some (.int .i64 xs[j].to) ∧ w.cell? ⟨b, o + j * 4 + 2, none⟩ = some (.bool xs[j].fe) ∧ w.cell? ⟨b, o + j * 4 + 3, none⟩ = some (.int .i64 xs[j].lag) := by
  obtain ⟨hl, A, c, rfl, g⟩ := rd_rows cellsL_len h
  refine ⟨hl, A, c, rfl, fun k hk => ?_⟩
  obtain ⟨b, o, rfl, hb, hj⟩ := g k hk
  refine ⟨b, o, rfl, hb, fun j hjl => ?_⟩
  obtain ⟨us, h, hcl⟩ := hj j hjl
  obtain ⟨v0, us, rfl, h0, v1, us, rfl, h1, v2, us, rfl, h2, v3, us, rfl, h3, hz⟩ := h
  obtain rfl : v0 = .int .i64 xs[j].fr := h0
  obtain rfl : v1 = .int .i64 xs[j].to := h1
  obtain rfl : v2 = .bool xs[j].fe := h2
  obtain rfl : v3 = .int .i64 xs[j].lag := h3
  obtain rfl : us = [] := hz
  exact ⟨hcl 0 (by omega), hcl 1 (by omega), hcl 2 (by omega), hcl 3 (by omega)⟩
theorem rdResource_t {w : World} {d : Rs} {v : Value} (h : (trR d).rd w v) : ∃ A0 c0, ∃ A1 c1, v = .agg #[.slice A0 d.st.length c0, .slice A1 d.su.length c1] ∧ (trSt d.st).rd w (.slice A0 d.st.length c0) ∧ (trSu d.su).rd w (.slice A1 d.su.length c1) := by
  obtain ⟨us, rfl, h⟩ := h
  obtain ⟨v0, us, rfl, h0, v1, us, rfl, h1, hz⟩ := h
  obtain ⟨A0, c0, rfl⟩ := rows_slice h0
  obtain ⟨A1, c1, rfl⟩ := rows_slice h1
  obtain rfl : us = [] := hz
  exact ⟨A0, c0, A1, c1, rfl, h0, h1⟩
theorem mk_rdResource_t {w : World} {d : Rs} {v0 : Value} {v1 : Value} (h0 : (trSt d.st).rd w v0) (h1 : (trSu d.su).rd w v1) : (trR d).rd w (.agg #[v0, v1]) := ⟨_, rfl, _, _, rfl, h0, _, _, rfl, h1, rfl⟩
theorem rdResourceS_t {w : World} {xs : List Rs} {v : Value} (h : (trRs xs).rd w v) :
    xs.length ≤ 9223372036854775807 ∧ ∃ A c, v = .slice A xs.length c ∧ ∀ k, k < xs.length → ∃ b o, A = some ⟨b, o, none⟩ ∧ b < w.heap.size ∧ ∀ j, (hj : j < xs.length) → ∃ A0 c0, ∃ A1 c1, w.cell? ⟨b, o + j * 2, none⟩ = some (.slice A0 xs[j].st.length c0) ∧ w.cell? ⟨b, o + j * 2 + 1, none⟩ = some (.slice A1 xs[j].su.length c1) ∧ (trSt xs[j].st).rd w (.slice A0 xs[j].st.length c0) ∧ (trSu xs[j].su).rd w (.slice A1 xs[j].su.length c1) := by
  obtain ⟨hl, A, c, rfl, g⟩ := rd_rows cellsR_len h
  refine ⟨hl, A, c, rfl, fun k hk => ?_⟩
  obtain ⟨b, o, rfl, hb, hj⟩ := g k hk
  refine ⟨b, o, rfl, hb, fun j hjl => ?_⟩
  obtain ⟨us, h, hcl⟩ := hj j hjl
  obtain ⟨v0, us, rfl, h0, v1, us, rfl, h1, hz⟩ := h
  obtain ⟨A0, c0, rfl⟩ := rows_slice h0
  obtain ⟨A1, c1, rfl⟩ := rows_slice h1
  obtain rfl : us = [] := hz
  exact ⟨A0, c0, A1, c1, hcl 0 (by omega), hcl 1 (by omega), h0, h1⟩
theorem rdProject_t {w : World} {d : Pj} {v : Value} (h : (trPj d).rd w v) : ∃ A1 c1, ∃ A2 c2, ∃ A3 c3, ∃ A4 c4, v = .agg #[.int .i64 d.dl, .slice A1 d.acts.length c1, .slice A2 d.lks.length c2, .slice A3 d.ress.length c3, .slice A4 d.stk.length c4] ∧ (trAs d.acts).rd w (.slice A1 d.acts.length c1) ∧ (trLs d.lks).rd w (.slice A2 d.lks.length c2) ∧ (trRs d.ress).rd w (.slice A3 d.ress.length c3) ∧ (trI d.stk).rd w (.slice A4 d.stk.length c4) := by
  obtain ⟨us, rfl, h⟩ := h
  obtain ⟨v0, us, rfl, h0, v1, us, rfl, h1, v2, us, rfl, h2, v3, us, rfl, h3, v4, us, rfl, h4, hz⟩ := h
  obtain rfl : v0 = .int .i64 d.dl := h0
  obtain ⟨A1, c1, rfl⟩ := rows_slice h1
  obtain ⟨A2, c2, rfl⟩ := rows_slice h2
  obtain ⟨A3, c3, rfl⟩ := rows_slice h3
  obtain ⟨A4, c4, rfl⟩ := slice_ints h4
  obtain rfl : us = [] := hz
  exact ⟨A1, c1, A2, c2, A3, c3, A4, c4, rfl, h1, h2, h3, h4⟩
theorem mk_rdProject_t {w : World} {d : Pj} {v1 : Value} {v2 : Value} {v3 : Value} {v4 : Value} (h1 : (trAs d.acts).rd w v1) (h2 : (trLs d.lks).rd w v2) (h3 : (trRs d.ress).rd w v3) (h4 : (trI d.stk).rd w v4) : (trPj d).rd w (.agg #[.int .i64 d.dl, v1, v2, v3, v4]) := ⟨_, rfl, _, _, rfl, rfl, _, _, rfl, h1, _, _, rfl, h2, _, _, rfl, h3, _, _, rfl, h4, rfl⟩
theorem rdSchedule_t {w : World} {d : Sc} {v : Value} (h : (trSc d).rd w v) : ∃ A0 c0, ∃ A1 c1, v = .agg #[.slice A0 d.st.length c0, .slice A1 d.mo.length c1] ∧ (trI d.st).rd w (.slice A0 d.st.length c0) ∧ (trI d.mo).rd w (.slice A1 d.mo.length c1) := by
  obtain ⟨us, rfl, h⟩ := h
  obtain ⟨v0, us, rfl, h0, v1, us, rfl, h1, hz⟩ := h
  obtain ⟨A0, c0, rfl⟩ := slice_ints h0
  obtain ⟨A1, c1, rfl⟩ := slice_ints h1
  obtain rfl : us = [] := hz
  exact ⟨A0, c0, A1, c1, rfl, h0, h1⟩
theorem mk_rdSchedule_t {w : World} {d : Sc} {v0 : Value} {v1 : Value} (h0 : (trI d.st).rd w v0) (h1 : (trI d.mo).rd w v1) : (trSc d).rd w (.agg #[v0, v1]) := ⟨_, rfl, _, _, rfl, h0, _, _, rfl, h1, rfl⟩
theorem rdRule_t {w : World} {d : Ru} {v : Value} (h : (trRu d).rd w v) : v = .agg #[.int .i64 d.ki, .int .i64 d.a, .int .i64 d.b, .int .i64 d.c] := by
  obtain ⟨us, rfl, h⟩ := h
  obtain ⟨v0, us, rfl, h0, v1, us, rfl, h1, v2, us, rfl, h2, v3, us, rfl, h3, hz⟩ := h
  obtain rfl : v0 = .int .i64 d.ki := h0
  obtain rfl : v1 = .int .i64 d.a := h1
  obtain rfl : v2 = .int .i64 d.b := h2
  obtain rfl : v3 = .int .i64 d.c := h3
  obtain rfl : us = [] := hz
  exact rfl
theorem mk_rdRule_t {w : World} {d : Ru}   : (trRu d).rd w (.agg #[.int .i64 d.ki, .int .i64 d.a, .int .i64 d.b, .int .i64 d.c]) := ⟨_, rfl, _, _, rfl, rfl, _, _, rfl, rfl, _, _, rfl, rfl, _, _, rfl, rfl, rfl⟩
theorem rdLiteral_t {w : World} {d : Lt} {v : Value} (h : (trLt d).rd w v) : v = .agg #[.int .i64 d.ki, .int .i64 d.ac, .int .i64 d.va] := by
  obtain ⟨us, rfl, h⟩ := h
  obtain ⟨v0, us, rfl, h0, v1, us, rfl, h1, v2, us, rfl, h2, hz⟩ := h
  obtain rfl : v0 = .int .i64 d.ki := h0
  obtain rfl : v1 = .int .i64 d.ac := h1
  obtain rfl : v2 = .int .i64 d.va := h2
  obtain rfl : us = [] := hz
  exact rfl
theorem mk_rdLiteral_t {w : World} {d : Lt}   : (trLt d).rd w (.agg #[.int .i64 d.ki, .int .i64 d.ac, .int .i64 d.va]) := ⟨_, rfl, _, _, rfl, rfl, _, _, rfl, rfl, _, _, rfl, rfl, rfl⟩
theorem rdLiteralS_t {w : World} {xs : List Lt} {v : Value} (h : (trLts xs).rd w v) :
    xs.length ≤ 9223372036854775807 ∧ ∃ A c, v = .slice A xs.length c ∧ ∀ k, k < xs.length → ∃ b o, A = some ⟨b, o, none⟩ ∧ b < w.heap.size ∧ ∀ j, (hj : j < xs.length) → w.cell? ⟨b, o + j * 3, none⟩ = some (.int .i64 xs[j].ki) ∧ w.cell? ⟨b, o + j * 3 + 1, none⟩ = some (.int .i64 xs[j].ac) ∧ w.cell? ⟨b, o + j * 3 + 2, none⟩ = some (.int .i64 xs[j].va) := by
  obtain ⟨hl, A, c, rfl, g⟩ := rd_rows cellsLt_len h
  refine ⟨hl, A, c, rfl, fun k hk => ?_⟩
  obtain ⟨b, o, rfl, hb, hj⟩ := g k hk
  refine ⟨b, o, rfl, hb, fun j hjl => ?_⟩
  obtain ⟨us, h, hcl⟩ := hj j hjl
  obtain ⟨v0, us, rfl, h0, v1, us, rfl, h1, v2, us, rfl, h2, hz⟩ := h
  obtain rfl : v0 = .int .i64 xs[j].ki := h0
  obtain rfl : v1 = .int .i64 xs[j].ac := h1
  obtain rfl : v2 = .int .i64 xs[j].va := h2
  obtain rfl : us = [] := hz
  exact ⟨hcl 0 (by omega), hcl 1 (by omega), hcl 2 (by omega)⟩
theorem rdDomain_t {w : World} {d : Dm} {v : Value} (h : (trDm d).rd w v) : ∃ A0 c0, ∃ A1 c1, ∃ A2 c2, v = .agg #[.slice A0 d.mn.length c0, .slice A1 d.mx.length c1, .slice A2 d.md.length c2] ∧ (trI d.mn).rd w (.slice A0 d.mn.length c0) ∧ (trI d.mx).rd w (.slice A1 d.mx.length c1) ∧ (trSu d.md).rd w (.slice A2 d.md.length c2) := by
  obtain ⟨us, rfl, h⟩ := h
  obtain ⟨v0, us, rfl, h0, v1, us, rfl, h1, v2, us, rfl, h2, hz⟩ := h
  obtain ⟨A0, c0, rfl⟩ := slice_ints h0
  obtain ⟨A1, c1, rfl⟩ := slice_ints h1
  obtain ⟨A2, c2, rfl⟩ := rows_slice h2
  obtain rfl : us = [] := hz
  exact ⟨A0, c0, A1, c1, A2, c2, rfl, h0, h1, h2⟩
theorem mk_rdDomain_t {w : World} {d : Dm} {v0 : Value} {v1 : Value} {v2 : Value} (h0 : (trI d.mn).rd w v0) (h1 : (trI d.mx).rd w v1) (h2 : (trSu d.md).rd w v2) : (trDm d).rd w (.agg #[v0, v1, v2]) := ⟨_, rfl, _, _, rfl, h0, _, _, rfl, h1, _, _, rfl, h2, rfl⟩
theorem rdIntSS_t {w : World} {xs : List (List Int)} {v : Value} (h : (trSu xs).rd w v) :
    xs.length ≤ 9223372036854775807 ∧ ∃ A c, v = .slice A xs.length c ∧ ∀ k, k < xs.length → ∃ b o, A = some ⟨b, o, none⟩ ∧ b < w.heap.size ∧ ∀ j, (hj : j < xs.length) → ∃ A0 c0, w.cell? ⟨b, o + j, none⟩ = some (.slice A0 xs[j].length c0) ∧ (trI xs[j]).rd w (.slice A0 xs[j].length c0) := by
  obtain ⟨hl, A, c, rfl, g⟩ := rd_rows cellsI1_len h
  refine ⟨hl, A, c, rfl, fun k hk => ?_⟩
  obtain ⟨b, o, rfl, hb, hj⟩ := g k hk
  refine ⟨b, o, rfl, hb, fun j hjl => ?_⟩
  obtain ⟨us, h, hcl⟩ := hj j hjl
  simp only [Nat.mul_one] at hcl
  obtain ⟨v0, us, rfl, h0, hz⟩ := h
  obtain ⟨A0, c0, rfl⟩ := slice_ints h0
  obtain rfl : us = [] := hz
  exact ⟨A0, c0, hcl 0 (by omega), h0⟩
end Go.Proofs.YtgbpomakomddjabGreatDoor
end

section
namespace Go.Proofs.YtgbpomakomddjabGreatDoor
open Go.RowKit

set_option maxHeartbeats 400000 in
theorem l01In_any (n lo hi : Int) (w : World) :
    Calls Tryz.prog 82 #[.int .i64 n, .int .i64 lo, .int .i64 hi] w fun e w' => e = .returned (.bool (decide (lo ≤ n) && decide (n ≤ hi))) ∧ w = w' := by
  by_cases h : lo ≤ n
  · go_enter Tryz.func82, Tryz.ntmps82
    go_wp2
    go_ret
    exact ⟨by simp <;> omega, rfl⟩
  · go_enter Tryz.func82, Tryz.ntmps82
    go_wp2
    go_ret
    exact ⟨by simp <;> omega, rfl⟩

end Go.Proofs.YtgbpomakomddjabGreatDoor
end
