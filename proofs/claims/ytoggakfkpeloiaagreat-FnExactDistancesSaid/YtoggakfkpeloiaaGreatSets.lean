/- DERIVED. CONTRACTS: impl.SetHas, SetOf, SetAdd, SetUnion, SetIntersection, SetDifference, SetSubset, SetEqual. -/
import Derived.Test.YtoggakfkpeloiaaGreatMaths
import Derived.Test.YtoggakfkpeloiaaGreatDats
import Derived.Test.YtoggakfkpeloiaaGreatShelf
import Derived.Shelf.Spec.SlicesGrow
import Derived.Lib.OwnBridge
import Derived.Sort.Grow

section
namespace Go.Proofs.YtoggakfkpeloiaaGreat
open Go.RowKit

/-- What a slice of ints that reads as xs gives at each place. -/
theorem has_yes {xs : List Int} {k : Nat} {x : Int} (h : k < xs.length) (he : xs[k] = x) : hasB xs x = true := by
  unfold hasB
  rw [List.contains_iff_mem]; exact he ▸ List.getElem_mem h
theorem has_no {xs : List Int} {k : Nat} {x : Int} (hk : ¬ k < xs.length) (h : ∀ j, (hj : j < xs.length) → j < k → xs[j] ≠ x) : hasB xs x = false := by
  unfold hasB
  rw [← Bool.not_eq_true, List.contains_iff_mem]
  intro hm
  obtain ⟨j, hj, he⟩ := List.getElem_of_mem hm
  exact h j hj (by omega) he
set_option maxRecDepth 100000 in
set_option maxHeartbeats 1000000 in
theorem specHas_any (xs : List Int) (x : Int) (v : Value) (w : World) (hr : Rd w v (xs.map (.int .i64))) :
    Calls Tryz.prog 119 #[v, .int .i64 x] w fun e w' => e = .returned (.bool (hasB xs x)) ∧ w' = w := by
  obtain ⟨hl, A, c, rfl, HR⟩ := rdI hr
  unfold maxLen at hl
  have HA := Lib.hid HR
  clear hr HR
  go_enter Tryz.func119, Tryz.ntmps119
  go_wp2
  go_loopw [9] (fun i wr => ∃ k : Nat, k ≤ xs.length ∧ i = .int .i64 k ∧ wr = w ∧ ∀ j, (h : j < xs.length) → j < k → xs[j] ≠ x) (fun i _ => xs.length - (intOf i).toNat)
  case atStart => exact ⟨0, Nat.zero_le _, rfl, rfl, fun j _ h => absurd h (by omega)⟩
  case round =>
    obtain ⟨k, hk, rfl, rfl, hall⟩ := hrel
    by_cases hlt : k < xs.length
    · have hlt' : (k : Int) < (xs.length : Int) := by omega
      obtain ⟨b, o, rfl, hb, hc⟩ := HA.out k hlt
      have cx := hc k hlt
      clear hc
      by_cases he : xs[k] = x
      · have H := Lib.hid (has_yes hlt he)
        clear hall
        generalize xs[k] = y at cx he
        subst he
        go_wp2
        go_ret
        exact ⟨ret_b H.out, rfl⟩
      · have HN := Lib.hid (all_succ (p := fun z => z ≠ x) hlt hall he)
        clear hall
        generalize xs[k] = y at cx he
        have hb : (y == x) = false := by simpa using he
        go_wp2
        go_roundw
        case rel => exact ⟨k + 1, by omega, by go_num, by trivial, HN.out⟩
        case measure => simp [intOf]; omega
    · have hge : ¬ (k : Int) < (xs.length : Int) := by omega
      have H := Lib.hid (has_no hlt hall)
      clear hall
      go_wp2
      go_ret
      exact ⟨ret_b H.out, rfl⟩

theorem sub_no {xs ys : List Int} {k : Nat} (h : k < xs.length) (he : hasB ys xs[k] = false) : subB xs ys = false := by
  rw [← Bool.not_eq_true]
  intro hs
  have := List.all_eq_true.1 hs _ (List.getElem_mem h)
  change hasB ys xs[k] = true at this
  rw [he] at this; cases this
theorem sub_yes {xs ys : List Int} {k : Nat} (hk : ¬ k < xs.length) (h : ∀ j, (hj : j < xs.length) → j < k → hasB ys xs[j] = true) : subB xs ys = true := by
  unfold subB
  rw [List.all_eq_true]
  intro x hx
  obtain ⟨j, hj, rfl⟩ := List.getElem_of_mem hx
  exact h j hj (by omega)

theorem eq_no {xs ys : List Int} {k : Nat} (h : k < xs.length) (h2 : k < ys.length) (he : xs[k] ≠ ys[k]) : eqB xs ys = false := by
  unfold eqB
  rw [decide_eq_false_iff_not]; rintro rfl; exact he rfl

theorem ascB_badk {l : List Int} {j k : Nat} (h : j < l.length) (h0 : 0 < j) (hk : k = j - 1) (hb : l[j] ≤ l[k]'(by omega)) : ascB l = false := by
  subst hk; exact ascB_bad h h0 hb

end Go.Proofs.YtoggakfkpeloiaaGreat
end

section
namespace Go.Proofs.YtoggakfkpeloiaaGreat
open Go.RowKit

end Go.Proofs.YtoggakfkpeloiaaGreat
end

section
namespace Go.Proofs.YtoggakfkpeloiaaGreat
open Go.RowKit

theorem map_snocC (l : List Int) (x : Int) : (l ++ [x]).map (Value.int .i64) = l.map (Value.int .i64) ++ [.int .i64 x] := by simp
theorem rd_sub {w : World} {base g cap : Nat} {xs : List Int} (ho : w.ownsRow base 3 1 (.slice (some ⟨g, 0, none⟩) xs.length cap) xs.length (xs.map (.int .i64))) (hl : xs.length ≤ 1099511627776) (i j : Nat) (hij : i ≤ j) (hj : j ≤ xs.length) (n c : Nat) (hn : n = j - i) :
    Rd w (.slice (some ⟨g, i, none⟩) n c) (((xs.take j).drop i).map (.int .i64)) := by
  subst hn
  have hlen : (((xs.take j).drop i).map (Value.int .i64)).length = j - i := by simp; omega
  refine ⟨by rw [hlen]; unfold maxLen; omega, _, c, by rw [hlen], ?_⟩
  refine .inr ⟨g, i, rfl, (ho.lt g rfl).2, fun q hq => ?_⟩
  have hq' : q < j - i := by rw [← hlen]; exact hq
  rw [ho.cellAt (i + q) (by omega)]
  have h1 : i + q < xs.length := by omega
  simp [List.getElem?_eq_getElem h1]
theorem below_pre {xs : List Int} {k : Nat} {x : Int} (hk : k ≤ xs.length) (h : ∀ j, (hj : j < xs.length) → j < k → xs[j] < x) (h2 : k < xs.length → ∀ h : k < xs.length, ¬ xs[k] < x) : kB xs x = k :=
  kB_eq xs x k hk h (fun h => h2 h h)

theorem fold_step {xs : List Int} {k : Nat} (h : k < xs.length) : setB (xs.take (k + 1)) = putB (setB (xs.take k)) xs[k] := by
  rw [List.take_succ_eq_append_getElem h, setB_snoc]
theorem setB_take_len (xs : List Int) (k : Nat) : (setB (xs.take k)).length ≤ xs.length := Nat.le_trans (len_setB _) (by simp; omega)

end Go.Proofs.YtoggakfkpeloiaaGreat
end

section
namespace Go.Proofs.YtoggakfkpeloiaaGreat
open Go.RowKit

def upB (n : Nat) : List Int := (List.range n).map fun (i : Nat) => (i : Int)
theorem upB_succ (k : Nat) : upB (k + 1) = upB k ++ [(k : Int)] := by simp [upB, List.range_succ]
theorem upB_len (k : Nat) : (upB k).length = k := by simp [upB]
def rangeB (n : Int) : List Int := if 0 ≤ n ∧ n ≤ 200 then upB n.toNat else []

set_option maxRecDepth 100000 in
set_option maxHeartbeats 2000000 in
theorem specRange_any (n : Int) (w : World) :
    Calls Tryz.prog 120 #[.int .i64 n] w fun e w' => ∃ v', e = .returned v' ∧ w'.ownsRow w.heap.size 3 1 v' (rangeB n).length ((rangeB n).map (.int .i64)) ∧ Below w.heap.size w w' := by
  by_cases hin : 0 ≤ n ∧ n ≤ 200
  · obtain ⟨m, rfl⟩ : ∃ m : Nat, n = m := ⟨n.toNat, by omega⟩
    have HB := Lib.hid (show rangeB (m : Int) = upB m by unfold rangeB; rw [if_pos hin]; rfl)
    have hm : m ≤ 200 := by omega
    have hown0 : (w.alloc (.cells #[] 3)).ownsRow w.heap.size 3 1 (.slice (some ⟨w.heap.size, 0, none⟩) 0 0) 0 [] := World.ownsRow_made w #[] 0 (Nat.le_refl _) (by decide) rfl
    have O0 := Lib.hid (And.intro hown0 ((Below.refl _ w).alloc (Nat.le_refl _) (.cells #[] 3)))
    have ht : (decide ((0 : Int) ≤ m) && decide ((m : Int) ≤ 200)) = true := by simp; omega
    clear hown0 hin
    go_enter Tryz.func120, Tryz.ntmps120
    go_wp2_with fail
    refine (l01In_any (m : Int) 0 200 _).mono ?_
    rintro e w1 ⟨rfl, rfl⟩
    rw [ht]
    clear ht
    go_wp2
    go_loopw [3, 4] (fun out i wr => ∃ k : Nat, k ≤ m ∧ i = .int .i64 k ∧ wr.ownsRow w.heap.size 3 1 out (upB k).length ((upB k).map (.int .i64)) ∧ Below w.heap.size w wr) (fun _ i _ => m - (intOf i).toNat)
    case atStart => exact ⟨0, Nat.zero_le _, rfl, O0.out.1, O0.out.2⟩
    case round =>
      obtain ⟨k, hk, rfl, hown, hbel⟩ := hrel
      by_cases hlt : k < m
      · have hlt' : (k : Int) < (m : Int) := by omega
        have HF := Lib.hid (upB_succ k)
        have hl := upB_len k
        generalize upB k = zs at hown HF hl
        go_wp2_with (first
          | (at_builtin; refine app_rd rfl (.tmp 14) (.tmp 16) 25 rfl rfl w.heap.size _ _ zs [(k : Int)] rfl rfl (by exact hown.alloc _) (by exact rd_new _ (k : Int) _) (nilOk_some _ _ _) (by simp; omega) (by have := hbel.size; simp; omega) ?_; intro v2 w2 hown2 hg2 _
             have S2 := Lib.hid (And.intro hown2 (step_below hbel hg2 hbel.size (own_mem hown)))
             rw [← HF.out] at S2
             clear hown2 hg2 hown hbel))
        go_roundw
        case rel => exact ⟨k + 1, by omega, by go_num, S2.out.1, S2.out.2⟩
        case measure => simp [intOf]; omega
      · have hge : ¬ (k : Int) < (m : Int) := by omega
        obtain rfl : k = m := by omega
        have R := Lib.hid (And.intro hown hbel)
        clear hown
        go_wp2
        go_ret
        exact ⟨_, rfl, by rw [HB.out]; exact R.out.1, R.out.2⟩
  · have HB := Lib.hid (show rangeB n = [] by unfold rangeB; rw [if_neg hin])
    have ht : (decide ((0 : Int) ≤ n) && decide (n ≤ 200)) = false := by
      rw [← Bool.not_eq_true, Bool.and_eq_true, decide_eq_true_iff, decide_eq_true_iff]; exact hin
    have B0 := Lib.hid ((Below.refl _ w).alloc (Nat.le_refl w.heap.size) (.cells #[] 3))
    go_enter Tryz.func120, Tryz.ntmps120
    go_wp2_with fail
    refine (l01In_any n 0 200 _).mono ?_
    rintro e w1 ⟨rfl, rfl⟩
    rw [ht]
    clear ht hin
    go_wp2
    go_ret
    exact ⟨_, rfl, by rw [HB.out]; exact World.ownsRow_nil _ _ _ _, B0.out⟩

def upI (i : Nat) : Value := .int .i64 i
theorem upI_all (m : Nat) : (List.range m).map upI = (upB m).map (.int .i64) := by simp [upB, upI]

set_option maxRecDepth 100000 in
set_option maxHeartbeats 2000000 in
theorem implRange_any (n : Int) (w : World) :
    Calls Tryz.prog 115 #[.int .i64 n] w fun e w' => ∃ v', e = .returned v' ∧ w'.ownsRow w.heap.size 3 1 v' (rangeB n).length ((rangeB n).map (.int .i64)) ∧ Below w.heap.size w w' := by
  obtain ⟨i0, hi, hz0, hz1, hz2⟩ := info_parts infoInt
  by_cases hin : 0 ≤ n ∧ n ≤ 200
  · obtain ⟨m, rfl⟩ : ∃ m : Nat, n = m := ⟨n.toNat, by omega⟩
    have HB := Lib.hid (show rangeB (m : Int) = upB m by unfold rangeB; rw [if_pos hin]; rfl)
    have hm : m ≤ 200 := by omega
    have h1 : ¬ ((m : Int) < 0) := by omega
    have h2 : ¬ ((m : Int) > 200) := by omega
    clear hin
    go_enter Tryz.func115, Tryz.ntmps115
    go_wp2_with (at_make; refine wpList_make_full _ rfl _ _ 25 rfl w.heap.size 3 i0 (.int .i64 0) 1 Tryz.underlying25 hi hz0 hz1 .i64 .i64 _ _ m rfl rfl rfl rfl (by rw [hz2]; omega) (by unfold maxLen; omega) (Nat.le_refl _) ?_; intro w1 hown1 hgrow1)
    have hbel1 : Below w.heap.size w w1 := (Below.refl _ _).grown hgrow1 (Nat.le_refl _) (by simp)
    have hml := own_len hown1
    generalize hms : (madeCells (Value.int .i64 0).cells (m * 1)).toList = ms at hown1 hml
    have HM := Lib.hid hml
    clear hml hms hgrow1
    go_loopw [15] (fun i wr => ∃ k : Nat, k ≤ m ∧ i = .int .i64 k ∧ wr.ownsRow w.heap.size 3 1 (.slice (some ⟨w.heap.size, 0, none⟩) m m) m (mix upI ms k) ∧ Below w.heap.size w wr) (fun i _ => m - (intOf i).toNat)
    case atStart => exact ⟨0, Nat.zero_le _, rfl, by rw [mix_zero]; exact hown1, hbel1⟩
    case round =>
      obtain ⟨k, hk, rfl, how, hbel⟩ := hrel
      by_cases hlt : k < m
      · have hlt' : (k : Int) < (m : Int) := by omega
        have hgw : w.heap.size < wr.heap.size := (how.lt w.heap.size rfl).2
        have hc : wr.cell? ⟨w.heap.size, k, none⟩ = some ((mix upI ms k)[k]'(by rw [mix_len _ _ (by have := HM.out; omega)]; have := HM.out; omega)) := by
          rw [how.cellAt k (by omega)]; exact List.getElem?_eq_getElem _
        have hf : wr.frozen? ⟨w.heap.size, k, none⟩ = false := how.frozenAt k
        obtain ⟨hs1, _⟩ := how.stored k (upI k)
        rw [mix_set _ _ (by have := HM.out; omega)] at hs1
        have H1 := Lib.hid hs1
        have H2 := Lib.hid (hbel.setCell (p := ⟨w.heap.size, k, none⟩) (Nat.le_refl _) (upI k))
        clear hs1 how hbel
        generalize (mix upI ms k)[k]'_ = z at hc
        change Hid (World.ownsRow (World.setCell wr _ (.int .i64 (k : Int))) _ _ _ _ _ _) at H1
        change Hid (Below _ _ (World.setCell wr _ (.int .i64 (k : Int)))) at H2
        go_wp2
        go_roundw
        case rel => exact ⟨k + 1, by omega, by go_num, H1.out, H2.out⟩
        case measure => simp [intOf]; omega
      · have hge : ¬ (k : Int) < (m : Int) := by omega
        obtain rfl : k = m := by omega
        rw [mix_full _ _ HM.out, upI_all] at how
        have H1 := Lib.hid how
        clear how
        go_wp2
        go_ret
        exact ⟨_, rfl, by rw [HB.out, upB_len]; exact H1.out, hbel⟩
  · have HB := Lib.hid (show rangeB n = [] by unfold rangeB; rw [if_neg hin])
    by_cases h1 : n < 0
    · clear hin
      go_enter Tryz.func115, Tryz.ntmps115
      go_wp2
      go_ret
      exact ⟨_, rfl, by rw [HB.out]; exact World.ownsRow_nil _ _ _ _, Below.refl _ _⟩
    · have h2 : n > 200 := by omega
      clear hin
      go_enter Tryz.func115, Tryz.ntmps115
      go_wp2
      go_ret
      exact ⟨_, rfl, by rw [HB.out]; exact World.ownsRow_nil _ _ _ _, Below.refl _ _⟩
end Go.Proofs.YtoggakfkpeloiaaGreat
end

section
namespace Go.Proofs.YtoggakfkpeloiaaGreat
open Go.RowKit Go.Shelf

def catB (Ls : List (List Int)) : List Int := Ls.flatten
theorem cat_take {Ls : List (List Int)} {k : Nat} (h : k < Ls.length) : (catB (Ls.take (k + 1))) = (catB (Ls.take k)) ++ Ls[k] := by
  unfold catB
  rw [List.take_succ_eq_append_getElem h, List.flatten_append]; simp
theorem flat_le (Ls : List (List Int)) (k : Nat) : (catB (Ls.take k)).length ≤ (catB Ls).length := by
  unfold catB
  conv => rhs; rw [← List.take_append_drop k Ls, List.flatten_append, List.length_append]
  omega

end Go.Proofs.YtoggakfkpeloiaaGreat
end

section
namespace Go.Proofs.YtoggakfkpeloiaaGreat
open Go.RowKit

def pickB (p : Int → Bool) (l : List Int) : List Int := l.filter p
def neB (n x : Int) : Bool := x != n
def nhasB (l : List Int) (x : Int) : Bool := !hasB l x
theorem pickB_yes {p : Int → Bool} {xs : List Int} {k : Nat} (h : k < xs.length) (hp : p xs[k] = true) : pickB p (xs.take (k + 1)) = pickB p (xs.take k) ++ [xs[k]] := by
  unfold pickB
  rw [List.take_succ_eq_append_getElem h, List.filter_append]; simp [hp]
theorem pickB_no {p : Int → Bool} {xs : List Int} {k : Nat} (h : k < xs.length) (hp : p xs[k] = false) : pickB p (xs.take (k + 1)) = pickB p (xs.take k) := by
  unfold pickB
  rw [List.take_succ_eq_append_getElem h, List.filter_append]; simp [hp]
theorem pickB_len (p : Int → Bool) (xs : List Int) (k : Nat) : (pickB p (xs.take k)).length ≤ xs.length :=
  Nat.le_trans (List.length_filter_le _ _) (by simp; omega)
theorem inter_pick (a b : List Int) : setB (pickB (hasB b) a) = interB a b := rfl
theorem diff_pick (a b : List Int) : setB (pickB (nhasB b) a) = diffB a b := rfl
theorem inter_pick2 (a b : List Int) : pickB (hasB (setB b)) (setB a) = interB a b := inter_eq a b
theorem diff_pick2 (a b : List Int) : pickB (nhasB (setB b)) (setB a) = diffB a b := diff_eq a b
theorem asc_le {l : List Int} (h : l.Pairwise (· < ·)) : l.Pairwise (· ≤ ·) := h.imp Int.le_of_lt

end Go.Proofs.YtoggakfkpeloiaaGreat
end

section
namespace Go.Proofs.YtoggakfkpeloiaaGreat
open Go.RowKit Go.Shelf Go.Sort Go.Lib

theorem below_grow {B : Nat} {a w : World} (h : Below B a w) (os : Array Obj) (hB : B ≤ w.heap.size) : Below B a (grow w os) :=
  ⟨h.os, h.tape, h.output, by have := h.size; simp [grow]; omega, fun k hk => by
    rw [← h.block k hk]
    have hk' : k < w.heap.size := by omega
    simp [grow, Array.getElem?_append, hk']⟩

/-- What the library's sort and compact leave of an own row of ints. -/
theorem sorted_left {w w1 : World} {base g cap nn q : Nat} {e : TypeId} {os : Array Obj} {zs s : List Int} (hs : s.length = zs.length) (hown : w1.ownsRow base e 1 (.slice (some ⟨g, 0, none⟩) zs.length cap) zs.length (zs.map (.int .i64))) (hbel : Below base w w1) (hb : base ≤ g) :
    (putRow (Value.int .i64) (Sort.ahead (grow (putRow (Value.int .i64) (Sort.ahead w1 nn) g 0 s.toArray) os) q) g 0 (compact s ++ List.replicate (s.length - (compact s).length) 0).toArray).ownsRow base e 1 (.slice (some ⟨g, 0, none⟩) (compact s).length cap) (compact s).length ((compact s).map (.int .i64)) ∧
    Below base w (putRow (Value.int .i64) (Sort.ahead (grow (putRow (Value.int .i64) (Sort.ahead w1 nn) g 0 s.toArray) os) q) g 0 (compact s ++ List.replicate (s.length - (compact s).length) 0).toArray) := by
  have hle := compact_length_le s
  have h1 := ownsRow_putRow (q := nn) (k := zs.length) (ys := s) hown hs (Nat.le_refl _)
  rw [← hs, List.take_length, hs] at h1
  have hb1 : Below base w (putRow (Value.int .i64) (Sort.ahead w1 nn) g 0 s.toArray) := below_putRow hbel hb
  have hg1 : g < (putRow (Value.int .i64) (Sort.ahead w1 nn) g 0 s.toArray).heap.size := (h1.lt g rfl).2
  have h2 : (grow (putRow (Value.int .i64) (Sort.ahead w1 nn) g 0 s.toArray) os).ownsRow base e 1 (.slice (some ⟨g, 0, none⟩) zs.length cap) zs.length (s.map (.int .i64)) :=
    own_below h1 (below_grow (Below.refl _ _) os (Nat.le_refl _)) (Nat.le_refl _)
  have hb2 : Below base w (grow (putRow (Value.int .i64) (Sort.ahead w1 nn) g 0 s.toArray) os) := below_grow hb1 os (by omega)
  have h3 := ownsRow_putRow (q := q) (k := (compact s).length) (ys := compact s ++ List.replicate (s.length - (compact s).length) 0) h2 (by simp; omega) (by omega)
  rw [List.take_left] at h3
  exact ⟨h3, below_putRow hb2 hb⟩

end Go.Proofs.YtoggakfkpeloiaaGreat
end

section
namespace Go.Proofs.YtoggakfkpeloiaaGreat
open Go.RowKit

theorem rd_cellsE (w : World) (us : List Value) (t : TypeId) (hl : us.length ≤ 1000000) : Rd (w.alloc (.cells us.toArray t)) (.slice (some ⟨w.heap.size, 0, none⟩) us.length us.length) us :=
  ⟨by unfold maxLen; omega, _, _, rfl, .inr ⟨w.heap.size, 0, rfl, by simp, fun j hj => by
    rw [World.cell?_alloc_at _ _ _ _ rfl]
    simp [List.getElem?_eq_getElem hj]⟩⟩

theorem rd_sl {w : World} {v : Value} {xs : List Int} (h : Rd w v (xs.map (.int .i64))) : ∃ A c, v = .slice A xs.length c := by
  obtain ⟨_, A, c, rfl, _⟩ := h
  exact ⟨A, c, by rw [List.length_map]⟩

end Go.Proofs.YtoggakfkpeloiaaGreat
end
