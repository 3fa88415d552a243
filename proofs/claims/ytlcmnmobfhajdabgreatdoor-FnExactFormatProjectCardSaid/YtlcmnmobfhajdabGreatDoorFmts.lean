/- DERIVED. CONTRACTS: spec.FormatInts, impl.FormatInts. -/
import Derived.Test.YtlcmnmobfhajdabGreatDoorTxtMaths
import Derived.Test.YtlcmnmobfhajdabGreatDoorFmt
import Derived.Test.YtlcmnmobfhajdabGreatDoorJoin
import Derived.Test.YtlcmnmobfhajdabGreatDoorSplit
import Derived.OwnWalk
namespace Go.Proofs.YtlcmnmobfhajdabGreatDoor
open Go.RowKit

theorem map_take_snoc {α β : Type} (f : α → β) {l : List α} {k : Nat} (h : k < l.length) : (l.take (k + 1)).map f = (l.take k).map f ++ [f l[k]] := by
  rw [List.take_succ_eq_append_getElem h, List.map_append]; rfl

set_option maxRecDepth 100000 in
set_option maxHeartbeats 2000000 in
theorem specFmts_any (xs : List Int) (v : Value) (w : World) (hr : Rd w v (xs.map (.int .i64))) (hl : xs.length ≤ 1048576) (hwf : ∀ n ∈ xs, -9223372036854775808 ≤ n ∧ n ≤ 9223372036854775807) :
    Calls Tryz.prog 21 #[v] w fun e w' => e = .returned (.string (fmtsB xs)) ∧ Below w.heap.size w w' := by
  obtain ⟨i0, hi, hz0, hz1, hz2⟩ := info_parts infoString
  obtain ⟨hla, A, ca, rfl, ha⟩ := hr
  simp only [List.length_map] at *
  rcases ha with ha | ⟨b1, o1, rfl, hb1, hc1⟩
  · have hx : xs = [] := by simpa using ha
    subst hx
    have HN := Lib.hid fmts_nil
    clear ha hwf
    go_enter Tryz.func21, Tryz.ntmps21
    go_wp2
    refine wp_loop_rounds 1 ?_
    rw [rounds_succ]
    go_wp2
    go_ret
    exact ⟨by rw [HN.out]; rfl, (Below.refl _ _).alloc (Nat.le_refl _) _⟩
  · have HC := Lib.hid hc1
    have HWF := Lib.hid hwf
    clear hc1 hwf
    by_cases hx0 : xs.length = 0
    · have hx : xs = [] := List.eq_nil_of_length_eq_zero hx0
      subst hx
      have HN := Lib.hid fmts_nil
      clear hx0 HC
      go_enter Tryz.func21, Tryz.ntmps21
      go_wp2
      refine wp_loop_rounds 1 ?_
      rw [rounds_succ]
      go_wp2
      go_ret
      exact ⟨by rw [HN.out]; rfl, (Below.refl _ _).alloc (Nat.le_refl _) _⟩
    go_enter Tryz.func21, Tryz.ntmps21
    go_wp2
    go_loopw [3, 9] (fun out i wr => ∃ k : Nat, k ≤ xs.length ∧ i = .int .i64 k ∧ wr.ownsRow w.heap.size 9 1 out k (((xs.take k).map fmtB).map .string) ∧ Below w.heap.size w wr ∧ ∀ j, (hj : j < xs.length) → j < k → fmtB xs[j] ≠ ⟨#[]⟩) (fun _ i _ => xs.length - (intOf i).toNat)
    case atStart => exact ⟨0, Nat.zero_le _, rfl, World.ownsRow_made w #[] 0 (Nat.le_refl _) (by decide) rfl, (Below.refl _ _).alloc (Nat.le_refl _) _, fun j _ h => absurd h (by omega)⟩
    case round =>
      obtain ⟨k, hk, rfl, hown, hbel, hall⟩ := hrel
      by_cases hlt : k < xs.length
      · have hlt' : (k : Int) < (xs.length : Int) := by omega
        have cx : wr.cell? ⟨b1, o1 + k, none⟩ = some (.int .i64 xs[k]) := by rw [hbel.cell (p := ⟨b1, o1 + k, none⟩) hb1]; have := HC.out k (by simpa using hlt); simpa using this
        have hn := HWF.out xs[k] (List.getElem_mem hlt)
        have hn1 := hn.1
        have hn2 := hn.2
        clear hn
        by_cases he : fmtB xs[k] = ⟨#[]⟩
        · have HB := Lib.hid (fmts_bad hlt he)
          have HE := Lib.hid he
          clear he hall hown
          generalize xs[k] = n at cx hn1 hn2 HE
          go_wp2_with (go_at_call 19; refine (specFmt_any _ _ hn1 hn2).mono ?_; rintro e w1 ⟨rfl, hb2⟩; rw [HE.out])
          go_ret
          exact ⟨by rw [HB.out]; rfl, hbel.trans (hb2.mono hbel.size)⟩
        · have hne := str_some he
          have hall' : ∀ j, (hj : j < xs.length) → j < k + 1 → fmtB xs[j] ≠ ⟨#[]⟩ := fun j hj hjk => by
            by_cases e : j = k
            · subst e; exact he
            · exact hall j hj (by omega)
          have HALL := Lib.hid hall'
          have HS := Lib.hid (map_take_snoc fmtB hlt)
          clear he hall hall'
          generalize hxk : xs[k] = n at cx hn1 hn2 hne HS
          generalize hfn : fmtB n = f at hne HS
          have HF := Lib.hid hfn
          clear hfn hxk
          go_wp2_with fail
          refine (specFmt_any _ _ hn1 hn2).mono ?_
          rintro e w1 ⟨rfl, hb2⟩
          rw [HF.out]
          have hown1 := own_below hown hb2 (Nat.le_refl _)
          have hbel1 := hbel.trans (hb2.mono hbel.size)
          clear hown hb2
          go_wp2_with fail
          refine (specFmt_any _ _ hn1 hn2).mono ?_
          rintro e w2 ⟨rfl, hb3⟩
          rw [HF.out]
          have hown2 := own_below hown1 hb3 (Nat.le_refl _)
          have hbel2 := hbel1.trans (hb3.mono hbel1.size)
          clear hown1 hb3
          go_wp2_with (at_builtin; refine wpList_append_own _ rfl (.tmp 16) (.tmp 19) 48 rfl w.heap.size 9 i0 (.string ⟨#[]⟩) 1 16 Tryz.underlying48 hi hz0 hz1 hz2 rfl (by decide) _ k (((xs.take k).map fmtB).map .string) rfl (by exact hown2.alloc _) ⟨w2.heap.size, 0, none⟩ 1 1 [.string f] rfl rfl (by exact new_cell _ _ _) (by simp [Value.oneCell']) (by unfold maxLen; omega) (by omega) (by have := hbel2.size; simp; omega) ?_; intro v' w3 hown3 hg3 _)
          have R : Hid (w3.ownsRow w.heap.size 9 1 v' (k + 1) (((xs.take (k + 1)).map fmtB).map .string) ∧ Below w.heap.size w w3) := by
            rw [HS.out, map_snoc]
            exact Lib.hid ⟨hown3, (hbel2.alloc hbel2.size _).grown hg3 (by have := hbel2.size; simp; omega) (fun i hi => (hown2.lt i hi).1)⟩
          clear hown3 hg3 hown2
          go_wp2
          go_roundw
          case rel => exact ⟨k + 1, by omega, by go_num, R.out.1, R.out.2, HALL.out⟩
          case measure => simp [intOf]; omega
      · have hge : ¬ (k : Int) < (xs.length : Int) := by omega
        obtain rfl : k = xs.length := by omega
        have hpos : 0 < xs.length := by omega
        have HY := Lib.hid (fmts_ok hpos (fun j hj => hall j hj hj))
        have ht := fmts_tot xs
        have hlm : (xs.map fmtB).length = xs.length := by simp
        rw [List.take_of_length_le (Nat.le_refl _)] at hown
        have hrd := own_rd hown (by unfold maxLen; omega)
        rcases hown.2 with ⟨_, h0⟩ | ⟨g, cap, cur, rfl, _⟩
        · omega
        have hl0 : ((xs.length : Int) == 0) = false := by rw [beq_eq_false_iff_ne]; omega
        have HRD := Lib.hid hrd
        have HT := Lib.hid ht
        have HLM := Lib.hid hlm
        clear hall hown hrd ht hlm
        go_wp2_with (go_at_call 24; refine (specJoin_any (xs.map fmtB) ⟨#[44]⟩ _ _ HRD.out (by have := HT.out; omega) (by rw [HLM.out]; exact hl) (by decide)).mono ?_; rintro e w' ⟨rfl, rfl⟩)
        go_ret
        exact ⟨by rw [HY.out]; rfl, hbel⟩

def mkF (xs : List Int) (i : Nat) : Value := .string (fmtB (xs.getD i 0))
theorem mkF_all (xs : List Int) : (List.range xs.length).map (mkF xs) = (xs.map fmtB).map .string := by
  apply List.ext_getElem
  · simp
  · intro i h1 h2
    simp [mkF] at h1 ⊢
    rw [List.getElem?_eq_getElem h1]; rfl
theorem mkF_at {xs : List Int} {k : Nat} (h : k < xs.length) : mkF xs k = .string (fmtB xs[k]) := by
  simp [mkF, List.getD, List.getElem?_eq_getElem h]

set_option maxRecDepth 100000 in
set_option maxHeartbeats 2000000 in
theorem implFmts_any (xs : List Int) (v : Value) (w : World) (hr : Rd w v (xs.map (.int .i64))) (hl : xs.length ≤ 1048576) (hwf : ∀ n ∈ xs, -9223372036854775808 ≤ n ∧ n ≤ 9223372036854775807) (ht : TB w) :
    Calls Tryz.prog 79 #[v] w fun e w' => e = .returned (.string (fmtsB xs)) ∧ Below w.heap.size w w' := by
  obtain ⟨i0, hi, hz0, hz1, hz2⟩ := info_parts infoString
  obtain ⟨hla, A, ca, rfl, ha⟩ := hr
  simp only [List.length_map] at *
  by_cases hx0 : xs.length = 0
  · have hx : xs = [] := List.eq_nil_of_length_eq_zero hx0
    subst hx
    have HN := Lib.hid fmts_nil
    clear hx0 ha hwf ht
    go_enter Tryz.func79, Tryz.ntmps79
    go_wp2
    go_ret
    exact ⟨by rw [HN.out]; rfl, Below.refl _ _⟩
  · have hl0 : ((xs.length : Int) == 0) = false := by rw [beq_eq_false_iff_ne]; omega
    rcases ha with ha | ⟨b1, o1, rfl, hb1, hc1⟩
    · exact absurd (by simpa using ha) (fun h : xs = [] => hx0 (by rw [h]; rfl))
    have HC := Lib.hid hc1
    have HWF := Lib.hid hwf
    have HTB := Lib.hid ht
    clear hc1 hwf ht
    go_enter Tryz.func79, Tryz.ntmps79
    go_wp2_with (at_make; refine wpList_make_full _ rfl _ _ 48 rfl w.heap.size 9 i0 (.string ⟨#[]⟩) 1 Tryz.underlying48 hi hz0 hz1 .i64 .i64 _ _ xs.length rfl rfl rfl rfl (by rw [hz2]; omega) (by unfold maxLen; omega) (Nat.le_refl _) ?_; intro w1 hown1 hgrow1)
    have hbel1 : Below w.heap.size w w1 := (Below.refl _ _).grown hgrow1 (Nat.le_refl _) (by simp)
    have hm := own_len hown1
    generalize hms : (madeCells (Value.string ⟨#[]⟩).cells (xs.length * 1)).toList = ms at hown1 hm
    have HM := Lib.hid hm
    clear hm hms hgrow1
    go_loopw [14] (fun i wr => ∃ k : Nat, k ≤ xs.length ∧ i = .int .i64 k ∧ wr.ownsRow w.heap.size 9 1 (.slice (some ⟨w.heap.size, 0, none⟩) xs.length xs.length) xs.length (mix (mkF xs) ms k) ∧ Below w.heap.size w wr ∧ ∀ j, (hj : j < xs.length) → j < k → fmtB xs[j] ≠ ⟨#[]⟩) (fun i _ => xs.length - (intOf i).toNat)
    case atStart => exact ⟨0, Nat.zero_le _, rfl, by rw [mix_zero]; exact hown1, hbel1, fun j _ h => absurd h (by omega)⟩
    case round =>
      obtain ⟨k, hk, rfl, how, hbel, hall⟩ := hrel
      by_cases hlt : k < xs.length
      · have hlt' : (k : Int) < (xs.length : Int) := by omega
        have cx : wr.cell? ⟨b1, o1 + k, none⟩ = some (.int .i64 xs[k]) := by rw [hbel.cell (p := ⟨b1, o1 + k, none⟩) hb1]; have := HC.out k (by simpa using hlt); simpa using this
        have hn := HWF.out xs[k] (List.getElem_mem hlt)
        have hn1 := hn.1
        have hn2 := hn.2
        have HTr := Lib.hid (HTB.out.below hbel (Nat.le_refl _))
        clear hn
        go_wp2_with fail
        refine (implFmt_any _ _ hn1 hn2 HTr.out).mono ?_
        rintro e w2 ⟨rfl, hb2⟩
        have how2 := own_below how hb2 (Nat.le_refl _)
        have hbel2 := hbel.trans (hb2.mono hbel.size)
        have hgw : w.heap.size < w2.heap.size := (how2.lt w.heap.size rfl).2
        have hc : w2.cell? ⟨w.heap.size, k, none⟩ = some ((mix (mkF xs) ms k)[k]'(by rw [mix_len _ _ (by have := HM.out; omega)]; have := HM.out; omega)) := by
          rw [how2.cellAt k (by omega)]; exact List.getElem?_eq_getElem _
        have hf : w2.frozen? ⟨w.heap.size, k, none⟩ = false := how2.frozenAt k
        obtain ⟨hs1, _⟩ := how2.stored k (mkF xs k)
        have hc2 : (w2.setCell ⟨w.heap.size, k, none⟩ (mkF xs k)).cell? ⟨w.heap.size, k, none⟩ = some (mkF xs k) := World.cell?_setCell_same _ _ _ hc
        rw [mix_set _ _ (by have := HM.out; omega)] at hs1
        have H1 := Lib.hid hs1
        have H2 := Lib.hid (hbel2.setCell (p := ⟨w.heap.size, k, none⟩) (Nat.le_refl _) (mkF xs k))
        clear hs1 how how2 hbel hbel2 hb2
        generalize (mix (mkF xs) ms k)[k]'_ = z at hc
        rw [mkF_at hlt] at H1 H2 hc2
        by_cases he : fmtB xs[k] = ⟨#[]⟩
        · have HB := Lib.hid (fmts_bad hlt he)
          rw [he] at H1 H2 hc2 ⊢
          clear he hall
          go_wp2
          go_ret
          exact ⟨by rw [HB.out]; rfl, H2.out⟩
        · have hne := str_some he
          have hall' : ∀ j, (hj : j < xs.length) → j < k + 1 → fmtB xs[j] ≠ ⟨#[]⟩ := fun j hj hjk => by
            by_cases e : j = k
            · subst e; exact he
            · exact hall j hj (by omega)
          have HALL := Lib.hid hall'
          clear he hall hall'
          generalize fmtB xs[k] = f at hne H1 H2 hc2 ⊢
          go_wp2
          go_roundw
          case rel => exact ⟨k + 1, by omega, by go_num, H1.out, H2.out, HALL.out⟩
          case measure => simp [intOf]; omega
      · have hge : ¬ (k : Int) < (xs.length : Int) := by omega
        obtain rfl : k = xs.length := by omega
        have hpos : 0 < xs.length := by omega
        have HY := Lib.hid (fmts_ok hpos (fun j hj => hall j hj hj))
        have ht := fmts_tot xs
        have hlm : (xs.map fmtB).length = xs.length := by simp
        rw [mix_full _ _ HM.out, mkF_all] at how
        have HRD := Lib.hid (own_rd how (by unfold maxLen; omega))
        have HT := Lib.hid ht
        have HLM := Lib.hid hlm
        clear hall how ht hlm
        go_wp2_with (go_at_call 30; refine (joinAll_any (xs.map fmtB) ⟨#[44]⟩ _ _ HRD.out (by have := HT.out; omega) (by rw [HLM.out]; exact hl) (by decide)).mono ?_; rintro e w2 ⟨rfl, hb2⟩)
        go_ret
        exact ⟨by rw [HY.out]; rfl, hbel.trans (hb2.mono hbel.size)⟩
end Go.Proofs.YtlcmnmobfhajdabGreatDoor
