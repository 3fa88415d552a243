/- DERIVED. CONTRACTS: spec.FormatSteps, impl.FormatSteps. -/
import Derived.Test.YtlcmnmobfhajdabGreatDoorStpTxt
import Derived.Test.YtlcmnmobfhajdabGreatDoorStpA
import Derived.Test.YtlcmnmobfhajdabGreatDoorFmts
import Derived.Test.YtlcmnmobfhajdabGreatDoorStpC
import Derived.Test.YtlcmnmobfhajdabGreatDoorJoin
import Derived.Deep.RegionWith
import Derived.Deep.AppendLies
import Derived.Deep.RegionLaw
namespace Go.Proofs.YtlcmnmobfhajdabGreatDoor
open Go.RowKit

theorem okS_at {xs : List Pr} (h : okS xs) {k : Nat} (hk : k < xs.length) : 0 ≤ xs[k].1 ∧ xs[k].1 ≤ 60 ∧ 0 ≤ xs[k].2 ∧ xs[k].2 ≤ 20 := (okS_iff.1 h).2.2.2.2 _ (List.getElem_mem hk)

/-- A region that can't panic, walked with no word on panics. -/
theorem region_only' {P : Program} {c : Code} {K : Act → World → Prop} {Q : Exit → Act → World → Prop} {a : Act} {w : World} (h : c.wp P (Exit.then K (fun _ _ _ => False)) a w) : c.wp P (Exit.then K Q) a w :=
  wp_mono h (by intro e a w h; cases e <;> first | exact h | exact h.elim)

/-- What is kept from a step's box on: its cells, and all that lay before. -/
def FK (wr : World) (x0 x1 : Int) (W : World) : Prop := W.cell? ⟨wr.heap.size, 0, none⟩ = some (.int .i64 x0) ∧ W.cell? ⟨wr.heap.size, 1, none⟩ = some (.int .i64 x1) ∧ Below wr.heap.size wr W
theorem FK.start (wr : World) (x0 x1 : Int) : FK wr x0 x1 (wr.alloc (.cells #[.int .i64 x0, .int .i64 x1] 105)).drew :=
  ⟨newP0 _ _ _ _ rfl, newP1 _ _ _ _ rfl, ((Below.refl _ wr).alloc (Nat.le_refl _) _).drew⟩
theorem FK.lt {wr : World} {x0 x1 : Int} {W : World} (h : FK wr x0 x1 W) : wr.heap.size < W.heap.size := World.block_lt_of_cell? W ⟨wr.heap.size, 0, none⟩ h.1
theorem FK.below {wr : World} {x0 x1 : Int} {W W' : World} (h : FK wr x0 x1 W) (hb : Below W.heap.size W W') : FK wr x0 x1 W' :=
  ⟨(hb.cell (p := ⟨wr.heap.size, 0, none⟩) h.lt).trans h.1, (hb.cell (p := ⟨wr.heap.size, 1, none⟩) h.lt).trans h.2.1, h.2.2.trans (hb.mono h.2.2.size)⟩
theorem specFmtK_any (wr : World) (x0 x1 n : Int) (W : World) (h : FK wr x0 x1 W) (h0 : -9223372036854775808 ≤ n) (h1 : n ≤ 9223372036854775807) :
    Calls Tryz.prog 19 #[.int .i64 n] W fun e w' => e = .returned (.string (fmtB n)) ∧ FK wr x0 x1 w' ∧ w'.cell? ⟨wr.heap.size, 0, none⟩ = some (.int .i64 x0) ∧ w'.cell? ⟨wr.heap.size, 1, none⟩ = some (.int .i64 x1) :=
  (specFmt_any n W h0 h1).mono fun _ _ ⟨he, hb⟩ => ⟨he, h.below hb, (h.below hb).1, (h.below hb).2.1⟩
theorem implFmtK_any (wr : World) (x0 x1 n : Int) (W : World) (h : FK wr x0 x1 W) (ht : TB wr) (h0 : -9223372036854775808 ≤ n) (h1 : n ≤ 9223372036854775807) :
    Calls Tryz.prog 31 #[.int .i64 n] W fun e w' => e = .returned (.string (fmtB n)) ∧ FK wr x0 x1 w' ∧ w'.cell? ⟨wr.heap.size, 0, none⟩ = some (.int .i64 x0) ∧ w'.cell? ⟨wr.heap.size, 1, none⟩ = some (.int .i64 x1) :=
  (implFmt_any n W h0 h1 (ht.below h.2.2 (Nat.le_refl _))).mono fun _ _ ⟨he, hb⟩ => ⟨he, h.below hb, (h.below hb).1, (h.below hb).2.1⟩

set_option maxRecDepth 100000 in
set_option maxHeartbeats 2000000 in
theorem specFmtP_any (xs : List Pr) (v : Value) (w : World) (hr : RdP w v xs) :
    Calls Tryz.prog 20 #[v] w fun e w' => e = .returned (.string (fmtSteps xs)) ∧ Below w.heap.size w w' := by
  obtain ⟨i0, hi, hz0, hz1, hz2⟩ := info_parts infoString
  obtain ⟨A, c, rfl, HR0⟩ := rdPk hr
  have HR := Lib.hid hr
  have HA := Lib.hid HR0
  have HQ := Lib.hid (show fmtSteps xs = if okP xs then joinB (xs.map fmtStep) ⟨#[44]⟩ else ⟨#[]⟩ from rfl)
  clear hr HR0
  go_enter Tryz.func20, Tryz.ntmps20
  go_wp2_with fail
  refine (specStepsOk_any xs _ _ HR.out).mono ?_
  rintro e w1 ⟨rfl, hb1⟩
  have HB := Lib.hid hb1
  clear hb1
  rcases hok : okP xs with _ | _
  · have HO := Lib.hid hok
    clear hok
    go_wp2
    go_ret
    exact ⟨by rw [HQ.out, HO.out]; rfl, HB.out⟩
  have HO := Lib.hid hok
  have hl1 := (okP_iff.1 hok).1
  have hl8 := (okP_iff.1 hok).2.1
  have HK := Lib.hid (okP_iff.1 hok)
  clear hok
  go_wp2
  go_loopw [3, 12] (fun out i wr => ∃ k : Nat, k ≤ xs.length ∧ i = .int .i64 k ∧ wr.ownsRow w.heap.size 9 1 out k (((xs.take k).map fmtStep).map .string) ∧ Below w.heap.size w wr) (fun _ i _ => xs.length - (intOf i).toNat)
  case atStart => exact ⟨0, Nat.zero_le _, rfl, own_base1 (World.ownsRow_made w1 #[] 0 (Nat.le_refl _) (by decide) rfl) HB.out.size, HB.out.alloc HB.out.size _⟩
  case round =>
    obtain ⟨k, hk, rfl, hown, hbel⟩ := hrel
    by_cases hlt : k < xs.length
    · have hlt' : (k : Int) < (xs.length : Int) := by omega
      obtain ⟨b, o, rfl, hb, hc⟩ := HA.out k hlt
      obtain ⟨cx0, cx1⟩ := hc k hlt
      replace cx0 := (hbel.cell (p := ⟨b, o + k * 2, none⟩) hb).trans cx0
      replace cx1 := (hbel.cell (p := ⟨b, o + k * 2 + 1, none⟩) hb).trans cx1
      have hbw : b < wr.heap.size := by have := hbel.size; omega
      obtain ⟨h0, h1, h2, h3⟩ := okS_at HK.out hlt
      have HS := Lib.hid (show (xs.take (k + 1)).map fmtStep = (xs.take k).map fmtStep ++ [fmtB xs[k].1 ++ ⟨#[58]⟩ ++ fmtB xs[k].2] from map_take_snoc fmtStep hlt)
      have HOW := Lib.hid hown
      have HBW := Lib.hid hbel
      clear hc hown hbel
      generalize xs[k].1 = x0 at *
      generalize xs[k].2 = x1 at *
      have hf0 := fmtB_size x0
      have hf1 := fmtB_size x1
      have hq1 : ¬ 9223372036854775807 < (fmtB x0).size + 1 := by omega
      have hq2 : ¬ 9223372036854775807 < (fmtB x0).size + 1 + (fmtB x1).size := by omega
      have hF0 : FK wr x0 x1 (wr.alloc (.cells #[.int .i64 x0, .int .i64 x1] 105)).drew := FK.start wr x0 x1
      go_wp2
      go_region_law (first
        | (refine step_append_lies _ (by rfl) (.tmp 16) (.tmp 25) 48 (by rfl) w.heap.size 9 i0 (.string ⟨#[]⟩) 1 16 Tryz.underlying48 hi hz0 hz1 hz2 rfl (by decide) _ k (((xs.take k).map fmtStep).map .string) (by rfl) (by exact (own_below HOW.out hF.2.2 (Nat.le_refl _)).alloc _) ⟨w2.heap.size, 0, none⟩ 1 1 [.string (fmtB x0 ++ ⟨#[58]⟩ ++ fmtB x1)] (by rfl) (by rfl) (by exact new_cell _ _ _) (by simp [Value.oneCell']) (by decide) (by unfold maxLen; omega) (by omega) (by have := HBW.out.size; have := hF.2.2.size; simp; omega) (w2.heap.size + 1) (by simp) ?_; intro g' c' w4 hown4 hg4 _ _)
        | (go_simp; go_at_call 19; refine (specFmtK_any wr x0 x1 _ _ (by assumption) (by omega) (by omega)).mono ?_; rintro e w2 ⟨rfl, hF, cb0, cb1⟩))
      all_goals
        have R : Hid (w4.ownsRow w.heap.size 9 1 (.slice (some ⟨g', 0, none⟩) (k + 1) c') (k + 1) (((xs.take (k + 1)).map fmtStep).map .string) ∧ Below w.heap.size w w4) := by
          rw [HS.out, map_snoc]
          exact Lib.hid ⟨hown4, step_grown HBW.out HOW.out (hF.2.2.alloc hF.2.2.size _) hg4⟩
        clear hown4 hg4 hF
        go_wp2
        go_roundw
        case rel => exact ⟨k + 1, by omega, by go_num, R.out.1, R.out.2⟩
        case measure => simp [intOf]; omega
    · have hge : ¬ (k : Int) < (xs.length : Int) := by omega
      obtain rfl : k = xs.length := by omega
      rw [List.take_length] at hown
      have HRD := Lib.hid (own_rd hown (by unfold maxLen; omega))
      have HT := Lib.hid (fmtSteps_tot xs)
      have HLM := Lib.hid (show (xs.map fmtStep).length = xs.length from by simp)
      clear hown
      go_wp2_with fail
      refine (specJoin_any (xs.map fmtStep) ⟨#[44]⟩ _ _ HRD.out (by have := HT.out; omega) (by rw [HLM.out]; omega) (by decide)).mono ?_
      rintro e w' ⟨rfl, rfl⟩
      go_wp2
      go_ret
      exact ⟨by rw [HQ.out, HO.out]; rfl, hbel⟩

def mkT (xs : List Pr) (i : Nat) : Value := .string (fmtStep (xs.getD i (0, 0)))
theorem mkT_all (xs : List Pr) : (List.range xs.length).map (mkT xs) = (xs.map fmtStep).map .string := by
  apply List.ext_getElem
  · simp
  · intro i h1 h2
    simp at h1 h2
    simp [mkT, List.getD, List.getElem?_eq_getElem h2]
theorem mkT_at {xs : List Pr} {k : Nat} (h : k < xs.length) : mkT xs k = .string (fmtB xs[k].1 ++ ⟨#[58]⟩ ++ fmtB xs[k].2) := by
  simp only [mkT, List.getD, List.getElem?_eq_getElem h, Option.getD_some]; rfl
/-- joinAll of the two numbers of a step. -/
theorem joinTwo_any (f0 f1 : ByteArray) (g : Nat) (W : World) (hb : g < W.heap.size) (h0 : W.cell? ⟨g, 0, none⟩ = some (.string f0)) (h1 : W.cell? ⟨g, 1, none⟩ = some (.string f1)) (hs0 : f0.size ≤ 100) (hs1 : f1.size ≤ 100) :
    Calls Tryz.prog 30 #[.string ⟨#[58]⟩, .slice (some ⟨g, 0, none⟩) 2 2] W fun e w' => e = .returned (.string (f0 ++ ⟨#[58]⟩ ++ f1)) ∧ Below W.heap.size W w' := by
  have hrd : Rd W (.slice (some ⟨g, 0, none⟩) 2 2) ([f0, f1].map .string) := by
    refine ⟨by simp [maxLen], _, _, rfl, .inr ⟨g, 0, rfl, hb, fun j hj => ?_⟩⟩
    match j, hj with
    | 0, _ => simpa using h0
    | 1, _ => simpa using h1
  refine (joinAll_any [f0, f1] ⟨#[58]⟩ _ W hrd (by simp [tot]; omega) (by simp) (by decide)).mono ?_
  rintro e w' ⟨rfl, hb2⟩
  refine ⟨?_, hb2⟩
  rw [show [f0, f1] = [f0] ++ [f1] from rfl, join_snoc _ _ _ (by simp), join_one]

set_option maxRecDepth 100000 in
set_option maxHeartbeats 2000000 in
theorem implFmtP_any (xs : List Pr) (v : Value) (w : World) (hr : RdP w v xs) (ht : TB w) :
    Calls Tryz.prog 78 #[v] w fun e w' => e = .returned (.string (fmtSteps xs)) ∧ Below w.heap.size w w' := by
  obtain ⟨i0, hi, hz0, hz1, hz2⟩ := info_parts infoString
  obtain ⟨A, c, rfl, HR0⟩ := rdPk hr
  have HR := Lib.hid hr
  have HA := Lib.hid HR0
  have HTB := Lib.hid ht
  have HQ := Lib.hid (show fmtSteps xs = if okP xs then joinB (xs.map fmtStep) ⟨#[44]⟩ else ⟨#[]⟩ from rfl)
  clear hr HR0 ht
  go_enter Tryz.func78, Tryz.ntmps78
  go_wp2_with fail
  refine (implStepsOk_any xs _ _ HR.out).mono ?_
  rintro e w1 ⟨rfl, hb1⟩
  have HB := Lib.hid hb1
  clear hb1
  rcases hok : okP xs with _ | _
  · have HO := Lib.hid hok
    clear hok
    go_wp2
    go_ret
    exact ⟨by rw [HQ.out, HO.out]; rfl, HB.out⟩
  have HO := Lib.hid hok
  have hl1 := (okP_iff.1 hok).1
  have hl8 := (okP_iff.1 hok).2.1
  have HK := Lib.hid (okP_iff.1 hok)
  clear hok
  go_wp2_with (at_make; refine wpList_make_full _ rfl _ _ 48 rfl w1.heap.size 9 i0 (.string ⟨#[]⟩) 1 Tryz.underlying48 hi hz0 hz1 .i64 .i64 _ _ xs.length rfl rfl rfl rfl (by rw [hz2]; omega) (by unfold maxLen; omega) (Nat.le_refl _) ?_; intro w2 hown2 hgrow2)
  have hbel2 : Below w.heap.size w w2 := HB.out.trans (((Below.refl _ _).grown hgrow2 (Nat.le_refl _) (by simp)).mono HB.out.size)
  have hm := own_len hown2
  generalize hms : (madeCells (Value.string ⟨#[]⟩).cells (xs.length * 1)).toList = ms at hown2 hm
  have HM := Lib.hid hm
  have HO2 := Lib.hid (own_base1 hown2 HB.out.size)
  have hsz1 := HB.out.size
  clear hm hms hgrow2 hown2
  go_loopw [14] (fun i wr => ∃ k : Nat, k ≤ xs.length ∧ i = .int .i64 k ∧ wr.ownsRow w.heap.size 9 1 (.slice (some ⟨w1.heap.size, 0, none⟩) xs.length xs.length) xs.length (mix (mkT xs) ms k) ∧ Below w.heap.size w wr) (fun i _ => xs.length - (intOf i).toNat)
  case atStart => exact ⟨0, Nat.zero_le _, rfl, by rw [mix_zero]; exact HO2.out, hbel2⟩
  case round =>
    obtain ⟨k, hk, rfl, hown, hbel⟩ := hrel
    by_cases hlt : k < xs.length
    · have hlt' : (k : Int) < (xs.length : Int) := by omega
      obtain ⟨b, o, rfl, hb, hc⟩ := HA.out k hlt
      obtain ⟨cx0, cx1⟩ := hc k hlt
      replace cx0 := (hbel.cell (p := ⟨b, o + k * 2, none⟩) hb).trans cx0
      replace cx1 := (hbel.cell (p := ⟨b, o + k * 2 + 1, none⟩) hb).trans cx1
      have hbw : b < wr.heap.size := by have := hbel.size; omega
      obtain ⟨h0, h1, h2, h3⟩ := okS_at HK.out hlt
      have HS := Lib.hid (mkT_at hlt)
      have hmk : (mix (mkT xs) ms k).length = xs.length := by rw [mix_len _ _ (by have := HM.out; omega)]; exact HM.out
      have HMS := Lib.hid (mix_set (mk := mkT xs) (xs := ms) (j := k) (by have := HM.out; omega))
      obtain ⟨z, hz⟩ : ∃ z, (mix (mkT xs) ms k)[k]? = some z := ⟨_, List.getElem?_eq_getElem (by omega)⟩
      have HKE := Lib.hid (show ∀ W4 : World, Below wr.heap.size wr W4 → W4.cell? ⟨w1.heap.size, k, none⟩ = some z ∧ W4.frozen? ⟨w1.heap.size, k, none⟩ = false ∧ W4.ownsRow w.heap.size 9 1 (.slice (some ⟨w1.heap.size, 0, none⟩) xs.length xs.length) xs.length (mix (mkT xs) ms k) from fun W4 h => by
        have ho4 := own_below hown h (Nat.le_refl _)
        exact ⟨by rw [ho4.cellAt k (by omega), hz], ho4.frozenAt k, ho4⟩)
      clear hz hmk
      have HOW := Lib.hid hown
      have HBW := Lib.hid hbel
      have HTW := Lib.hid (HTB.out.below hbel (Nat.le_refl _))
      clear hc hown hbel
      generalize xs[k].1 = x0 at *
      generalize xs[k].2 = x1 at *
      have hf0 := fmtB_size x0
      have hf1 := fmtB_size x1
      have hF0 : FK wr x0 x1 (wr.alloc (.cells #[.int .i64 x0, .int .i64 x1] 105)).drew := FK.start wr x0 x1
      go_wp2
      go_region_with (first
        | (go_at_call 31; refine (implFmtK_any wr x0 x1 _ _ (by assumption) HTW.out (by omega) (by omega)).mono ?_; rintro e w3 ⟨rfl, hF, cb0, cb1⟩)
        | (go_at_call 30; refine (joinTwo_any (fmtB x0) (fmtB x1) _ _ (by simp) (by exact newP0 _ _ _ _ rfl) (by exact newP1 _ _ _ _ rfl) (by omega) (by omega)).mono ?_; rintro e w4 ⟨rfl, hb4⟩; obtain ⟨hc4, hf4, ho4⟩ := HKE.out w4 ((hF.2.2.alloc hF.2.2.size _).trans (hb4.mono (by have := hF.2.2.size; simp; omega)))))
      all_goals
        obtain ⟨hs1, _⟩ := ho4.stored k (mkT xs k)
        rw [HMS.out, HS.out] at hs1
        have H1 := Lib.hid hs1
        have H2 := Lib.hid ((HBW.out.trans (((hF.2.2.alloc hF.2.2.size _).trans (hb4.mono (by have := hF.2.2.size; simp; omega))).mono HBW.out.size)).setCell (p := ⟨w1.heap.size, k, none⟩) hsz1 (.string (fmtB x0 ++ ⟨#[58]⟩ ++ fmtB x1)))
        clear hs1 hF ho4 hb4
        go_wp2
        go_roundw
        case rel => exact ⟨k + 1, by omega, by go_num, H1.out, H2.out⟩
        case measure => simp [intOf]; omega
    · have hge : ¬ (k : Int) < (xs.length : Int) := by omega
      obtain rfl : k = xs.length := by omega
      rw [mix_full _ _ HM.out, mkT_all] at hown
      have HRD := Lib.hid (own_rd hown (by unfold maxLen; omega))
      have HT := Lib.hid (fmtSteps_tot xs)
      have HLM := Lib.hid (show (xs.map fmtStep).length = xs.length from by simp)
      clear hown
      go_wp2_with fail
      refine (joinAll_any (xs.map fmtStep) ⟨#[44]⟩ _ _ HRD.out (by have := HT.out; omega) (by rw [HLM.out]; omega) (by decide)).mono ?_
      rintro e w' ⟨rfl, hb5⟩
      have H5 := Lib.hid (hbel.trans (hb5.mono hbel.size))
      clear hb5
      go_wp2
      go_ret
      exact ⟨by rw [HQ.out, HO.out]; rfl, H5.out⟩
end Go.Proofs.YtlcmnmobfhajdabGreatDoor
