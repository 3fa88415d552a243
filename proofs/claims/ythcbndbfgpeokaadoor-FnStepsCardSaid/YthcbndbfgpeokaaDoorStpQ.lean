/- DERIVED. CONTRACTS: impl.ParseSteps, spec.ParseSteps. -/
import Derived.Test.YthcbndbfgpeokaaDoorStpP
namespace Go.Proofs.YthcbndbfgpeokaaDoor
open Go.RowKit

theorem psI_ok {x : ByteArray} (h : (psI x).2 = true) : stTwo x = true ∧ stOk x = true ∧ (psI x).1 = stN x := by
  unfold psI at h ⊢
  split at h
  · rename_i hh
    rw [Bool.and_eq_true] at hh
    exact ⟨hh.1, hh.2, by rw [if_pos (by rw [hh.1, hh.2]; rfl)]⟩
  · cases h
theorem psI_no {x : ByteArray} (h : (psI x).2 = false) : ¬ (stTwo x = true ∧ stOk x = true) := by
  rintro ⟨h1, h2⟩
  unfold psI at h
  rw [h1, h2] at h
  cases h
theorem parI_bad (s : ByteArray) (k : Nat) (hk : k < (stepParts s).length) (h : ¬ (stTwo (stepParts s)[k] = true ∧ stOk (stepParts s)[k] = true)) : parSteps s = ([], false) := by
  rw [← par_agree]
  unfold parStepsI
  rw [if_neg (fun hh => h (hh.1 _ (List.getElem_mem hk)))]
theorem parI_end {s : ByteArray} (h : ∀ j, (hj : j < (stepParts s).length) → stTwo (stepParts s)[j] = true ∧ stOk (stepParts s)[j] = true) : parSteps s = if okP ((stepParts s).map stN) then ((stepParts s).map stN, true) else ([], false) := by
  rw [← par_agree]
  unfold parStepsI
  have hall : ∀ x ∈ stepParts s, stTwo x = true ∧ stOk x = true := fun x hx => by
    obtain ⟨j, hj, rfl⟩ := List.getElem_of_mem hx
    exact h j hj
  by_cases hok : okP ((stepParts s).map stN) = true
  · rw [if_pos ⟨hall, hok⟩, if_pos hok]
  · rw [if_neg (fun hh => hok hh.2), if_neg hok]

set_option maxRecDepth 100000 in
set_option maxHeartbeats 2000000 in
theorem implParP_any (s : ByteArray) (w : World) (hs : s.size ≤ 1048576) (ht : TB w) :
    Calls Tryd.prog 10 #[.string s] w fun e w' => ∃ v', e = .returned (.tuple #[v', .bool (parSteps s).2]) ∧ w'.ownsRow w.heap.size 52 2 v' (parSteps s).1.length (cellsP (parSteps s).1) ∧ Below w.heap.size w w' := by
  have HTB := Lib.hid ht
  have hno : parSteps s = ([], false) → ∀ W : World, W.ownsRow w.heap.size 52 2 (.slice none 0 0) (parSteps s).1.length (cellsP (parSteps s).1) := fun h W => by rw [h]; exact World.ownsRow_nil _ _ _ _
  have HNO := Lib.hid hno
  clear ht hno
  go_enter Tryd.func10, Tryd.ntmps10
  go_wp2_with fail
  refine (implSplitAny_any s ⟨#[44]⟩ _ (by omega)).mono ?_
  rintro e w1 ⟨v1, rfl, ho1, hb1⟩
  have HB := Lib.hid hb1
  have hlen := splitB_len s ⟨#[44]⟩
  have hsz := split_sizes s ⟨#[44]⟩
  obtain ⟨_, A, c, rfl, ha⟩ := own_rd ho1 (by unfold maxLen; omega)
  have HBAD := Lib.hid (parI_bad s)
  have HEND := Lib.hid (@parI_end s)
  simp only [List.length_map] at ha ⊢
  rw [show stepParts s = splitB s ⟨#[44]⟩ from rfl] at HBAD HEND
  generalize splitB s ⟨#[44]⟩ = ps at *
  rcases ha with ha | ⟨b, o, rfl, hb, hc⟩
  · have : ps = [] := by simpa using ha
    subst this
    simp at hlen
  have HC := Lib.hid hc
  have HSZ := Lib.hid hsz
  clear hc hsz ho1 hb1
  have hsz1 := HB.out.size
  go_wp2
  go_loopw [4, 12] (fun out i wr => ∃ k : Nat, k ≤ ps.length ∧ i = .int .i64 k ∧ wr.ownsRow w1.heap.size 52 2 out ((ps.take k).map stN).length (cellsP ((ps.take k).map stN)) ∧ Below w1.heap.size w1 wr ∧ ∀ j, (hj : j < ps.length) → j < k → stTwo ps[j] = true ∧ stOk ps[j] = true) (fun _ i _ => ps.length - (intOf i).toNat)
  case atStart => exact ⟨0, Nat.zero_le _, rfl, World.ownsRow_nil _ _ _ _, Below.refl _ _, fun j _ h => absurd h (by omega)⟩
  case round =>
    obtain ⟨k, hk, rfl, hown, hbel, hall⟩ := hrel
    by_cases hlt : k < ps.length
    · have hlt' : (k : Int) < (ps.length : Int) := by omega
      have cx : wr.cell? ⟨b, o + k, none⟩ = some (.string ps[k]) := by rw [hbel.cell (p := ⟨b, o + k, none⟩) hb]; have := HC.out k (by simpa using hlt); simpa using this
      have hps := HSZ.out ps[k] (List.getElem_mem hlt)
      have hlz : ((ps.take k).map stN).length ≤ 2000000 := by simp; omega
      have HS := Lib.hid (show (ps.take (k + 1)).map stN = (ps.take k).map stN ++ [stN ps[k]] from map_take_snoc stN hlt)
      have HALL := Lib.hid hall
      have HOW := Lib.hid hown
      have HBW := Lib.hid hbel
      have HT := Lib.hid (HTB.out.below (HB.out.trans (hbel.mono HB.out.size)) (Nat.le_refl _))
      clear hall hown hbel
      go_wp2_with fail
      refine (parseStep_any ps[k] _ (by omega) HT.out).mono ?_
      rintro e w2 ⟨rfl, hb2⟩
      have HB2 := Lib.hid hb2
      clear hb2
      rcases hok : (psI ps[k]).2 with _ | _
      · have HF := Lib.hid (HBAD.out k hlt (psI_no hok))
        clear hok
        generalize (psI ps[k]).1.1 = y0
        generalize (psI ps[k]).1.2 = y1
        go_wp2
        go_ret2
        exact ⟨_, by rw [HF.out]; rfl, HNO.out HF.out _, HB.out.trans (((HBW.out.trans (HB2.out.mono HBW.out.size)).alloc (Nat.le_trans HBW.out.size HB2.out.size) _).mono HB.out.size)⟩
      · obtain ⟨t1, t2, t3⟩ := psI_ok hok
        have HALL2 := Lib.hid (show ∀ j, (hj : j < ps.length) → j < k + 1 → stTwo ps[j] = true ∧ stOk ps[j] = true from fun j hj hjk => by
          by_cases e : j = k
          · subst e; exact ⟨t1, t2⟩
          · exact HALL.out j hj (by omega))
        rw [t3]
        clear hok t1 t2 t3
        have hown := own_below HOW.out HB2.out (Nat.le_refl _)
        have HBx := Lib.hid (HBW.out.trans (HB2.out.mono HBW.out.size))
        generalize (ps.take k).map stN = zs at *
        generalize stN ps[k] = q at *
        obtain ⟨y0, y1⟩ := q
        go_wp2_with (at_builtin; refine appP1 rfl (.tmp 23) (.tmp 25) 23 rfl rfl w1.heap.size _ _ zs (y0, y1) rfl rfl (by exact own_below hown (((Below.refl _ _).alloc (Nat.le_refl _) _).alloc (by simp) _) (Nat.le_refl _)) (by exact newP0 _ _ _ _ (by simp)) (by exact newP1 _ _ _ _ (by simp)) (by omega) (by have := HBx.out.size; simp; omega) ?_; intro v2 w5 hown2 hg2; have S2 := Lib.hid (And.intro hown2 (step_grown HBx.out hown (((Below.refl _ _).alloc (Nat.le_refl _) _).alloc (by simp) _) hg2)); rw [← HS.out] at S2; clear hown2 hg2 hown)
        go_roundw
        case rel => exact ⟨k + 1, by omega, by go_num, S2.out.1, S2.out.2, HALL2.out⟩
        case measure => simp [intOf]; omega
    · have hge : ¬ (k : Int) < (ps.length : Int) := by omega
      obtain rfl : k = ps.length := by omega
      have HE := Lib.hid (HEND.out (fun j hj => hall j hj hj))
      rw [List.take_length] at hown
      have hlz : (ps.map stN).length ≤ 2000000 := by simp; omega
      have HOW := Lib.hid hown
      have HBW := Lib.hid (HB.out.trans (hbel.mono HB.out.size))
      clear hall hown hbel
      generalize ps.map stN = zs at *
      go_wp2_with fail
      refine (implStepsOk_any zs _ _ (own_rdP HOW.out (by unfold maxLen; omega))).mono ?_
      rintro e w2 ⟨rfl, hb2⟩
      have H2 := Lib.hid (And.intro (own_base1 (own_below HOW.out hb2 (Nat.le_refl _)) hsz1) (HBW.out.trans (hb2.mono HBW.out.size)))
      clear hb2
      rcases hok : okP zs with _ | _
      · have HF := Lib.hid (show parSteps s = ([], false) from by rw [HE.out, hok]; rfl)
        clear hok
        go_wp2
        go_ret2
        exact ⟨_, by rw [HF.out]; rfl, HNO.out HF.out _, H2.out.2⟩
      · have HF := Lib.hid (show parSteps s = (zs, true) from by rw [HE.out, hok]; rfl)
        clear hok
        go_wp2
        go_ret2
        exact ⟨_, by rw [HF.out]; rfl, by rw [HF.out]; exact H2.out.1, H2.out.2⟩

theorem parS_bad (s : ByteArray) (k : Nat) (hk : k < (stepParts s).length) (h : stOk (stepParts s)[k] = false) : parSteps s = ([], false) := by
  unfold parSteps
  rw [if_neg (fun hh => by have := hh.1 _ (List.getElem_mem hk); rw [h] at this; cases this)]
theorem parS_end {s : ByteArray} (h : ∀ j, (hj : j < (stepParts s).length) → stOk (stepParts s)[j] = true) :
    (fmtSteps ((stepParts s).map stN) = s → parSteps s = ((stepParts s).map stN, true)) ∧ (fmtSteps ((stepParts s).map stN) ≠ s → parSteps s = ([], false)) := by
  have hall : ∀ x ∈ stepParts s, stOk x = true := fun x hx => by
    obtain ⟨j, hj, rfl⟩ := List.getElem_of_mem hx
    exact h j hj
  unfold parSteps
  exact ⟨fun e => by rw [if_pos ⟨hall, e⟩], fun e => by rw [if_neg (fun hh => e hh.2)]⟩
theorem ends_len (x : ByteArray) : 2 ≤ (ends x).length ∧ (ends x).length ≤ x.size + 2 := by
  have := splitB_len x colon
  simp [ends]; omega
theorem ends_size (x : ByteArray) : ∀ p ∈ ends x, p.size ≤ x.size := by
  intro p hp
  unfold ends at hp
  rcases List.mem_append.1 hp with hp | hp
  · exact split_sizes x colon p hp
  · simp at hp; subst hp; show 0 ≤ _; omega
theorem stN_at (x : ByteArray) (h0 : 0 < (ends x).length) (h1 : 1 < (ends x).length) : stN x = ((parseB (ends x)[0]).1, (parseB (ends x)[1]).1) ∧ stOk x = ((parseB (ends x)[0]).2 && (parseB (ends x)[1]).2) := by
  unfold stN stOk
  simp [List.getD, List.getElem?_eq_getElem h0, List.getElem?_eq_getElem h1]

set_option maxRecDepth 100000 in
set_option maxHeartbeats 2000000 in
theorem specParP_any (s : ByteArray) (w : World) (hs : s.size ≤ 1048576) :
    Calls Tryd.prog 21 #[.string s] w fun e w' => ∃ v', e = .returned (.tuple #[v', .bool (parSteps s).2]) ∧ w'.ownsRow w.heap.size 52 2 v' (parSteps s).1.length (cellsP (parSteps s).1) ∧ Below w.heap.size w w' := by
  obtain ⟨i0, hi, hz0, hz1, hz2⟩ := info_parts infoString
  have hno : parSteps s = ([], false) → ∀ W : World, W.ownsRow w.heap.size 52 2 (.slice none 0 0) (parSteps s).1.length (cellsP (parSteps s).1) := fun h W => by rw [h]; exact World.ownsRow_nil _ _ _ _
  have HNO := Lib.hid hno
  clear hno
  go_enter Tryd.func21, Tryd.ntmps21
  go_wp2_with fail
  refine (specSplitAny_any s ⟨#[44]⟩ _ (by omega) (by simp [maxLen, ByteArray.size])).mono ?_
  rintro e w1 ⟨v1, rfl, ho1, hb1⟩
  have hb1' : Below w.heap.size w w1 := ((Below.refl _ w).alloc (Nat.le_refl _) (.cells #[] 52)).trans (hb1.mono (by simp))
  have HO0 := Lib.hid (And.intro (own_below (madeP0 w) hb1 (Nat.le_refl _)) (And.intro (own_base1 ho1 (show w.heap.size ≤ (w.alloc (.cells #[] 52)).heap.size from by simp)) hb1'))
  have hlen := splitB_len s ⟨#[44]⟩
  have HSZ := Lib.hid (split_sizes s ⟨#[44]⟩)
  have HBAD := Lib.hid (parS_bad s)
  have HEND := Lib.hid (@parS_end s)
  rcases ho1.2 with ⟨rfl, h0⟩ | ⟨g, cap, cur, rfl, hg, hgh, hnc, hcm, hcs, htake⟩
  · omega
  rw [show stepParts s = splitB s ⟨#[44]⟩ from rfl] at HBAD HEND
  clear hgh hcs htake ho1 hb1 hb1'
  generalize splitB s ⟨#[44]⟩ = ps at *
  go_wp2
  go_loopw [4, 16] (fun out i wr => ∃ k : Nat, k ≤ ps.length ∧ i = .int .i64 k ∧ (wr.ownsRow w.heap.size 52 2 out ((ps.take k).map stN).length (cellsP ((ps.take k).map stN)) ∧ wr.ownsRow w.heap.size 9 1 (.slice (some ⟨g, 0, none⟩) ps.length cap) ps.length (ps.map .string) ∧ Below w.heap.size w wr) ∧ ∀ j, (hj : j < ps.length) → j < k → stOk ps[j] = true) (fun _ i _ => ps.length - (intOf i).toNat)
  case atStart => exact ⟨0, Nat.zero_le _, rfl, HO0.out, fun j _ h => absurd h (by omega)⟩
  case round =>
    obtain ⟨k, hk, rfl, hrows, hall⟩ := hrel
    by_cases hlt : k < ps.length
    · have hlt' : (k : Int) < (ps.length : Int) := by omega
      have cx : wr.cell? ⟨g, k, none⟩ = some (.string ps[k]) := by rw [hrows.2.1.cellAt k (by omega)]; simp [hlt]
      have hps := HSZ.out ps[k] (List.getElem_mem hlt)
      have hlz : ((ps.take k).map stN).length ≤ 2000000 := by simp; omega
      have HS := Lib.hid (show (ps.take (k + 1)).map stN = (ps.take k).map stN ++ [stN ps[k]] from map_take_snoc stN hlt)
      have HALL := Lib.hid hall
      have HOW := Lib.hid hrows
      clear hall hrows
      go_wp2_with fail
      refine (specSplitAny_any ps[k] ⟨#[58]⟩ _ (by omega) (by simp [maxLen, ByteArray.size])).mono ?_
      rintro e w2 ⟨vs, rfl, hos, hbs⟩
      have hsl := splitB_len ps[k] colon
      have hel := ends_len ps[k]
      have hez := ends_size ps[k]
      obtain ⟨hst1, hst2⟩ := stN_at ps[k] (by omega) (by omega)
      have HBK := Lib.hid (HBAD.out k hlt)
      have HSK := Lib.hid (fun (h : stOk ps[k] = true) => show ∀ j, (hj : j < ps.length) → j < k + 1 → stOk ps[j] = true from fun j hj hjk => by
          by_cases e : j = k
          · subst e; exact h
          · exact HALL.out j hj (by omega))
      have hend : ends ps[k] = splitB ps[k] ⟨#[58]⟩ ++ [⟨#[]⟩] := rfl
      rw [show splitB ps[k] colon = splitB ps[k] ⟨#[58]⟩ from rfl] at hsl
      generalize splitB ps[k] ⟨#[58]⟩ = qs at *
      obtain ⟨e0, he0⟩ : ∃ e0, (ends ps[k])[0]'(by omega) = e0 := ⟨_, rfl⟩
      obtain ⟨e1, he1⟩ : ∃ e1, (ends ps[k])[1]'(by omega) = e1 := ⟨_, rfl⟩
      have h0s : e0.size ≤ ps[k].size := by rw [← he0]; exact hez _ (List.getElem_mem _)
      have h1s : e1.size ≤ ps[k].size := by rw [← he1]; exact hez _ (List.getElem_mem _)
      have HTWO := Lib.hid (show ∀ (W : World) (g c : Nat), W.ownsRow wr.heap.size 9 1 (.slice (some ⟨g, 0, none⟩) (qs.length + 1) c) (qs.length + 1) (qs.map .string ++ [.string ⟨#[]⟩]) → W.cell? ⟨g, 0, none⟩ = some (.string e0) ∧ W.cell? ⟨g, 1, none⟩ = some (.string e1) ∧ g < W.heap.size from fun W g c h => by
        have hm : qs.map Value.string ++ [.string ⟨#[]⟩] = (ends ps[k]).map .string := by rw [hend]; simp
        rw [hm] at h
        refine ⟨?_, ?_, (h.lt g rfl).2⟩
        · rw [h.cellAt 0 (by omega), List.getElem?_map, List.getElem?_eq_getElem (by omega), he0]; rfl
        · rw [h.cellAt 1 (by omega), List.getElem?_map, List.getElem?_eq_getElem (by omega), he1]; rfl)
      rw [he0, he1] at hst1 hst2
      have HS1 := Lib.hid hst1
      have HS2 := Lib.hid hst2
      clear hend hez hel he0 he1 hst1 hst2
      have hszw := hbs.size
      go_wp2_with (at_builtin; refine wpList_append_own _ rfl (.tmp 21) (.tmp 22) 53 rfl wr.heap.size 9 i0 (.string ⟨#[]⟩) 1 16 Tryd.underlying53 hi hz0 hz1 hz2 rfl (by decide) _ qs.length (qs.map .string) rfl (by exact hos.alloc _) ⟨w2.heap.size, 0, none⟩ 1 1 [.string ⟨#[]⟩] rfl rfl (by exact new_cell _ _ _) (by simp [Value.oneCell']) (by unfold maxLen; omega) (by omega) (by simp; omega) ?_; intro v3 w3 hown3 hg3 _; have H3 := Lib.hid (step_grown hbs hos ((Below.refl _ _).alloc (Nat.le_refl _) _) hg3); obtain ⟨g3, c3, rfl⟩ := ownsRow_succ hown3; obtain ⟨cc0, cc1, hg3l⟩ := HTWO.out w3 g3 c3 hown3; clear hown3 hg3)
      refine (specParse_any e0 _ (by unfold maxLen; omega)).mono ?_
      rintro e w4 ⟨he4, hb4⟩
      unfold ParRes at he4
      subst he4
      have cc1' := (hb4.cell (p := ⟨g3, 1, none⟩) hg3l).trans cc1
      have H4 := Lib.hid (H3.out.trans (hb4.mono H3.out.size))
      clear hb4 cc0 cc1
      generalize parseB e0 = r0 at *
      obtain ⟨z0, k0⟩ := r0
      go_wp2_with fail
      refine (specParse_any e1 _ (by unfold maxLen; omega)).mono ?_
      rintro e w5 ⟨he5, hb5⟩
      unfold ParRes at he5
      subst he5
      have hb45 := H4.out.trans (hb5.mono H4.out.size)
      have H5 := Lib.hid (And.intro (own_below HOW.out.1 hb45 (Nat.le_refl _)) (And.intro (own_below HOW.out.2.1 hb45 (Nat.le_refl _)) (HOW.out.2.2.trans (hb45.mono HOW.out.2.2.size))))
      clear hb5 hb45 cc1'
      generalize parseB e1 = r1 at *
      obtain ⟨z1, k1⟩ := r1
      cases k0
      · have HF := Lib.hid (HBK.out (by rw [HS2.out]; rfl))
        go_wp2
        go_ret2
        exact ⟨_, by rw [HF.out]; rfl, HNO.out HF.out _, H5.out.2.2⟩
      · cases k1
        · have HF := Lib.hid (HBK.out (by rw [HS2.out]; rfl))
          go_wp2
          go_ret2
          exact ⟨_, by rw [HF.out]; rfl, HNO.out HF.out _, H5.out.2.2⟩
        · have HALL2 := Lib.hid (HSK.out (by rw [HS2.out]; rfl))
          rw [show stN ps[k] = (z0, z1) from HS1.out] at HS
          generalize (ps.take k).map stN = zs at *
          go_wp2_with (at_builtin; refine appP1 rfl (.tmp 44) (.tmp 48) 23 rfl rfl w.heap.size _ _ zs (z0, z1) rfl rfl (by exact H5.out.1.alloc _) (by exact newP0 _ _ _ _ rfl) (by exact newP1 _ _ _ _ rfl) (by omega) (by have := H5.out.2.2.size; simp; omega) ?_; intro v9 w9 hown9 hg9; have S2 := Lib.hid (And.intro hown9 (And.intro (own_grown (H5.out.2.1.alloc _) hg9 (fun k hk => .inr (own_ne H5.out.1 H5.out.2.1 (by decide) k hk))) (step_grown H5.out.2.2 H5.out.1 ((Below.refl _ _).alloc (Nat.le_refl _) _) hg9))); rw [← HS.out] at S2; clear hown9 hg9)
          go_roundw
          case rel => exact ⟨k + 1, by omega, by go_num, S2.out, HALL2.out⟩
          case measure => simp [intOf]; omega
    · have hge : ¬ (k : Int) < (ps.length : Int) := by omega
      obtain rfl : k = ps.length := by omega
      obtain ⟨hE1, hE2⟩ := HEND.out (fun j hj => hall j hj hj)
      rw [List.take_length] at hrows
      have hlz : (ps.map stN).length ≤ 2000000 := by simp; omega
      have HE1 := Lib.hid hE1
      have HE2 := Lib.hid hE2
      have HOW := Lib.hid hrows
      clear hall hrows hE1 hE2
      generalize ps.map stN = zs at *
      go_wp2_with fail
      refine (specFmtP_any zs _ _ (own_rdP HOW.out.1 (by unfold maxLen; omega))).mono ?_
      rintro e w2 ⟨rfl, hb2⟩
      have H2 := Lib.hid (And.intro (own_below HOW.out.1 hb2 (Nat.le_refl _)) (HOW.out.2.2.trans (hb2.mono HOW.out.2.2.size)))
      clear hb2
      by_cases he : fmtSteps zs = s
      · have HF := Lib.hid (HE1.out he)
        rw [he]
        clear he
        go_wp2
        go_ret2
        exact ⟨_, by rw [HF.out]; rfl, by rw [HF.out]; exact H2.out.1, H2.out.2⟩
      · have HF := Lib.hid (HE2.out he)
        have hn1 := str_ne he
        have hn2 : ((fmtSteps zs).toList != s.toList) = true := by simp [bne, hn1]
        clear he
        generalize fmtSteps zs = fz at *
        go_wp2
        go_ret2
        exact ⟨_, by rw [HF.out]; rfl, HNO.out HF.out _, H2.out.2⟩
end Go.Proofs.YthcbndbfgpeokaaDoor
