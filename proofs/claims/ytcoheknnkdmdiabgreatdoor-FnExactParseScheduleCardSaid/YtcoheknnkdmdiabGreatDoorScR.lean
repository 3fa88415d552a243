/- DERIVED. CONTRACTS of chapter 10: ParseSchedule of the program. -/
import Derived.Test.YtcoheknnkdmdiabGreatDoorScQ
import Derived.Test.YtcoheknnkdmdiabGreatDoorSplit
import Derived.Test.YtcoheknnkdmdiabGreatDoorPar
import Derived.Laws.CopyOwn
namespace Go.Proofs.YtcoheknnkdmdiabGreatDoor
open Go.RowKit Go.Shelf
set_option linter.unusedVariables false

set_option maxRecDepth 100000 in
set_option maxHeartbeats 8000000 in
theorem parseStart_any (y : ByteArray) (w : World) (hy : y.size ≤ 1048576) (ht : TB w) :
    Calls Tryz.prog 39 #[.string y] w fun e w' => (∃ a b, e = .returned (.tuple #[.int .i64 a, .int .i64 b, .bool (wordOk y)]) ∧ (wordOk y = true → a = stP y ∧ b = moP y)) ∧ Below w.heap.size w w' := by
  have HT := Lib.hid ht
  clear ht
  go_enter Tryz.func39, Tryz.ntmps39
  go_wp2_with fail
  refine (implSplitAny_any y sep2 _ (by omega)).mono ?_
  rintro e w1 ⟨v, rfl, ho, b⟩
  obtain ⟨_, V, cv, rfl, HV⟩ := (show Rd w1 v ((splitB y sep2).map .string) from rd_flat (Tr.own_rd _ _ _ (flat_own (by simpa using ho)).1))
  rw [List.length_map]
  clear ho
  by_cases h3 : (splitB y sep2).length = 3
  rotate_left
  · have HB := Lib.hid (wordOk_len h3)
    have h3' : ¬ ((splitB y sep2).length : Int) = 3 := by omega
    go_wp2
    refine bodyPost_ret (v := .tuple #[.int .i64 0, .int .i64 0, .bool false]) (by simp [results, Tryz.results39, go_sem]) rfl ?_
    exact ⟨⟨0, 0, by rw [HB.out], fun h => absurd (HB.out.symm.trans h) (by simp)⟩, b⟩
  have HV2 := Lib.hid (show ∃ bb o, V = some ⟨bb, o, none⟩ ∧ bb < w1.heap.size ∧ w1.cell? ⟨bb, o + 1, none⟩ = some (.string (pt y 1)) ∧ w1.cell? ⟨bb, o + 2, none⟩ = some (.string (pt y 2)) from by
    rcases HV with hn | ⟨bb, o, e1, e2, hc⟩
    · rw [List.map_eq_nil_iff] at hn; rw [hn] at h3; simp at h3
    · refine ⟨bb, o, e1, e2, ?_, ?_⟩
      · have := hc 1 (by rw [List.length_map]; omega); rw [this, List.getElem_map, pt_at]
      · have := hc 2 (by rw [List.length_map]; omega); rw [this, List.getElem_map, pt_at])
  clear HV
  obtain ⟨bb, o, rfl, hbb, y1, y2⟩ := HV2.out
  have HW1 := Lib.hid (fun h => wordOk_p1 (y := y) h)
  have HW2 := Lib.hid (fun h => wordOk_p2 (y := y) h)
  have HWY := Lib.hid (fun h h2 => wordOk_yes (y := y) h3 h h2)
  have hz1 := pt_size y 1
  have hz2 := pt_size y 2
  have HB := Lib.hid b
  have hst : stP y = (parseB (pt y 1)).1 := rfl
  have hmo : moP y = (parseB (pt y 2)).1 := rfl
  have HST := Lib.hid hst
  have HMO := Lib.hid hmo
  clear hst hmo HV2 b
  rw [h3]
  clear h3
  generalize pt y 1 = p1 at y1 HW1 HWY hz1 HST
  generalize pt y 2 = p2 at y2 HW2 HWY hz2 HMO
  go_wp2_with fail
  refine (implParse_any p1 _ (by unfold maxLen; omega) (HT.out.below HB.out (Nat.le_refl _))).mono ?_
  rintro e w2 ⟨rfl, b2⟩
  have B2 := Lib.hid (HB.out.trans (b2.mono HB.out.size))
  have y2' := (b2.cell (p := ⟨bb, o + 2, none⟩) hbb).trans y2
  clear y1 y2
  go_wp2_with fail
  clear y2'
  refine (implParse_any p2 _ (by unfold maxLen; omega) (HT.out.below B2.out (Nat.le_refl _))).mono ?_
  rintro e w3 ⟨rfl, b3⟩
  have B3 := Lib.hid (B2.out.trans (b3.mono B2.out.size))
  rcases e1 : (parseB p1).2 with _ | _
  · have HN := Lib.hid (HW1.out e1)
    clear e1
    go_wp2
    refine bodyPost_ret (v := .tuple #[.int .i64 0, .int .i64 0, .bool false]) (by simp [results, Tryz.results39, go_sem]) rfl ?_
    exact ⟨⟨0, 0, by rw [HN.out], fun h => absurd (HN.out.symm.trans h) (by simp)⟩, B3.out⟩
  rcases e2 : (parseB p2).2 with _ | _
  · have HN := Lib.hid (HW2.out e2)
    clear e1 e2
    go_wp2
    refine bodyPost_ret (v := .tuple #[.int .i64 0, .int .i64 0, .bool false]) (by simp [results, Tryz.results39, go_sem]) rfl ?_
    exact ⟨⟨0, 0, by rw [HN.out], fun h => absurd (HN.out.symm.trans h) (by simp)⟩, B3.out⟩
  have HN := Lib.hid (HWY.out e1 e2)
  clear e1 e2
  go_wp2
  refine bodyPost_ret (v := .tuple #[.int .i64 (parseB p1).1, .int .i64 (parseB p2).1, .bool true]) (by simp [results, Tryz.results39, go_sem]) rfl ?_
  exact ⟨⟨_, _, by rw [HN.out], fun _ => ⟨HST.out.symm, HMO.out.symm⟩⟩, B3.out⟩

theorem own_heap {w : World} {B g n : Nat} {e : TypeId} {xs : List Value} (h : w.ownsRow B e 1 (.slice (some ⟨g, 0, none⟩) n n) n xs) : w.heap[g]? = some (.cells xs.toArray e (0, 0)) := by
  obtain ⟨hl, h⟩ := h
  rcases h with ⟨h, _⟩ | ⟨g', cap, cur, e1, hB, hh, a1, a2, a3, a4⟩
  · injection h with h1 h2 h3
    cases h1
  · injection e1 with h1 h2 h3
    injection h1 with h1
    injection h1 with h1 _ _
    subst h1 h3
    have e2 : cur = xs.toArray := by
      have e3 : cur.toList = xs := by
        rw [← a4, List.take_of_length_le (by rw [Array.length_toList]; omega)]
      rw [← e3]
    rw [← e2]
    exact hh
theorem heap_own {w : World} {B g : Nat} {e : TypeId} {xs : List Value} (h : w.heap[g]? = some (.cells xs.toArray e (0, 0))) (hB : B ≤ g) (hx : xs.length ≤ maxLen) : (flat e xs).own w B (.slice (some ⟨g, 0, none⟩) xs.length xs.length) [g] :=
  ⟨xs, [], ⟨by simp, .inr ⟨g, xs.length, xs.toArray, by simp, hB, h, by simp, hx, by simp, List.take_of_length_le (by simp)⟩⟩, ownL_ones.2 ⟨rfl, rfl⟩, by simp [Value.ownBlock]⟩

set_option maxRecDepth 100000 in
set_option maxHeartbeats 8000000 in
theorem cutRow_any (us : List Int) (g n x y : Nat) (w : World) (hr : ∀ j, (h : j < us.length) → w.cell? ⟨g, j, none⟩ = some (.int .i64 us[j])) (hn : us.length = n) (h22 : n ≤ 4194304) (hg : g < w.heap.size) (hxy : x < y) (hyn : y ≤ n) :
    Calls Tryz.prog 40 #[.slice (some ⟨g, 0, none⟩) n n, .int .i64 (x : Int), .int .i64 (y : Int)] w fun e w' => ∃ u F, e = .returned u ∧ (trI ((us.drop x).take (y - x))).own w' w.heap.size u F ∧ F.Nodup ∧ Below w.heap.size w w' := by
  obtain ⟨m, hm⟩ : ∃ m, m = y - x := ⟨_, rfl⟩
  rw [← hm]
  have hw : IntKind.i64.wrap ((y : Int) - (x : Int)) = (m : Int) := by rw [IntKind.wrap_i64]; omega
  have h0 : (0 : Int) ≤ (x : Int) := by omega
  have h1 : (x : Int) ≤ (y : Int) := by omega
  have h2 : (y : Int) ≤ (n : Int) := by omega
  have hm0 : 0 < m := by omega
  obtain ⟨i0, hi0, hz0, hz1, hz2⟩ := info_parts infoInt
  have HR := Lib.hid hr
  obtain ⟨cs, hcs⟩ : ∃ cs : List Value, cs = ((us.drop x).take m).map (.int .i64) := ⟨_, rfl⟩
  have hcl : cs.length = m := by rw [hcs]; simp; omega
  have HCL := Lib.hid hcl
  have HCS := Lib.hid hcs
  have HMN := Lib.hid hm
  have HXY := Lib.hid hxy
  have H22 := Lib.hid h22
  have HN := Lib.hid hn
  have hms : m ≤ 4194304 := by omega
  have HCELL := Lib.hid (show ∀ W, Below w.heap.size w W → ∀ j v, cs[j]? = some v → W.cell? ((⟨g, x, none⟩ : Addr).add j) = some v from fun W hb j v hv => by
    have hj : j < m := by
      have := (List.getElem?_eq_some_iff.1 hv).1
      omega
    have hjl : x + j < us.length := by omega
    have e : cs[j]? = some (.int .i64 (us[x + j]'hjl)) := by
      clear hcl
      rw [hcs, List.getElem?_map, List.getElem?_take, if_pos hj, List.getElem?_drop, List.getElem?_eq_getElem (by omega)]
      rfl
    have h3 := (hb.cell (p := ⟨g, x + j, none⟩) hg).trans (hr (x + j) (by omega))
    rw [e] at hv
    rw [← Option.some.inj hv, show (⟨g, x, none⟩ : Addr).add j = ⟨g, x + j, none⟩ from by simp [Addr.add]]
    exact h3)
  have HONE := Lib.hid (show ∀ v ∈ cs, v.oneCell' = true from fun v hv => by
    rw [hcs, List.mem_map] at hv
    obtain ⟨z, _, rfl⟩ := hv
    rfl)
  clear hr hcl hcs hm hn
  go_enter Tryz.func40, Tryz.ntmps40
  go_wp2_with (first
    | (at_make; refine wpList_make_full _ rfl _ _ 25 rfl w.heap.size 3 i0 (.int .i64 0) 1 Tryz.underlying25 hi0 hz0 hz1 .i64 .i64 _ _ m rfl rfl rfl rfl (by rw [hz2]; have := H22.out; omega) (by have := H22.out; unfold maxLen; omega) (Nat.le_refl _) ?_; intro w1 hown1 hgrow1; have hb1 := Lib.hid ((Below.refl w.heap.size w).grown hgrow1 (Nat.le_refl _) (by simp)); have hml := own_len hown1; have hh := Lib.hid (own_heap hown1); clear hown1 hgrow1; generalize (madeCells (Value.int .i64 0).cells (m * 1)).toList = ms at hml hh; have HML := Lib.hid hml; clear hml)
    | (refine wpList_copy_splice (o := ⟨some 18, _, _, _, _, _⟩) rfl (.tmp 12) (.tmp 17) 25 25 rfl 3 Tryz.underlying25 (by kernel_rfl) (some ⟨w.heap.size, 0, none⟩) (some ⟨g, x, none⟩) m m (y - x) (y - x) rfl rfl w.heap.size 0 ms 3 hh.out cs (by rw [HCL.out, ← HMN.out]; exact (Nat.min_self m).symm) (fun _ => ⟨rfl, _, rfl, HCELL.out w1 hb1.out⟩) (by rw [HCL.out, HML.out]; omega) HONE.out w.heap.size w hb1.out (Nat.le_refl _) ?_; intro w2 hh2 hb2)
    | fail)
  have HSP := Lib.hid (show splice ms 0 cs = cs from by
    unfold splice
    rw [List.take_zero, List.nil_append, List.drop_eq_nil_of_le (by rw [HML.out, HCL.out]; omega), List.append_nil])
  have hh3 := hh2.out
  rw [HSP.out, HCS.out] at hh3
  have hown := heap_own (B := w.heap.size) hh3 (Nat.le_refl _) (by rw [← HCS.out, HCL.out]; unfold maxLen; omega)
  rw [← HCS.out, HCL.out] at hown
  rw [HCS.out] at hown
  have HO := Lib.hid hown
  have HB2 := Lib.hid hb2
  clear hown hh3 hh2 hb2 hh hb1
  go_wp2
  go_ret
  first
    | exact ⟨_, rfl, _, HO.out, by simp, HB2.out⟩
    | exact ⟨_, HO.out, by simp, HB2.out⟩
    | exact ⟨_, _, rfl, HO.out, by simp, HB2.out⟩

theorem sc_nil (W : World) (B : Nat) (hB : B ≤ W.heap.size) : (trSc ⟨[], []⟩).own W B (.agg #[.slice none 0 0, .slice none 0 0]) [] := by
  have P := ((Sn.start W).nil0.nilI.pack.nilI).pack
  exact Tr.own_base hB _ _ _ (P.own 0 rfl).1
def rowR (W : List ByteArray) (k : Nat) : List Int := (List.range (2 * W.length)).map fun i => if i < W.length then (if i < k then stP (W.getD i ⟨#[]⟩) else 0) else (if i - W.length < k then moP (W.getD (i - W.length) ⟨#[]⟩) else 0)
theorem rowR_len (W : List ByteArray) (k : Nat) : (rowR W k).length = 2 * W.length := by simp [rowR]
theorem rowR_zero (W : List ByteArray) : rowR W 0 = List.replicate (2 * W.length) 0 := by
  apply List.ext_getElem
  · simp [rowR]
  · intro i h1 h2
    rw [List.getElem_replicate]
    simp only [rowR, List.getElem_map, List.getElem_range]
    split <;> simp
theorem rowR_next {W : List ByteArray} {k : Nat} (hk : k < W.length) : ((rowR W k).set k (stP W[k])).set (W.length + k) (moP W[k]) = rowR W (k + 1) := by
  apply List.ext_getElem
  · simp [rowR]
  · intro i h1 h2
    have hi : i < 2 * W.length := by simpa [rowR] using h2
    have hg : W.getD k ⟨#[]⟩ = W[k] := by simp [List.getD, List.getElem?_eq_getElem hk]
    rw [List.getElem_set, List.getElem_set]
    simp only [rowR, List.getElem_map, List.getElem_range]
    by_cases a : W.length + k = i
    · rw [if_pos a, if_neg (by omega), if_pos (by omega), show i - W.length = k by omega, hg]
    · rw [if_neg a]
      by_cases b : k = i
      · subst b
        rw [if_pos rfl, if_pos hk, if_pos (by omega), hg]
      · rw [if_neg b]
        by_cases c : i < W.length
        · rw [if_pos c, if_pos c]
          by_cases d : i < k
          · rw [if_pos d, if_pos (by omega)]
          · rw [if_neg d, if_neg (by omega)]
        · rw [if_neg c, if_neg c]
          by_cases d : i - W.length < k
          · rw [if_pos d, if_pos (by omega)]
          · rw [if_neg d, if_neg (by omega)]
theorem rowR_st (W : List ByteArray) : ((rowR W W.length).drop 0).take W.length = W.map stP := by
  rw [List.drop_zero]
  apply List.ext_getElem
  · simp [rowR]; omega
  · intro i h1 h2
    have hi : i < W.length := by simpa using h2
    simp only [List.getElem_take, rowR, List.getElem_map, List.getElem_range]
    rw [if_pos hi, if_pos hi]
    simp [List.getD, List.getElem?_eq_getElem hi]
theorem rowR_mo (W : List ByteArray) : ((rowR W W.length).drop W.length).take W.length = W.map moP := by
  apply List.ext_getElem
  · simp [rowR]; omega
  · intro i h1 h2
    have hi : i < W.length := by simpa using h2
    simp only [List.getElem_take, List.getElem_drop, rowR, List.getElem_map, List.getElem_range]
    rw [if_neg (by omega), Nat.add_sub_cancel_left, if_pos hi]
    simp [List.getD, List.getElem?_eq_getElem hi]

set_option maxRecDepth 100000 in
set_option maxHeartbeats 8000000 in
theorem implParseSchedule_any (p : Pj) (x : ByteArray) (v : Value) (w : World) (hv : (trPj p).rd w v) (hk : (trPj p).ok) (hx : x.size ≤ 1048576) (ht : TB w) :
    Calls Tryz.prog 14 #[v, .string x] w fun e w' => ∃ u F, e = .returned (.tuple #[u, .bool (okPS p x)]) ∧ (trSc (resPS p x)).own w' w.heap.size u F ∧ F.Nodup ∧ Below w.heap.size w w' := by
  have HT := Lib.hid ht
  have HK := Lib.hid hk
  have HV := Lib.hid hv
  obtain ⟨A1, c1, A2, c2, A3, c3, A4, c4, rfl, _⟩ := rdProject_t hv
  have S0 := Lib.hid (((Sn.start w).box 37 [.int .i64 p.dl, .slice A1 p.acts.length c1, .slice A2 p.lks.length c2, .slice A3 p.ress.length c3, .slice A4 p.stk.length c4]).box 39 [.slice none 0 0, .slice none 0 0])
  simp only [World.size_alloc] at S0
  clear ht hk hv
  have hW := splitB_len x spS
  have HSZ := Lib.hid (split_size x spS)
  go_enter Tryz.func14, Tryz.ntmps14
  go_wp2_with fail
  refine (implSplitAny_any x ⟨#[32]⟩ _ (by omega)).mono ?_
  rintro e w1 ⟨v1, rfl, ho, b⟩
  rw [show splitB x ⟨#[32]⟩ = splitB x spS from rfl] at ho
  have S1 := Lib.hid (S0.out.newI ho b)
  obtain ⟨_, V, cv, rfl, _⟩ := rd_flat (S1.out.rd 0 rfl)
  clear ho b S0
  have HLEN := Lib.hid (fun h => okPS_len (p := p) (x := x) h)
  have HWORD := Lib.hid (fun k hk h => okPS_word (p := p) (x := x) (k := k) hk h)
  have HCMP := Lib.hid (fun h => okPS_cmp (p := p) (x := x) h)
  have HPS := Lib.hid (show prsS x = ⟨(splitB x spS).map stP, (splitB x spS).map moP⟩ from rfl)
  rw [List.length_map] at S1 ⊢
  generalize splitB x spS = W at S1 hW HLEN HWORD HCMP HPS HSZ ⊢
  obtain ⟨e0, e1, e2, e3, e4, ef⟩ := (S1.out.bk 2 rfl).c5
  by_cases hn : W.length = p.acts.length
  rotate_left
  · have HR := Lib.hid (HLEN.out hn)
    have HR2 := Lib.hid (resPS_no HR.out)
    have hn' : ¬ (W.length : Int) = (p.acts.length : Int) := by omega
    obtain ⟨q0, q1, qf⟩ := (S1.out.bk 1 rfl).c2
    go_wp2
    have SZ := (S1.out.boxSet 1 rfl 0 (.slice none 0 0)).boxSet 1 rfl 1 (.slice none 0 0)
    refine bodyPost_ret (v := .tuple #[.agg #[.slice none 0 0, .slice none 0 0], .bool false]) (by simp [results, Tryz.results14, go_sem, q0, q1]) rfl ⟨_, [], by rw [HR.out], by rw [HR2.out]; exact sc_nil _ _ SZ.1.size, List.nodup_nil, SZ.1⟩
  have hn1 : 1 ≤ W.length := hW.1
  have hn2 : W.length ≤ 1048577 := by omega
  have HN := Lib.hid hn
  rw [← hn] at S1 e1 HV ⊢
  obtain ⟨i0, hi0, hz0, hz1, hz2⟩ := info_parts infoInt
  have hw : IntKind.i64.wrap (2 * (W.length : Int)) = ((2 * W.length : Nat) : Int) := by rw [IntKind.wrap_i64]; omega
  clear hn hW
  go_wp2_with (first
    | (at_make; go_loud (refine wpList_make_full _ rfl _ _ 25 rfl w1.heap.size 3 i0 (.int .i64 0) 1 Tryz.underlying25 hi0 hz0 hz1 .i64 .i64 _ _ (2 * W.length) rfl rfl rfl rfl (by rw [hz2]; omega) (by unfold maxLen; omega) (Nat.le_refl _) ?_); intro w2 hown2 hgrow2; have hml := own_len hown2; have S2 := Lib.hid (S1.out.newI hown2 ((Below.refl _ _).grown hgrow2 (Nat.le_refl _) (by simp))); clear hown2 hgrow2 S1 e0 e1 e2 e3 e4 ef)
    | fail)
  rw [show (madeCells (Value.int .i64 0).cells (2 * W.length * 1)).toList = (rowR W 0).map (.int .i64) from by rw [rowR_zero, List.map_replicate, Nat.mul_one]; exact toList_madeCells_one _ _] at S2
  generalize w1.heap.size = g at S2 ⊢
  generalize hFv : (Value.slice V W.length cv).ownBlock.toList = Fv at S2
  clear hml hFv
  go_loopw [30] (fun i wr => ∃ k : Nat, k ≤ W.length ∧ i = .int .i64 k ∧ Sn w wr [⟨trI (rowR W k), .slice (some ⟨g, 0, none⟩) (2 * W.length) (2 * W.length), [g]⟩, ⟨flat 9 (W.map .string), .slice V W.length cv, Fv⟩, boxI (w.heap.size + 1) 39 [.slice none 0 0, .slice none 0 0], boxI w.heap.size 37 [.int .i64 p.dl, .slice A1 W.length c1, .slice A2 p.lks.length c2, .slice A3 p.ress.length c3, .slice A4 p.stk.length c4]] ∧ Hid (∀ j, (hj : j < W.length) → j < k → wordOk W[j] = true)) (fun i _ => W.length - (intOf i).toNat)
  case atStart => exact ⟨0, Nat.zero_le _, rfl, S2.out, Lib.hid (fun j _ h => absurd h (by omega))⟩
  case round =>
    obtain ⟨k, hkl, rfl, hS, GD⟩ := hrel
    have S3 := Lib.hid hS
    clear hS S2
    by_cases hlt : k < W.length
    · have hlt' : (k : Int) < (W.length : Int) := by omega
      have k0 : (0 : Int) ≤ (k : Int) := by omega
      have HC := Lib.hid (rd_flat (S3.out.rd 1 rfl))
      obtain ⟨_, V2, cv2, he, hcc⟩ := HC.out
      injection he with he hlen he2
      subst he he2
      clear hlen
      rcases hcc with hcc | ⟨bb, o, rfl, hbb, hcc⟩
      · rw [List.map_eq_nil_iff] at hcc; rw [hcc] at hlt; simp at hlt
      have yk := hcc k (by rw [List.length_map]; exact hlt)
      rw [List.getElem_map] at yk
      have hsz := HSZ.out _ (List.getElem_mem hlt)
      have HNX := Lib.hid (rowR_next hlt)
      have HBAD := Lib.hid (fun h => HWORD.out k hlt h)
      have HGD := Lib.hid (fun (h : wordOk W[k] = true) => show ∀ j, (hj : j < W.length) → j < k + 1 → wordOk W[j] = true from fun j hj h2 => by
        by_cases e : j = k
        · subst e; exact h
        · exact GD.out j hj (by omega))
      have HW2 := Lib.hid (show ∀ j, wr.cell? ⟨bb, o + j, none⟩ = wr.cell? ⟨bb, o + j, none⟩ from fun _ => rfl)
      generalize W[k] = y at yk hsz HNX HBAD HGD
      clear hcc HC
      go_wp2_with fail
      clear yk
      refine (parseStart_any y _ (by omega) (HT.out.below S3.out.1 (Nat.le_refl _))).mono ?_
      rintro e w3 ⟨⟨a, b, rfl, hab⟩, bw⟩
      have S4 := Lib.hid (S3.out.go bw)
      clear S3 bw
      rcases hok : wordOk y with _ | _
      · have HR := Lib.hid (HBAD.out hok)
        have HR2 := Lib.hid (resPS_no HR.out)
        obtain ⟨q0, q1, qf⟩ := (S4.out.bk 2 rfl).c2
        clear hok HNX HGD hab
        go_wp2
        have SZ := (S4.out.boxSet 2 rfl 0 (.slice none 0 0)).boxSet 2 rfl 1 (.slice none 0 0)
        refine bodyPost_ret (v := .tuple #[.agg #[.slice none 0 0, .slice none 0 0], .bool false]) (by simp [results, Tryz.results14, go_sem, q0, q1]) rfl ⟨_, [], by rw [HR.out], by rw [HR2.out]; exact sc_nil _ _ SZ.1.size, List.nodup_nil, SZ.1⟩
      obtain ⟨rfl, rfl⟩ := hab hok
      have HG2 := Lib.hid (HGD.out hok)
      have hwk : IntKind.i64.wrap ((W.length : Int) + (k : Int)) = ((W.length + k : Nat) : Int) := by rw [IntKind.wrap_i64]; omega
      have hk2 : (k : Int) < ((2 * W.length : Nat) : Int) := by omega
      have hk3 : ((W.length + k : Nat) : Int) < ((2 * W.length : Nat) : Int) := by omega
      have hk4 : (0 : Int) ≤ ((W.length + k : Nat) : Int) := by omega
      have P4 := (show Sn w w3 (⟨trI (rowR W k), .slice (some ⟨g, 0, none⟩) (rowR W k).length (2 * W.length), [g]⟩ :: _) from by rw [rowR_len]; exact S4.out)
      have hc1 := P4.cellI (i := k) (by rw [rowR_len]; omega)
      have hc2 := P4.cellI (i := W.length + k) (by rw [rowR_len]; omega)
      obtain ⟨hc1, hf1⟩ := hc1
      obtain ⟨hc2, hf2⟩ := hc2
      generalize (rowR W k)[k]'_ = z1 at hc1
      generalize (rowR W k)[W.length + k]'_ = z2 at hc2
      have P5 := P4.setI k (stP y)
      have P6 := (show Sn w _ (⟨trI ((rowR W k).set k (stP y)), .slice (some ⟨g, 0, none⟩) ((rowR W k).set k (stP y)).length (2 * W.length), [g]⟩ :: _) from by rw [List.length_set]; exact P5).setI (W.length + k) (moP y)
      rw [HNX.out, List.length_set, rowR_len] at P6
      have S5 := Lib.hid P6
      clear P4 P5 P6 hok HNX HGD HBAD hab
      generalize stP y = sa at S5 ⊢
      generalize moP y = sb at S5 ⊢
      go_wp2
      go_roundw
      case rel => exact ⟨k + 1, by omega, by go_num, S5.out, HG2⟩
      case measure => simp [intOf]; omega
    · have hge : ¬ (k : Int) < (W.length : Int) := by omega
      obtain rfl : k = W.length := by omega
      have HOK := Lib.hid (HCMP.out (fun j hj => GD.out j hj hj))
      have HRC := Lib.hid (show ∀ j, (h : j < (rowR W W.length).length) → wr.cell? ⟨g, j, none⟩ = some (.int .i64 (rowR W W.length)[j]) from fun j h => ((show Sn w wr (⟨trI (rowR W W.length), .slice (some ⟨g, 0, none⟩) (rowR W W.length).length (2 * W.length), [g]⟩ :: _) from by rw [rowR_len]; exact S3.out).cellI h).1)
      have hgl := (Tr.own_lt _ _ _ (S3.out.own 0 rfl).1 g (by simp)).2
      clear GD HSZ HWORD HLEN HCMP
      go_wp2_with fail
      refine (cutRow_any (rowR W W.length) g (2 * W.length) 0 W.length _ HRC.out (rowR_len W _) (by omega) hgl (by omega) (by omega)).mono ?_
      rintro e w4 ⟨u4, F4, rfl, o4, h4, b4⟩
      rw [Nat.sub_zero, rowR_st] at o4
      obtain ⟨U4, d4, rfl⟩ := slice_ints (Tr.own_rd _ _ _ o4)
      have S4 := Lib.hid (S3.out.new o4 h4 b4)
      have HRC2 := Lib.hid (show ∀ j, (h : j < (rowR W W.length).length) → w4.cell? ⟨g, j, none⟩ = some (.int .i64 (rowR W W.length)[j]) from fun j h => (b4.cell (p := ⟨g, j, none⟩) hgl).trans (HRC.out j h))
      have hgl2 := Nat.lt_of_lt_of_le hgl b4.size
      clear o4 h4 b4 S3 HRC hgl
      rw [List.length_map] at S4 ⊢
      go_wp2_with fail
      refine (cutRow_any (rowR W W.length) g (2 * W.length) W.length (2 * W.length) _ HRC2.out (rowR_len W _) (by omega) hgl2 (by omega) (by omega)).mono ?_
      rintro e w5 ⟨u5, F5, rfl, o5, h5, b5⟩
      rw [show 2 * W.length - W.length = W.length by omega, rowR_mo] at o5
      obtain ⟨U5, d5, rfl⟩ := slice_ints (Tr.own_rd _ _ _ o5)
      have S5 := Lib.hid ((S4.out.new o5 h5 b5).box 39 [.slice U4 W.length d4, .slice U5 (W.map moP).length d5])
      clear o5 h5 b5 S4 HRC2 hgl2
      rw [List.length_map] at S5 ⊢
      obtain ⟨e0, e1, e2, e3, e4, ef⟩ := (S5.out.bk 6 rfl).c5
      have TB5 := Lib.hid (HT.out.below S5.out.1 (Nat.le_refl _))
      have HSR := Lib.hid (show (trSc (prsS x)).rd _ (.agg #[.slice U4 W.length d4, .slice U5 W.length d5]) from by
        rw [HPS.out]
        have := mk_rdSchedule_t (d := ⟨W.map stP, W.map moP⟩) (S5.out.rd 2 rfl) (S5.out.rd 1 rfl)
        exact this)
      go_wp2_with fail
      clear e0 e1 e2 e3 e4 ef
      refine (implFormatSchedule_any p (prsS x) _ _ _ (by exact S5.out.old HV.out) HK.out (by exact HSR.out) TB5.out).mono ?_
      rintro e w6 ⟨rfl, b6⟩
      have S6 := Lib.hid (S5.out.go b6)
      clear S5 b6 HSR TB5
      generalize fmtScB p (prsS x) = f at HOK ⊢
      obtain ⟨q0, q1, qf⟩ := (S6.out.bk 5 rfl).c2
      by_cases hf : f = x
      rotate_left
      · have HR := Lib.hid (show okPS p x = false from by rw [HOK.out]; simp [hf])
        have HR2 := Lib.hid (resPS_no HR.out)
        have hne := str_ne hf
        clear hf
        go_wp2
        have SZ := (S6.out.boxSet 5 rfl 0 (.slice none 0 0)).boxSet 5 rfl 1 (.slice none 0 0)
        refine bodyPost_ret (v := .tuple #[.agg #[.slice none 0 0, .slice none 0 0], .bool false]) (by simp [results, Tryz.results14, go_sem, q0, q1]) rfl ⟨_, [], by rw [HR.out], by rw [HR2.out]; exact sc_nil _ _ SZ.1.size, List.nodup_nil, SZ.1⟩
      have HR := Lib.hid (show okPS p x = true from by rw [HOK.out]; simp [hf])
      have HR2 := Lib.hid (resPS_yes HR.out)
      obtain ⟨g0, g1, gf⟩ := (S6.out.bk 0 rfl).c2
      subst hf
      go_wp2
      have SZ := (S6.out.boxSet 5 rfl 0 (.slice U4 W.length d4)).boxSet 5 rfl 1 (.slice U5 W.length d5)
      have P := SZ.nil0
      have P := (P.pick 2 rfl).pack
      have P := (P.pick 2 rfl).pack
      refine bodyPost_ret (v := .tuple #[.agg #[.slice U4 W.length d4, .slice U5 W.length d5], .bool true]) (by simp [results, Tryz.results14, go_sem, q0, q1]) rfl ⟨_, _, by rw [HR.out], by rw [HR2.out, HPS.out]; exact (P.own 0 rfl).1, (P.own 0 rfl).2, P.1⟩
end Go.Proofs.YtcoheknnkdmdiabGreatDoor
