/- DERIVED. CONTRACTS of chapter 7: the lines of a project's text and FormatProject, of the program. -/
import Derived.Test.YtlcmnmobfhajdabGreatDoorFpM
import Derived.Test.YtlcmnmobfhajdabGreatDoorElmS
import Derived.Test.YtlcmnmobfhajdabGreatDoorStpF
import Derived.Test.YtlcmnmobfhajdabGreatDoorModF
import Derived.Test.YtlcmnmobfhajdabGreatDoorFmts
import Derived.Test.YtlcmnmobfhajdabGreatDoorJoin
import Derived.Test.YtlcmnmobfhajdabGreatDoorPrC
import Derived.Test.YtlcmnmobfhajdabGreatDoorSnV
import Derived.Test.YtlcmnmobfhajdabGreatDoorRegZ
import Derived.Test.YtlcmnmobfhajdabGreatDoorTPj
namespace Go.Proofs.YtlcmnmobfhajdabGreatDoor
open Go.RowKit Go.Shelf
set_option linter.unusedVariables false

theorem ret_sP {a b : ByteArray} (h : a = b) : Ending.returned (.string a) = Ending.returned (.string b) := by rw [h]
theorem rows_vals {w : World} {xs : List (List Int)} {v : Value} (h : (trSu xs).rd w v) : ∃ vs : List Value, Rd w v vs ∧ ∃ e : vs.length = xs.length, ∀ i, (h : i < vs.length) → (trI (xs[i]'(e ▸ h))).rd w vs[i] := by
  obtain ⟨vs, ⟨hl, hs, A, c, rfl, hc⟩, hL⟩ := h
  have e : xs.flatMap cellsI1 = xs.map trI := by
    have : ∀ l : List (List Int), l.flatMap cellsI1 = l.map trI := by
      intro l
      induction l with
      | nil => rfl
      | cons x l ih => rw [List.flatMap_cons, List.map_cons, ih]; rfl
    exact this xs
  have hn : vs.length = xs.length := by
    have := rdL_len hL
    rw [e, List.length_map] at this
    exact this
  refine ⟨vs, ⟨by rw [hn]; exact hl, A, c, by rw [hn], ?_⟩, hn, fun i hi => ?_⟩
  · rcases hc with hc | hc
    · exact .inl (List.eq_nil_of_length_eq_zero (by rw [hn]; exact hc))
    · exact .inr hc
  · obtain ⟨u, hu, hr⟩ := rdL_get (i := i) (t := trI (xs[i]'(hn ▸ hi))) hL (by rw [e, List.getElem?_map, List.getElem?_eq_getElem (hn ▸ hi)]; rfl)
    rw [List.getElem?_eq_getElem hi] at hu
    injection hu with hu
    rw [hu]; exact hr
theorem trI_nilOk {w : World} {l : List Int} {v : Value} (h : (trI l).rd w v) (hl : l.length = 4) : NilOk v := by
  obtain ⟨_, A, c, rfl, hc⟩ := rd_flat h
  rcases hc with hc | ⟨b, o, rfl, _⟩
  · rcases l with _ | ⟨x, l⟩
    · cases hl
    · cases hc
  · exact nilOk_some _ _ _
theorem Sn.newRow {w0 W : World} {L : List Item} (h : Sn w0 W L) (e : TypeId) (vs : List Value) (hv : vs.length ≤ maxLen) : Sn w0 (W.alloc (.cells ⟨vs⟩ e)) (⟨flat e vs, .slice (some ⟨W.heap.size, 0, none⟩) vs.length vs.length, [W.heap.size]⟩ :: L) :=
  h.new (t := flat e vs) ⟨vs, [], ⟨by simp, .inr ⟨W.heap.size, vs.length, ⟨vs⟩, rfl, Nat.le_refl _, heap_alloc_new W _, by simp, hv, by simp, List.take_of_length_le (by simp)⟩⟩, ownL_ones.2 ⟨rfl, rfl⟩, by simp [Value.ownBlock]⟩ (by simp) ((Below.refl _ _).alloc (Nat.le_refl _) _)

set_option maxRecDepth 100000 in
set_option maxHeartbeats 8000000 in
theorem resourceLine_any (r : Rs) (v : Value) (w : World) (hr : rokB r = true) (hv : (trR r).rd w v) (ht : TB w) :
    Calls Tryz.prog 32 #[v] w fun e w' => e = .returned (.string (rsLine r)) ∧ Below w.heap.size w w' := by
  have HT := Lib.hid ht
  have hsz := rsLine_size hr
  have H0 := Lib.hid (fun h : r.su.length = 0 => show rsLine r = rsHead r from by rw [rsLine, if_pos h])
  have H1 := Lib.hid (fun h : ¬ r.su.length = 0 => show rsLine r = rsHead r ++ spB ++ fmtsB (catB r.su) from by rw [rsLine, if_neg h])
  have J1 := Lib.hid (show joinB [rsWd, fmtSteps r.st] ⟨#[32]⟩ = rsHead r from join2P _ _ _)
  have J2 := Lib.hid (show joinB [rsHead r, fmtsB (catB r.su)] ⟨#[32]⟩ = rsHead r ++ spB ++ fmtsB (catB r.su) from join2P _ _ _)
  generalize rsLine r = res at H0 H1 hsz ⊢
  have hfs := fmtSteps_size (xs := r.st)
  simp only [rokB, Bool.and_eq_true, Bool.or_eq_true, decide_eq_true_eq, List.all_eq_true] at hr
  have h8 := (okP_iff.1 hr.2.1).2.1
  have hrow : ∀ row ∈ r.su, row.length = 4 ∧ ∀ x ∈ row, 0 ≤ x ∧ x ≤ 12 := fun row hw => by
    have := hr.1 row hw
    simp only [rowB, Bool.and_eq_true, decide_eq_true_eq, List.all_eq_true] at this
    exact ⟨by omega, fun x hx => inB_iff.1 (this.2 x hx)⟩
  have hsu : r.su.length = 0 ∨ r.su.length = 4 := by have := hr.2.2; omega
  obtain ⟨A0, c0, A1, c1, rfl, r0, r1⟩ := rdResource_t hv
  obtain ⟨vs, hvs, hvn, hel⟩ := rows_vals r1
  have HVS := Lib.hid hvs
  have HEL := Lib.hid hel
  have HROW := Lib.hid hrow
  have R0 := Lib.hid (rdP_st r0)
  have hcat : (catB r.su).length ≤ 16 := by
    have : ∀ l : List (List Int), (∀ row ∈ l, row.length = 4) → l.flatten.length = l.length * 4 := by
      intro l
      induction l with
      | nil => intro _; rfl
      | cons x l ih =>
        intro hx
        have := ih fun row hr => hx row (by simp [hr])
        have := hx x (by simp)
        simp only [List.flatten_cons, List.length_append, List.length_cons]
        omega
    have e := this r.su fun row hw => (hrow row hw).1
    unfold catB
    omega
  have hcr : ∀ n ∈ catB r.su, -9223372036854775808 ≤ n ∧ n ≤ 9223372036854775807 := fun n hn => by
    unfold catB at hn
    obtain ⟨row, hw, hx⟩ := List.mem_flatten.1 hn
    have := (hrow row hw).2 n hx
    omega
  have HCR := Lib.hid hcr
  have S0 := Lib.hid ((Sn.start w).box 52 [.slice A0 r.st.length c0, .slice A1 r.su.length c1])
  clear hv ht r0 r1 hr hrow hcr hvs hel
  go_enter Tryz.func32, Tryz.ntmps32
  obtain ⟨e0, e1, ef⟩ := (S0.out.bk 0 rfl).c2
  go_wp2_with fail
  clear e0 e1 ef
  refine (implFmtP_any r.st _ _ (R0.out.below S0.out.1 (Nat.le_refl _)) (HT.out.below S0.out.1 (Nat.le_refl _))).mono ?_
  rintro e w1 ⟨rfl, b⟩
  have S1 := Lib.hid (S0.out.go b)
  clear S0 b
  generalize fmtSteps r.st = fs at J1 hfs ⊢
  have e1 : rsWd.size = 8 := rfl
  have RJ := Lib.hid (newRow_any w1 9 [rsWd, fs] (by simp [maxLen]))
  have SJ := Lib.hid (S1.out.go ((Below.refl _ w1).alloc (Nat.le_refl _) (.cells #[.string rsWd, .string fs] 9)))
  go_wp2_with fail
  refine (joinAll_any [rsWd, fs] ⟨#[32]⟩ _ _ (by first | exact RJ.out | simpa using RJ.out) (by simp [tot]; omega) (by simp) (by decide)).mono ?_
  rintro e w2 ⟨rfl, b⟩
  have S2 := Lib.hid (SJ.out.go b)
  clear RJ SJ b S1
  rw [J1.out]
  have hhd : (rsHead r).size ≤ 1000 := by
    rw [← J1.out, join2P, size_app, size_app]
    have : (⟨#[32]⟩ : ByteArray).size = 1 := rfl
    omega
  generalize rsHead r = hd at J2 H0 H1 hhd ⊢
  clear J1
  obtain ⟨e0, e1, ef⟩ := (S2.out.bk 0 rfl).c2
  by_cases hz : r.su.length = 0
  · have HR := Lib.hid (H0.out hz)
    have hz2 : ((r.su.length : Int) == 0) = true := by rw [hz]; rfl
    clear H0 H1 J2
    go_wp2
    go_ret
    exact ⟨ret_sP HR.out.symm, S2.out.1⟩
  · have HR := Lib.hid (H1.out hz)
    have hz2 : ((r.su.length : Int) == 0) = false := by simpa using hz
    go_wp2_with fail
    clear e0 e1 ef
    refine (concat_any vs r.su _ _ (HVS.out.below S2.out.1 (Nat.le_refl _)) hvn (by omega) (fun i h => ⟨(rd_flat (HEL.out i h)).below S2.out.1 (Nat.le_refl _), trI_nilOk (HEL.out i h) (HROW.out _ (List.getElem_mem _)).1⟩) (by omega)).mono ?_
    rintro e w3 ⟨v3, rfl, ho, b⟩
    have S3 := Lib.hid (S2.out.go b)
    have R3 := Lib.hid (own_rd ho (by unfold maxLen; omega))
    clear ho b S2
    go_wp2_with fail
    refine (implFmts_any (catB r.su) _ _ R3.out (by omega) HCR.out (HT.out.below S3.out.1 (Nat.le_refl _))).mono ?_
    rintro e w4 ⟨rfl, b⟩
    have S4 := Lib.hid (S3.out.go b)
    clear S3 b
    have hfz := fmts_size (catB r.su)
    generalize fmtsB (catB r.su) = fz at J2 HR hfz ⊢
    have RJ := Lib.hid (newRow_any w4 9 [hd, fz] (by simp [maxLen]))
    have SJ := Lib.hid (S4.out.go ((Below.refl _ w4).alloc (Nat.le_refl _) (.cells #[.string hd, .string fz] 9)))
    go_wp2_with fail
    refine (joinAll_any [hd, fz] ⟨#[32]⟩ _ _ (by first | exact RJ.out | simpa using RJ.out) (by simp [tot]; omega) (by simp) (by decide)).mono ?_
    rintro e w5 ⟨rfl, b⟩
    have S5 := Lib.hid (SJ.out.go b)
    clear RJ SJ b S4
    rw [J2.out, ← HR.out]
    go_wp2
    go_ret
    exact ⟨rfl, S5.out.1⟩

set_option maxRecDepth 100000 in
set_option maxHeartbeats 8000000 in
theorem activityLine_any (a : Ac) (v : Value) (w : World) (hn : nmB a.nm = true) (hm3 : a.ms.length ≤ 3) (hfa : 0 ≤ a.fa ∧ a.fa ≤ 3) (hms : ∀ m ∈ a.ms, (m.us.length ≤ 3 ∧ m.co.length ≤ 2) ∧ (∀ x ∈ m.us, 0 ≤ x ∧ x ≤ 20) ∧ (∀ x ∈ m.co, 0 ≤ x ∧ x ≤ 20)) (hv : (trA a).rd w v) (ht : TB w) :
    Calls Tryz.prog 33 #[v] w fun e w' => e = .returned (.string (acLine a)) ∧ Below w.heap.size w w' := by
  have HT := Lib.hid ht
  have HMS := Lib.hid hms
  have hns := nm_smallP hn
  have HR := Lib.hid (show joinB (acK a a.ms.length) ⟨#[32]⟩ = acLine a from rfl)
  have K0 := Lib.hid (acK_0 a)
  have KS := Lib.hid (fun k h => @acK_succ a k h)
  have KL := Lib.hid (acK_len a)
  have KT := Lib.hid (show tot (acK a a.ms.length) ≤ 1000000 from by
    have h3 : tot (acK a a.ms.length) ≤ (acK a a.ms.length).length * 100 := tot_leP fun x hx => by
      simp only [acK, List.mem_append, List.mem_cons, List.not_mem_nil, or_false, List.mem_map] at hx
      rcases hx with (rfl | rfl | rfl) | ⟨m, hm2, rfl⟩
      · decide
      · omega
      · have := fmtB_size a.fa; omega
      · have := hms m (List.mem_of_mem_take hm2)
        exact mdW_size this.1.1 this.1.2
    have := acK_len a a.ms.length
    omega)
  obtain ⟨A, c, rfl, r0⟩ := rdActivity_t hv
  obtain ⟨hl, A', c', he, g0⟩ := rdModeS_t r0
  injection he with he _ he2
  subst he he2
  have G0 := Lib.hid g0
  clear hv ht r0 g0 hms hn
  have S0 := Lib.hid ((Sn.start w).box 57 [.string a.nm, .int .i64 a.fa, .slice A a.ms.length c])
  obtain ⟨i0, hi0, hz0, hz1, hz2⟩ := info_parts infoString
  go_enter Tryz.func33, Tryz.ntmps33
  go_wp2_with fail
  obtain ⟨p0, p1, p2, pf⟩ := (S0.out.bk 0 rfl).c3
  have hl0 := (S0.out.bk 0 rfl).lt
  generalize World.alloc w _ = wv at S0 p0 p1 p2 pf hl0 ⊢
  have S1 := Lib.hid S0.out.drew1
  have CE := Lib.hid (fun (W : World) (h : Wr [] wv.drew W) => show Hid (Wr [] wv.drew W) ∧ W.cell? ⟨w.heap.size, 0, none⟩ = some (.string a.nm) ∧ W.cell? ⟨w.heap.size, 1, none⟩ = some (.int .i64 a.fa) from ⟨Lib.hid h, (wr_cell h (p := ⟨w.heap.size, 0, none⟩) hl0 (by simp)).trans (by exact by simpa using p0), (wr_cell h (p := ⟨w.heap.size, 1, none⟩) hl0 (by simp)).trans (by exact by simpa using p1)⟩)
  have INIT := Lib.hid (CE.out _ (Wr.refl _ _))
  have KW := Lib.hid (fun (W2 W : World) (hb : Wr [] W W2) (h : Hid (Wr [] wv.drew W) ∧ W.cell? ⟨w.heap.size, 0, none⟩ = some (.string a.nm) ∧ W.cell? ⟨w.heap.size, 1, none⟩ = some (.int .i64 a.fa)) => CE.out W2 (h.1.out.trans hb))
  clear p0 p1 p2 pf hl0 S0
  refine wp_region_held_drew (S := fun W => Hid (Wr [] wv.drew W) ∧ W.cell? ⟨w.heap.size, 0, none⟩ = some (.string a.nm) ∧ W.cell? ⟨w.heap.size, 1, none⟩ = some (.int .i64 a.fa)) (by kernel_rfl) INIT.out (fun hHeld => ?_)
  refine wpAnyH_take (i := 0) (v := ?_) rfl (by kernel_rfl) (by kernel_rfl) (by kernel_rfl) (fun _ _ _ h => h) (Or.inl ⟨by rfl, ?_⟩) (by assumption) ?_
  rotate_left
  · (intro W hSw; (try dsimp only at hSw); go_simp <;> with_reducible rfl)
  (try simp only [Act.put, List.getElem_toArray, List.getElem_cons_zero, List.setIfInBounds_toArray, List.set_cons_succ, List.set_cons_zero])
  refine wpAnyH_take (i := 1) (v := ?_) rfl (by kernel_rfl) (by kernel_rfl) (by kernel_rfl) (fun _ _ _ h => h) (Or.inl ⟨by rfl, ?_⟩) (by assumption) ?_
  rotate_left
  · (intro W hSw; (try dsimp only at hSw); go_simp <;> with_reducible rfl)
  (try simp only [Act.put, List.getElem_toArray, List.getElem_cons_succ, List.getElem_cons_zero, List.setIfInBounds_toArray, List.set_cons_succ, List.set_cons_zero])
  refine wpAnyH_take (i := 2) (v := ?_) rfl (by kernel_rfl) (by kernel_rfl) (by kernel_rfl) (fun _ _ _ h => h) (Or.inl ⟨by rfl, ?_⟩) (by assumption) ?_
  rotate_left
  · (intro W hSw; (try dsimp only at hSw); go_simp <;> with_reducible rfl)
  (try simp only [Act.put, List.getElem_toArray, List.getElem_cons_succ, List.getElem_cons_zero, List.setIfInBounds_toArray, List.set_cons_succ, List.set_cons_zero])
  refine wpAnyH_take (i := 3) (v := ?_) rfl (by kernel_rfl) (by kernel_rfl) (by kernel_rfl) (fun _ _ _ h => h) (Or.inl ⟨by rfl, ?_⟩) (by assumption) ?_
  rotate_left
  · (intro W hSw; (try dsimp only at hSw); go_simp <;> with_reducible rfl)
  (try simp only [Act.put, List.getElem_toArray, List.getElem_cons_succ, List.getElem_cons_zero, List.setIfInBounds_toArray, List.set_cons_succ, List.set_cons_zero])
  refine wpAnyH_ready (rs := [4]) (by kernel_rfl) (by simp) ?_
  refine AllReadyH.cons rfl (fun K hK => ?_) AllReadyH.nil
  go_simp
  go_at_call 31
  refine (implFmt_any a.fa _ (by omega) (by omega) (HT.out.below S1.out.1 (Nat.le_refl _))).mono ?_
  rintro e w2 ⟨rfl, bb⟩
  have S2 := Lib.hid (S1.out.go bb)
  (first | done | go_wp2_with fail)
  refine hK.out _ _ (KW.out _ _ (Wr.of_below bb (Nat.le_refl _)) (by assumption)) (fun hHeld4 => ?_)
  clear hK K bb S1
  refine wpAnyH_ready (rs := [5]) (by kernel_rfl) (by simp) ?_
  refine AllReadyH.cons rfl (fun K hK => ?_) AllReadyH.nil
  go_simp
  have BA := (Below.refl _ w2).alloc (Nat.le_refl _) (.cells #[.string ⟨#[97, 99, 116, 105, 118, 105, 116, 121]⟩, .string a.nm, .string (fmtB a.fa)] 9)
  refine hK.out _ _ (KW.out _ _ (Wr.of_below BA (Nat.le_refl _)) (by assumption)) (fun hHeld5 => ?_)
  clear hK K BA
  have S3 := Lib.hid (show Sn w _ (⟨flat 9 ((acK a 0).map .string), .slice (some ⟨w2.heap.size, 0, none⟩) 3 3, [w2.heap.size]⟩ :: _) from by rw [K0.out]; exact S2.out.newRow 9 [.string ⟨#[97, 99, 116, 105, 118, 105, 116, 121]⟩, .string a.nm, .string (fmtB a.fa)] (by simp [maxLen]))
  clear S2
  refine wpAnyH_take (i := 6) (v := ?_) rfl (by kernel_rfl) (by kernel_rfl) (by kernel_rfl) (fun _ _ _ h => h) (Or.inl ⟨by rfl, ?_⟩) (by assumption) ?_
  rotate_left
  · (intro W hSw; (try dsimp only at hSw); go_simp <;> with_reducible rfl)
  (try simp only [Act.put, List.getElem_toArray, List.getElem_cons_succ, List.getElem_cons_zero, List.setIfInBounds_toArray, List.set_cons_succ, List.set_cons_zero])
  refine wpAnyH_done (by kernel_rfl) ?_ _
  clear hHeld hHeld4 hHeld5 CE INIT KW
  obtain ⟨e0, e1, e2, ef⟩ := (S3.out.bk 1 rfl).c3
  go_wp2
  clear e0 e1 e2 ef
  go_loopw [3, 15] (fun u i wr => ∃ (k : Nat) (F : List Nat), k ≤ a.ms.length ∧ i = .int .i64 k ∧ Sn w wr [⟨flat 9 ((acK a k).map .string), u, F⟩, boxI w.heap.size 57 [.string a.nm, .int .i64 a.fa, .slice A a.ms.length c]]) (fun _ i _ => a.ms.length - (intOf i).toNat)
  case atStart => exact ⟨0, _, Nat.zero_le _, rfl, S3.out⟩
  case round =>
    obtain ⟨k, F, hkl, rfl, hS⟩ := hrel
    have S4 := Lib.hid hS
    clear hS S3
    obtain ⟨_, U, cu, hu, _⟩ := rd_flat (S4.out.rd 0 rfl)
    rw [List.length_map] at hu
    subst hu
    by_cases hlt : k < a.ms.length
    · have hlt' : (k : Int) < (a.ms.length : Int) := by omega
      have k0 : (0 : Int) ≤ (k : Int) := by omega
      obtain ⟨b1, o1, rfl, hb1, hc1⟩ := G0.out k hlt
      obtain ⟨M1, m1, M2, m2, x0, x1, x2, ru, rc⟩ := hc1 k hlt
      have y0 := (S4.out.1.cell (p := ⟨b1, o1 + k * 3, none⟩) hb1).trans x0
      have y1 := (S4.out.1.cell (p := ⟨b1, o1 + k * 3 + 1, none⟩) hb1).trans x1
      have y2 := (S4.out.1.cell (p := ⟨b1, o1 + k * 3 + 2, none⟩) hb1).trans x2
      have HM := Lib.hid (HMS.out _ (List.getElem_mem hlt))
      have RM := Lib.hid (mk_rdMode_t ru rc)
      have KSK := Lib.hid (KS.out k hlt)
      have hkn := KL.out k
      clear x0 x1 x2 ru rc hc1
      generalize a.ms[k] = m at y0 y1 y2 HM RM KSK
      generalize acK a k = vs at S4 KSK hkn
      have S5 := Lib.hid (S4.out.box 59 [.int .i64 m.du, .slice M1 m.us.length m1, .slice M2 m.co.length m2])
      go_wp2_with fail
      clear y0 y1 y2 S4
      refine (implFmtMode_any m _ _ (by exact S5.out.old RM.out) (by have := HM.out.1; omega) (by have := HM.out.1; omega) (fun n hn => by have := HM.out.2.1 n hn; omega) (fun n hn => by have := HM.out.2.2 n hn; omega) (HT.out.below S5.out.1 (Nat.le_refl _))).mono ?_
      rintro e w6 ⟨rfl, b⟩
      have S6 := Lib.hid ((S5.out.go b).drop 0)
      clear S5 b
      have KS2 := Lib.hid (show acK a (k + 1) = vs ++ [fmtMd m.du m.us m.co] from KSK.out)
      generalize fmtMd m.du m.us m.co = y at KS2 ⊢
      have OW := Lib.hid (show w6.ownsRow w.heap.size 9 1 (.slice U vs.length cu) vs.length (vs.map .string) from by have := (own_flat (S6.out.own 0 rfl).1).1; rwa [List.length_map] at this)
      have hzs := S6.out.1.size
      go_wp2_with (first | (at_builtin; refine wpList_append_own_at _ rfl (.tmp 19) (.tmp 22) 48 rfl w.heap.size 9 i0 (.string ⟨#[]⟩) 1 16 Tryz.underlying48 hi0 hz0 hz1 hz2 rfl (by decide) _ vs.length (vs.map .string) rfl (by exact OW.out.alloc _) ⟨w6.heap.size, 0, none⟩ 1 1 [.string y] rfl rfl ?c1 ?c2 ?c3 ?c4 ?c5 ?_) | fail)
      try case c1 => exact new_cell _ _ _
      case c2 => simp [Value.oneCell']
      case c3 => unfold maxLen; omega
      case c4 => omega
      case c5 => first | omega | (simp; omega)
      intro v' w8 hown8 hg8 _ hat8
      obtain ⟨F9, h9⟩ := S6.out.appV hown8 hg8 (by simpa using hat8)
      have S9 := Lib.hid h9
      clear hown8 hg8 hat8 h9 OW hzs S6
      go_wp2
      go_roundw
      case rel => exact ⟨k + 1, F9, by omega, by go_num, by rw [KS2.out, List.map_append]; exact S9.out⟩
      case measure => simp [intOf]; omega
    · have hge : ¬ (k : Int) < (a.ms.length : Int) := by omega
      obtain rfl : k = a.ms.length := by omega
      have HRR := Lib.hid (rd_flat (S4.out.rd 0 rfl))
      have hkn := KL.out a.ms.length
      have hkt := KT.out
      generalize acK a a.ms.length = vs at S4 HRR HR hkn hkt
      go_wp2_with fail
      refine (joinAll_any vs ⟨#[32]⟩ _ _ (by first | exact HRR.out | simpa using HRR.out) (by omega) (by omega) (by decide)).mono ?_
      rintro e w5 ⟨rfl, b⟩
      have S5 := Lib.hid (S4.out.go b)
      rw [HR.out]
      go_wp2
      go_ret
      exact ⟨rfl, S5.out.1⟩

theorem lok_parts {n : Nat} {l : Lk} (h : lokB n l = true) : (∃ a : Nat, l.fr = (a : Int) ∧ a < n) ∧ (∃ b : Nat, l.to = (b : Int) ∧ b < n) ∧ -60 ≤ l.lag ∧ l.lag ≤ 60 := by
  simp only [lokB, Bool.and_eq_true] at h
  have h1 := inB_iff.1 h.1
  have h2 := inB_iff.1 h.2.1
  have h3 := inB_iff.1 h.2.2.2
  exact ⟨⟨l.fr.toNat, by omega, by omega⟩, ⟨l.to.toNat, by omega, by omega⟩, h3.1, h3.2⟩
set_option maxRecDepth 100000 in
set_option maxHeartbeats 8000000 in
theorem linkLine_any (p : Pj) (l : Lk) (v : Value) (w : World) (hp : pokB p = true) (hl : lokB p.acts.length l = true) (hv : (trPj p).rd w v) (ht : TB w) :
    Calls Tryz.prog 34 #[v, .agg #[.int .i64 l.fr, .int .i64 l.to, .bool l.fe, .int .i64 l.lag]] w fun e w' => e = .returned (.string (lkLine p l)) ∧ Below w.heap.size w w' := by
  have HT := Lib.hid ht
  obtain ⟨A1, c1, A2, c2, A3, c3, A4, c4, rfl, r1, _⟩ := rdProject_t hv
  obtain ⟨hl1, B1, d1, he, g1⟩ := rdActivityS_t r1
  injection he with he _ he2
  subst he he2
  obtain ⟨⟨a, ha, han⟩, ⟨b, hb, hbn⟩, hg1, hg2⟩ := lok_parts hl
  have hna := nmA_small hp a
  have hnb := nmA_small hp b
  have HR := Lib.hid (show joinB [lkWd l.fe, nmA p l.fr.toNat, nmA p l.to.toNat, fmtB l.lag] ⟨#[32]⟩ = lkLine p l from join4P _ _ _ _ _)
  generalize lkLine p l = res at HR ⊢
  obtain ⟨fr, to, fe, lag⟩ := l
  simp only at ha hb hg1 hg2 HR
  subst ha hb
  rw [Int.toNat_natCast, Int.toNat_natCast] at HR
  obtain ⟨b1, o1, rfl, hb1, hc1⟩ := g1 a han
  obtain ⟨Ma, ma, xa, _, _, _⟩ := hc1 a han
  obtain ⟨Mb, mb, xb, _, _, _⟩ := hc1 b hbn
  rw [← nmA_at han] at xa
  rw [← nmA_at hbn] at xb
  have S0 := Lib.hid (((Sn.start w).box 34 [.int .i64 p.dl, .slice (some ⟨b1, o1, none⟩) p.acts.length c1, .slice A2 p.lks.length c2, .slice A3 p.ress.length c3, .slice A4 p.stk.length c4]).box 62 [.int .i64 (a : Int), .int .i64 (b : Int), .bool fe, .int .i64 lag])
  simp only [World.size_alloc] at S0
  have ya := (S0.out.1.cell (p := ⟨b1, o1 + a * 3, none⟩) hb1).trans xa
  have yb := (S0.out.1.cell (p := ⟨b1, o1 + b * 3, none⟩) hb1).trans xb
  have hbw := Nat.lt_of_lt_of_le hb1 S0.out.1.size
  generalize nmA p a = na at ya hna HR
  generalize nmA p b = nb at yb hnb HR
  have a0 : (0 : Int) ≤ (a : Int) := by omega
  have a1 : (a : Int) < (p.acts.length : Int) := by omega
  have b0 : (0 : Int) ≤ (b : Int) := by omega
  have b2 : (b : Int) < (p.acts.length : Int) := by omega
  have hfl := fmtB_size lag
  clear hv ht r1 g1 hc1 xa xb hl hp
  go_enter Tryz.func34, Tryz.ntmps34
  obtain ⟨p0, p1, p2, p3, p4, pf⟩ := (S0.out.bk 1 rfl).c5
  obtain ⟨q0, q1, q2, q3, qf⟩ := (S0.out.bk 0 rfl).c4
  have hlp := (S0.out.bk 1 rfl).lt
  have hll := (S0.out.bk 0 rfl).lt
  rcases fe with _ | _
  all_goals
    go_wp2_with fail
    generalize World.alloc (World.alloc w _) _ = w3 at S0 p0 p1 p2 p3 p4 pf q0 q1 q2 q3 qf ya yb hbw hlp hll ⊢
    have S1 := Lib.hid S0.out.drew1
    clear S0
    have CE := Lib.hid (fun (W : World) (h : Wr [] w3.drew W) => show Hid (Wr [] w3.drew W) ∧ W.cell? ⟨w.heap.size, 1, none⟩ = some (.slice (some ⟨b1, o1, none⟩) p.acts.length c1) ∧ W.cell? ⟨w.heap.size + 1, 0, none⟩ = some (.int .i64 (a : Int)) ∧ W.cell? ⟨w.heap.size + 1, 1, none⟩ = some (.int .i64 (b : Int)) ∧ W.cell? ⟨w.heap.size + 1, 3, none⟩ = some (.int .i64 lag) ∧ W.cell? ⟨b1, o1 + a * 3, none⟩ = some (.string na) ∧ W.cell? ⟨b1, o1 + b * 3, none⟩ = some (.string nb) from ⟨Lib.hid h, (wr_cell h (p := ⟨w.heap.size, 1, none⟩) hlp (by simp)).trans (by exact by simpa using p1), (wr_cell h (p := ⟨w.heap.size + 1, 0, none⟩) hll (by simp)).trans (by exact by simpa using q0), (wr_cell h (p := ⟨w.heap.size + 1, 1, none⟩) hll (by simp)).trans (by exact by simpa using q1), (wr_cell h (p := ⟨w.heap.size + 1, 3, none⟩) hll (by simp)).trans (by exact by simpa using q3), (wr_cell h (p := ⟨b1, o1 + a * 3, none⟩) (by show b1 < _; simpa using hbw) (by simp)).trans (by exact by simpa using ya), (wr_cell h (p := ⟨b1, o1 + b * 3, none⟩) (by show b1 < _; simpa using hbw) (by simp)).trans (by exact by simpa using yb)⟩)
    have INIT := Lib.hid (CE.out _ (Wr.refl _ _))
    have KW := Lib.hid (fun (W2 W : World) (hb : Wr [] W W2) (h : Hid (Wr [] w3.drew W) ∧ W.cell? ⟨w.heap.size, 1, none⟩ = some (.slice (some ⟨b1, o1, none⟩) p.acts.length c1) ∧ W.cell? ⟨w.heap.size + 1, 0, none⟩ = some (.int .i64 (a : Int)) ∧ W.cell? ⟨w.heap.size + 1, 1, none⟩ = some (.int .i64 (b : Int)) ∧ W.cell? ⟨w.heap.size + 1, 3, none⟩ = some (.int .i64 lag) ∧ W.cell? ⟨b1, o1 + a * 3, none⟩ = some (.string na) ∧ W.cell? ⟨b1, o1 + b * 3, none⟩ = some (.string nb)) => CE.out W2 (h.1.out.trans hb))
    clear p0 p1 p2 p3 p4 pf q0 q1 q2 q3 qf ya yb
    refine wp_region_held_drew (S := fun W => Hid (Wr [] w3.drew W) ∧ W.cell? ⟨w.heap.size, 1, none⟩ = some (.slice (some ⟨b1, o1, none⟩) p.acts.length c1) ∧ W.cell? ⟨w.heap.size + 1, 0, none⟩ = some (.int .i64 (a : Int)) ∧ W.cell? ⟨w.heap.size + 1, 1, none⟩ = some (.int .i64 (b : Int)) ∧ W.cell? ⟨w.heap.size + 1, 3, none⟩ = some (.int .i64 lag) ∧ W.cell? ⟨b1, o1 + a * 3, none⟩ = some (.string na) ∧ W.cell? ⟨b1, o1 + b * 3, none⟩ = some (.string nb)) (by kernel_rfl) INIT.out (fun hHeld => ?_)
    refine wpAnyH_take (i := 0) (v := ?_) rfl (by kernel_rfl) (by kernel_rfl) (by kernel_rfl) (fun _ _ _ h => h) (Or.inl ⟨by rfl, ?_⟩) (by assumption) ?_
    rotate_left
    · (intro W hSw; (try dsimp only at hSw); go_simp <;> with_reducible rfl)
    (try simp only [Act.put, List.getElem_toArray, List.getElem_cons_zero, List.setIfInBounds_toArray, List.set_cons_succ, List.set_cons_zero])
    refine wpAnyH_take (i := 1) (v := ?_) rfl (by kernel_rfl) (by kernel_rfl) (by kernel_rfl) (fun _ _ _ h => h) (Or.inl ⟨by rfl, ?_⟩) (by assumption) ?_
    rotate_left
    · (intro W hSw; (try dsimp only at hSw); go_simp <;> with_reducible rfl)
    (try simp only [Act.put, List.getElem_toArray, List.getElem_cons_succ, List.getElem_cons_zero, List.setIfInBounds_toArray, List.set_cons_succ, List.set_cons_zero])
    refine wpAnyH_take (i := 2) (v := ?_) rfl (by kernel_rfl) (by kernel_rfl) (by kernel_rfl) (fun _ _ _ h => h) (Or.inl ⟨by rfl, ?_⟩) (by assumption) ?_
    rotate_left
    · (intro W hSw; (try dsimp only at hSw); go_simp <;> with_reducible rfl)
    (try simp only [Act.put, List.getElem_toArray, List.getElem_cons_succ, List.getElem_cons_zero, List.setIfInBounds_toArray, List.set_cons_succ, List.set_cons_zero])
    refine wpAnyH_take (i := 3) (v := ?_) rfl (by kernel_rfl) (by kernel_rfl) (by kernel_rfl) (fun _ _ _ h => h) (Or.inl ⟨by rfl, ?_⟩) (by assumption) ?_
    rotate_left
    · (intro W hSw; (try dsimp only at hSw); go_simp <;> with_reducible rfl)
    (try simp only [Act.put, List.getElem_toArray, List.getElem_cons_succ, List.getElem_cons_zero, List.setIfInBounds_toArray, List.set_cons_succ, List.set_cons_zero])
    refine wpAnyH_take (i := 4) (v := ?_) rfl (by kernel_rfl) (by kernel_rfl) (by kernel_rfl) (fun _ _ _ h => h) (Or.inl ⟨by rfl, ?_⟩) (by assumption) ?_
    rotate_left
    · (intro W hSw; (try dsimp only at hSw); go_simp <;> with_reducible rfl)
    (try simp only [Act.put, List.getElem_toArray, List.getElem_cons_succ, List.getElem_cons_zero, List.setIfInBounds_toArray, List.set_cons_succ, List.set_cons_zero])
    refine wpAnyH_take (i := 5) (v := ?_) rfl (by kernel_rfl) (by kernel_rfl) (by kernel_rfl) (fun _ _ _ h => h) (Or.inl ⟨by rfl, ?_⟩) (by assumption) ?_
    rotate_left
    · (intro W hSw; (try dsimp only at hSw); go_simp <;> with_reducible rfl)
    (try simp only [Act.put, List.getElem_toArray, List.getElem_cons_succ, List.getElem_cons_zero, List.setIfInBounds_toArray, List.set_cons_succ, List.set_cons_zero])
    refine wpAnyH_take (i := 6) (v := ?_) rfl (by kernel_rfl) (by kernel_rfl) (by kernel_rfl) (fun _ _ _ h => h) (Or.inl ⟨by rfl, ?_⟩) (by assumption) ?_
    rotate_left
    · (intro W hSw; (try dsimp only at hSw); go_simp <;> with_reducible rfl)
    (try simp only [Act.put, List.getElem_toArray, List.getElem_cons_succ, List.getElem_cons_zero, List.setIfInBounds_toArray, List.set_cons_succ, List.set_cons_zero])
    refine wpAnyH_take (i := 7) (v := ?_) rfl (by kernel_rfl) (by kernel_rfl) (by kernel_rfl) (fun _ _ _ h => h) (Or.inl ⟨by rfl, ?_⟩) (by assumption) ?_
    rotate_left
    · (intro W hSw; (try dsimp only at hSw); go_simp <;> with_reducible rfl)
    (try simp only [Act.put, List.getElem_toArray, List.getElem_cons_succ, List.getElem_cons_zero, List.setIfInBounds_toArray, List.set_cons_succ, List.set_cons_zero])
    refine wpAnyH_take (i := 8) (v := ?_) rfl (by kernel_rfl) (by kernel_rfl) (by kernel_rfl) (fun _ _ _ h => h) (Or.inl ⟨by rfl, ?_⟩) (by assumption) ?_
    rotate_left
    · (intro W hSw; (try dsimp only at hSw); go_simp <;> with_reducible rfl)
    (try simp only [Act.put, List.getElem_toArray, List.getElem_cons_succ, List.getElem_cons_zero, List.setIfInBounds_toArray, List.set_cons_succ, List.set_cons_zero])
    refine wpAnyH_take (i := 9) (v := ?_) rfl (by kernel_rfl) (by kernel_rfl) (by kernel_rfl) (fun _ _ _ h => h) (Or.inl ⟨by rfl, ?_⟩) (by assumption) ?_
    rotate_left
    · (intro W hSw; (try dsimp only at hSw); go_simp <;> with_reducible rfl)
    (try simp only [Act.put, List.getElem_toArray, List.getElem_cons_succ, List.getElem_cons_zero, List.setIfInBounds_toArray, List.set_cons_succ, List.set_cons_zero])
    refine wpAnyH_take (i := 10) (v := ?_) rfl (by kernel_rfl) (by kernel_rfl) (by kernel_rfl) (fun _ _ _ h => h) (Or.inl ⟨by rfl, ?_⟩) (by assumption) ?_
    rotate_left
    · (intro W hSw; (try dsimp only at hSw); go_simp <;> with_reducible rfl)
    (try simp only [Act.put, List.getElem_toArray, List.getElem_cons_succ, List.getElem_cons_zero, List.setIfInBounds_toArray, List.set_cons_succ, List.set_cons_zero])
    refine wpAnyH_take (i := 11) (v := ?_) rfl (by kernel_rfl) (by kernel_rfl) (by kernel_rfl) (fun _ _ _ h => h) (Or.inl ⟨by rfl, ?_⟩) (by assumption) ?_
    rotate_left
    · (intro W hSw; (try dsimp only at hSw); go_simp <;> with_reducible rfl)
    (try simp only [Act.put, List.getElem_toArray, List.getElem_cons_succ, List.getElem_cons_zero, List.setIfInBounds_toArray, List.set_cons_succ, List.set_cons_zero])
    refine wpAnyH_take (i := 12) (v := ?_) rfl (by kernel_rfl) (by kernel_rfl) (by kernel_rfl) (fun _ _ _ h => h) (Or.inl ⟨by rfl, ?_⟩) (by assumption) ?_
    rotate_left
    · (intro W hSw; (try dsimp only at hSw); go_simp <;> with_reducible rfl)
    (try simp only [Act.put, List.getElem_toArray, List.getElem_cons_succ, List.getElem_cons_zero, List.setIfInBounds_toArray, List.set_cons_succ, List.set_cons_zero])
    refine wpAnyH_take (i := 13) (v := ?_) rfl (by kernel_rfl) (by kernel_rfl) (by kernel_rfl) (fun _ _ _ h => h) (Or.inl ⟨by rfl, ?_⟩) (by assumption) ?_
    rotate_left
    · (intro W hSw; (try dsimp only at hSw); go_simp <;> with_reducible rfl)
    (try simp only [Act.put, List.getElem_toArray, List.getElem_cons_succ, List.getElem_cons_zero, List.setIfInBounds_toArray, List.set_cons_succ, List.set_cons_zero])
    refine wpAnyH_take (i := 14) (v := ?_) rfl (by kernel_rfl) (by kernel_rfl) (by kernel_rfl) (fun _ _ _ h => h) (Or.inl ⟨by rfl, ?_⟩) (by assumption) ?_
    rotate_left
    · (intro W hSw; (try dsimp only at hSw); go_simp <;> with_reducible rfl)
    (try simp only [Act.put, List.getElem_toArray, List.getElem_cons_succ, List.getElem_cons_zero, List.setIfInBounds_toArray, List.set_cons_succ, List.set_cons_zero])
    refine wpAnyH_take (i := 15) (v := ?_) rfl (by kernel_rfl) (by kernel_rfl) (by kernel_rfl) (fun _ _ _ h => h) (Or.inl ⟨by rfl, ?_⟩) (by assumption) ?_
    rotate_left
    · (intro W hSw; (try dsimp only at hSw); go_simp <;> with_reducible rfl)
    (try simp only [Act.put, List.getElem_toArray, List.getElem_cons_succ, List.getElem_cons_zero, List.setIfInBounds_toArray, List.set_cons_succ, List.set_cons_zero])
    refine wpAnyH_take (i := 16) (v := ?_) rfl (by kernel_rfl) (by kernel_rfl) (by kernel_rfl) (fun _ _ _ h => h) (Or.inl ⟨by rfl, ?_⟩) (by assumption) ?_
    rotate_left
    · (intro W hSw; (try dsimp only at hSw); go_simp <;> with_reducible rfl)
    (try simp only [Act.put, List.getElem_toArray, List.getElem_cons_succ, List.getElem_cons_zero, List.setIfInBounds_toArray, List.set_cons_succ, List.set_cons_zero])
    refine wpAnyH_ready (rs := [17]) (by kernel_rfl) (by simp) ?_
    refine AllReadyH.cons rfl (fun K hK => ?_) AllReadyH.nil
    go_simp
    go_at_call 31
    refine (implFmt_any lag _ (by omega) (by omega) (HT.out.below S1.out.1 (Nat.le_refl _))).mono ?_
    rintro e w4 ⟨rfl, bb⟩
    have S2 := Lib.hid (S1.out.go bb)
    (first | done | go_wp2_with fail)
    refine hK.out _ _ (KW.out _ _ (Wr.of_below bb (Nat.le_refl _)) (by assumption)) (fun hHeld17 => ?_)
    clear hK K bb S1
    refine wpAnyH_ready (rs := [18]) (by kernel_rfl) (by simp) ?_
    refine AllReadyH.cons rfl (fun K hK => ?_) AllReadyH.nil
    go_simp
    refine hK.out _ _ (KW.out _ _ (Wr.of_below ((Below.refl _ _).alloc (Nat.le_refl _) _) (Nat.le_refl _)) (by assumption)) (fun hHeld18 => ?_)
    clear hK K
    refine wpAnyH_ready (rs := [19]) (by kernel_rfl) (by simp) ?_
    refine AllReadyH.cons rfl (fun K hK => ?_) AllReadyH.nil
    go_simp
    first
      | refine (joinAll_any [lkWd false, na, nb, fmtB lag] ⟨#[32]⟩ _ _ (newRow_any w4 9 [lkWd false, na, nb, fmtB lag] (by simp [maxLen])) (by have : (lkWd false).size = 5 := rfl; simp [tot]; omega) (by simp) (by decide)).mono ?_
      | refine (joinAll_any [lkWd true, na, nb, fmtB lag] ⟨#[32]⟩ _ _ (newRow_any w4 9 [lkWd true, na, nb, fmtB lag] (by simp [maxLen])) (by have : (lkWd true).size = 3 := rfl; simp [tot]; omega) (by simp) (by decide)).mono ?_
    rintro e w6 ⟨rfl, bb⟩
    have S3 := Lib.hid ((S2.out.go ((Below.refl _ w4).alloc (Nat.le_refl _) _)).go bb)
    refine hK.out _ _ (KW.out _ _ (Wr.of_below bb (Nat.le_refl _)) (by assumption)) (fun hHeld19 => ?_)
    clear hK K bb S2
    rw [HR.out]
    refine wpAnyH_take (i := 20) (v := ?_) rfl (by kernel_rfl) (by kernel_rfl) (by kernel_rfl) (fun _ _ _ h => h) (Or.inl ⟨by rfl, ?_⟩) (by assumption) ?_
    rotate_left
    · (intro W hSw; (try dsimp only at hSw); go_simp <;> with_reducible rfl)
    (try simp only [Act.put, List.getElem_toArray, List.getElem_cons_succ, List.getElem_cons_zero, List.setIfInBounds_toArray, List.set_cons_succ, List.set_cons_zero])
    refine wpAnyH_done (by kernel_rfl) ?_ _
    go_wp2
    go_ret
    exact ⟨rfl, S3.out.1⟩

set_option maxRecDepth 100000 in
set_option maxHeartbeats 8000000 in
theorem implFormatProject_any (p : Pj) (v : Value) (w : World) (hv : (trPj p).rd w v) (hk : (trPj p).ok) (ht : TB w) :
    Calls Tryz.prog 8 #[v] w fun e w' => e = .returned (.string (fmtPj p)) ∧ Below w.heap.size w w' := by
  have HK := Lib.hid hk
  have HT := Lib.hid ht
  have HV := Lib.hid hv
  have HNO := Lib.hid (@fmtPj_no p)
  have HY := Lib.hid (@fmtPj_yes p)
  generalize fmtPj p = res at HNO HY ⊢
  obtain ⟨A1, c1, A2, c2, A3, c3, A4, c4, rfl, r1, r2, r3, r4⟩ := rdProject_t hv
  obtain ⟨hl1, B1, d1, he, g1⟩ := rdActivityS_t r1
  injection he with he _ he2
  subst he he2
  obtain ⟨hl2, B2, d2, he, g2⟩ := rdLinkS_t r2
  injection he with he _ he2
  subst he he2
  obtain ⟨hl3, B3, d3, he, g3⟩ := rdResourceS_t r3
  injection he with he _ he2
  subst he he2
  obtain ⟨hl4, B4, d4, he, g4⟩ := rdI (rd_flat r4)
  injection he with he _ he2
  subst he he2
  have G1 := Lib.hid g1
  have G2 := Lib.hid g2
  have G3 := Lib.hid g3
  have G4 := Lib.hid g4
  clear hv hk ht r1 r2 r3 r4 g1 g2 g3 g4
  have S0 := Lib.hid ((Sn.start w).box 34 [.int .i64 p.dl, .slice A1 p.acts.length c1, .slice A2 p.lks.length c2, .slice A3 p.ress.length c3, .slice A4 p.stk.length c4])
  obtain ⟨i0, hi0, hz0, hz1, hz2⟩ := info_parts infoString
  go_enter Tryz.func8, Tryz.ntmps8
  obtain ⟨e0, e1, e2, e3, e4, ef⟩ := (S0.out.bk 0 rfl).c5
  go_wp2_with fail
  clear e0 e1 e2 e3 e4 ef
  refine (implProjectOk_any p _ _ (by exact S0.out.old HV.out) HK.out).mono ?_
  rintro e w1 ⟨rfl, b⟩
  have S1 := Lib.hid (S0.out.go b)
  clear S0 b
  rcases hp : pokB p with _ | _
  · have H := Lib.hid (HNO.out hp)
    clear hp
    go_wp2
    go_ret
    exact ⟨ret_sP H.out.symm, S1.out.1⟩
  have HP := Lib.hid hp
  have HR := Lib.hid (HY.out hp)
  have hq := hp
  simp only [pokB, Bool.and_eq_true, decide_eq_true_eq, List.all_eq_true] at hq
  have hdl := inB_iff.1 hq.1
  have hna := inB_iff.1 hq.2.1
  have hnr := hq.2.2.1
  have hns := hq.2.2.2.1
  have hnl := hq.2.2.2.2.1
  have HRS := Lib.hid hq.2.2.2.2.2.2.2.1
  have HSK := Lib.hid (fun n hn => inB_iff.1 (hq.2.2.2.2.2.2.2.2.1 n hn))
  have HLK := Lib.hid hq.2.2.2.2.2.2.2.2.2
  have HTOT := Lib.hid (lines_tot hp p.lks.length)
  clear hp hq HNO HY
  have hfd := fmtB_size p.dl
  have J1 := Lib.hid (show joinB [dlWd, fmtB p.dl] ⟨#[32]⟩ = dlLine p from join2P _ _ _)
  have eW : dlWd.size = 8 := rfl
  have eW2 : stWd.size = 5 := rfl
  obtain ⟨e0, e1, e2, e3, e4, ef⟩ := (S1.out.bk 0 rfl).c5
  go_wp2_with fail
  clear e0 e1 e2 e3 e4 ef
  refine (implFmt_any p.dl _ (by omega) (by omega) (HT.out.below S1.out.1 (Nat.le_refl _))).mono ?_
  rintro e w2 ⟨rfl, b⟩
  have S2 := Lib.hid (S1.out.go b)
  clear S1 b
  have RJ := Lib.hid (newRow_any w2 9 [dlWd, fmtB p.dl] (by simp [maxLen]))
  have SJ := Lib.hid (S2.out.go ((Below.refl _ w2).alloc (Nat.le_refl _) (.cells #[.string dlWd, .string (fmtB p.dl)] 9)))
  go_wp2_with fail
  refine (joinAll_any [dlWd, fmtB p.dl] ⟨#[32]⟩ _ _ (by first | exact RJ.out | simpa using RJ.out) (by simp [tot]; omega) (by simp) (by decide)).mono ?_
  rintro e w3 ⟨rfl, b⟩
  have S3 := Lib.hid (SJ.out.go b)
  clear RJ SJ b S2
  rw [J1.out]
  have S4 := Lib.hid (show Sn w _ (⟨flat 9 ((linesR p 0).map .string), .slice (some ⟨w3.heap.size, 0, none⟩) 1 1, [w3.heap.size]⟩ :: _) from by rw [linesR_0]; exact S3.out.newRow 9 [.string (dlLine p)] (by simp [maxLen]))
  obtain ⟨e0, e1, e2, e3, e4, ef⟩ := (S3.out.bk 0 rfl).c5
  have hlp := (S3.out.bk 0 rfl).lt
  clear S3 J1
  go_wp2
  clear e0 e1 e2 e3 e4 ef
  clear hlp
  go_loopw [3, 24] (fun u i wr => ∃ (k : Nat) (F : List Nat), k ≤ p.ress.length ∧ i = .int .i64 k ∧ Sn w wr [⟨flat 9 ((linesR p k).map .string), u, F⟩, boxI w.heap.size 34 [.int .i64 p.dl, .slice A1 p.acts.length c1, .slice A2 p.lks.length c2, .slice A3 p.ress.length c3, .slice A4 p.stk.length c4]]) (fun _ i _ => p.ress.length - (intOf i).toNat)
  case atStart => exact ⟨0, _, Nat.zero_le _, rfl, S4.out⟩
  case round =>
    obtain ⟨k, F, hkl, rfl, hS⟩ := hrel
    have T1 := Lib.hid hS
    clear hS S4
    obtain ⟨_, U, cu, hu, _⟩ := rd_flat (T1.out.rd 0 rfl)
    rw [List.length_map] at hu
    subst hu
    by_cases hlt : k < p.ress.length
    · have hlt' : (k : Int) < (p.ress.length : Int) := by omega
      have k0 : (0 : Int) ≤ (k : Int) := by omega
      have KSK := Lib.hid (linesR_succ (p := p) hlt)
      have hkn := linesR_len p k
      obtain ⟨b3, o3, rfl, hb3, hc3⟩ := G3.out k hlt
      obtain ⟨M0, m0, M1, m1, x0, x1, ru, rc⟩ := hc3 k hlt
      have y0 := (T1.out.1.cell (p := ⟨b3, o3 + k * 2, none⟩) hb3).trans x0
      have y1 := (T1.out.1.cell (p := ⟨b3, o3 + k * 2 + 1, none⟩) hb3).trans x1
      have HM := Lib.hid (HRS.out _ (List.getElem_mem hlt))
      have RM := Lib.hid (mk_rdResource_t ru rc)
      clear x0 x1 ru rc hc3
      generalize p.ress[k] = r at y0 y1 HM RM KSK
      generalize linesR p k = vs at T1 KSK hkn
      have T5 := Lib.hid (T1.out.box 52 [.slice M0 r.st.length m0, .slice M1 r.su.length m1])
      go_wp2_with fail
      clear y0 y1 T1
      refine (resourceLine_any r _ _ HM.out (by exact T5.out.old RM.out) (HT.out.below T5.out.1 (Nat.le_refl _))).mono ?_
      rintro e w6 ⟨rfl, b⟩
      have T6 := Lib.hid ((T5.out.go b).drop 0)
      clear T5 b
      generalize rsLine r = y at KSK ⊢
      have OW := Lib.hid (show w6.ownsRow w.heap.size 9 1 (.slice U vs.length cu) vs.length (vs.map .string) from by have := (own_flat (T6.out.own 0 rfl).1).1; rwa [List.length_map] at this)
      have hzs := T6.out.1.size
      go_wp2_with (first | (at_builtin; refine wpList_append_own_at _ rfl (.tmp 28) (.tmp 31) 48 rfl w.heap.size 9 i0 (.string ⟨#[]⟩) 1 16 Tryz.underlying48 hi0 hz0 hz1 hz2 rfl (by decide) _ vs.length (vs.map .string) rfl (by exact OW.out.alloc _) ⟨w6.heap.size, 0, none⟩ 1 1 [.string y] rfl rfl ?c1 ?c2 ?c3 ?c4 ?c5 ?_) | fail)
      try case c1 => exact new_cell _ _ _
      case c2 => simp [Value.oneCell']
      case c3 => unfold maxLen; omega
      case c4 => omega
      case c5 => first | omega | (simp; omega)
      intro v' w8 hown8 hg8 _ hat8
      obtain ⟨F9, h9⟩ := T6.out.appV hown8 hg8 (by simpa using hat8)
      have T9 := Lib.hid h9
      clear hown8 hg8 hat8 h9 OW hzs T6
      go_wp2
      go_roundw
      case rel => exact ⟨k + 1, F9, by omega, by go_num, by rw [KSK.out, List.map_append]; exact T9.out⟩
      case measure => simp [intOf]; omega
    · have hge : ¬ (k : Int) < (p.ress.length : Int) := by omega
      obtain rfl : k = p.ress.length := by omega
      have S5 := Lib.hid (show Sn w wr (⟨flat 9 ((linesS p 0).map .string), _, F⟩ :: _) from by rw [linesS_0]; exact T1.out)
      obtain ⟨e0, e1, e2, e3, e4, ef⟩ := (T1.out.bk 1 rfl).c5
      clear T1
      go_wp2
      clear e0 e1 e2 e3 e4 ef
      go_loopw [3, 37] (fun u i wr => ∃ (k : Nat) (F : List Nat), k ≤ p.stk.length ∧ i = .int .i64 k ∧ Sn w wr [⟨flat 9 ((linesS p k).map .string), u, F⟩, boxI w.heap.size 34 [.int .i64 p.dl, .slice A1 p.acts.length c1, .slice A2 p.lks.length c2, .slice A3 p.ress.length c3, .slice A4 p.stk.length c4]]) (fun _ i _ => p.stk.length - (intOf i).toNat)
      case atStart => exact ⟨0, _, Nat.zero_le _, rfl, S5.out⟩
      case round =>
        obtain ⟨k, F, hkl, rfl, hS⟩ := hrel
        have T1 := Lib.hid hS
        clear hS S5
        obtain ⟨_, U, cu, hu, _⟩ := rd_flat (T1.out.rd 0 rfl)
        rw [List.length_map] at hu
        subst hu
        by_cases hlt : k < p.stk.length
        · have hlt' : (k : Int) < (p.stk.length : Int) := by omega
          have k0 : (0 : Int) ≤ (k : Int) := by omega
          have KSK := Lib.hid (linesS_succ (p := p) hlt)
          have hkn := linesS_len p k
          obtain ⟨b3, o3, rfl, hb3, hc3⟩ := G4.out k hlt
          have y0 := (T1.out.1.cell (p := ⟨b3, o3 + k, none⟩) hb3).trans (hc3 k hlt)
          have HM := HSK.out _ (List.getElem_mem hlt)
          have J2 := Lib.hid (show joinB [stWd, fmtB p.stk[k]] ⟨#[32]⟩ = stLine p.stk[k] from join2P _ _ _)
          have hfs := fmtB_size p.stk[k]
          clear hc3
          generalize p.stk[k] = n at y0 HM KSK J2 hfs
          generalize linesS p k = vs at T1 KSK hkn
          go_wp2_with fail
          clear y0
          refine (implFmt_any n _ (by omega) (by omega) (HT.out.below T1.out.1 (Nat.le_refl _))).mono ?_
          rintro e w5 ⟨rfl, b⟩
          have T2 := Lib.hid (T1.out.go b)
          clear T1 b
          have RJ := Lib.hid (newRow_any w5 9 [stWd, fmtB n] (by simp [maxLen]))
          have SJ := Lib.hid (T2.out.go ((Below.refl _ w5).alloc (Nat.le_refl _) (.cells #[.string stWd, .string (fmtB n)] 9)))
          go_wp2_with fail
          refine (joinAll_any [stWd, fmtB n] ⟨#[32]⟩ _ _ (by first | exact RJ.out | simpa using RJ.out) (by simp [tot]; omega) (by simp) (by decide)).mono ?_
          rintro e w6 ⟨rfl, b⟩
          have T6 := Lib.hid (SJ.out.go b)
          clear RJ SJ b T2
          rw [J2.out]
          generalize stLine n = y at KSK ⊢
          have OW := Lib.hid (show w6.ownsRow w.heap.size 9 1 (.slice U vs.length cu) vs.length (vs.map .string) from by have := (own_flat (T6.out.own 0 rfl).1).1; rwa [List.length_map] at this)
          have hzs := T6.out.1.size
          go_wp2_with (first | (at_builtin; refine wpList_append_own_at _ rfl (.tmp 41) (.tmp 46) 48 rfl w.heap.size 9 i0 (.string ⟨#[]⟩) 1 16 Tryz.underlying48 hi0 hz0 hz1 hz2 rfl (by decide) _ vs.length (vs.map .string) rfl (by exact OW.out.alloc _) ⟨w6.heap.size, 0, none⟩ 1 1 [.string y] rfl rfl ?c1 ?c2 ?c3 ?c4 ?c5 ?_) | fail)
          try case c1 => exact new_cell _ _ _
          case c2 => simp [Value.oneCell']
          case c3 => unfold maxLen; omega
          case c4 => omega
          case c5 => first | omega | (simp; omega)
          intro v' w8 hown8 hg8 _ hat8
          obtain ⟨F9, h9⟩ := T6.out.appV hown8 hg8 (by simpa using hat8)
          have T9 := Lib.hid h9
          clear hown8 hg8 hat8 h9 OW hzs T6
          go_wp2
          go_roundw
          case rel => exact ⟨k + 1, F9, by omega, by go_num, by rw [KSK.out, List.map_append]; exact T9.out⟩
          case measure => simp [intOf]; omega
        · have hge : ¬ (k : Int) < (p.stk.length : Int) := by omega
          obtain rfl : k = p.stk.length := by omega
          have S6 := Lib.hid (show Sn w wr (⟨flat 9 ((linesA p 0).map .string), _, F⟩ :: _) from by rw [linesA_0]; exact T1.out)
          obtain ⟨e0, e1, e2, e3, e4, ef⟩ := (T1.out.bk 1 rfl).c5
          clear T1
          go_wp2
          clear e0 e1 e2 e3 e4 ef
          go_loopw [3, 52] (fun u i wr => ∃ (k : Nat) (F : List Nat), k ≤ p.acts.length ∧ i = .int .i64 k ∧ Sn w wr [⟨flat 9 ((linesA p k).map .string), u, F⟩, boxI w.heap.size 34 [.int .i64 p.dl, .slice A1 p.acts.length c1, .slice A2 p.lks.length c2, .slice A3 p.ress.length c3, .slice A4 p.stk.length c4]]) (fun _ i _ => p.acts.length - (intOf i).toNat)
          case atStart => exact ⟨0, _, Nat.zero_le _, rfl, S6.out⟩
          case round =>
            obtain ⟨k, F, hkl, rfl, hS⟩ := hrel
            have T1 := Lib.hid hS
            clear hS S6
            obtain ⟨_, U, cu, hu, _⟩ := rd_flat (T1.out.rd 0 rfl)
            rw [List.length_map] at hu
            subst hu
            by_cases hlt : k < p.acts.length
            · have hlt' : (k : Int) < (p.acts.length : Int) := by omega
              have k0 : (0 : Int) ≤ (k : Int) := by omega
              have KSK := Lib.hid (linesA_succ (p := p) hlt)
              have hkn := linesA_len p k
              obtain ⟨b3, o3, rfl, hb3, hc3⟩ := G1.out k hlt
              obtain ⟨M0, m0, x0, x1, x2, ru⟩ := hc3 k hlt
              have y0 := (T1.out.1.cell (p := ⟨b3, o3 + k * 3, none⟩) hb3).trans x0
              have y1 := (T1.out.1.cell (p := ⟨b3, o3 + k * 3 + 1, none⟩) hb3).trans x1
              have y2 := (T1.out.1.cell (p := ⟨b3, o3 + k * 3 + 2, none⟩) hb3).trans x2
              have HM := Lib.hid (act_parts HP.out (List.getElem_mem hlt))
              have RM := Lib.hid (mk_rdActivity_t (d := p.acts[k]) ru)
              clear x0 x1 x2 ru hc3
              generalize p.acts[k] = a at y0 y1 y2 HM RM KSK
              generalize linesA p k = vs at T1 KSK hkn
              have T5 := Lib.hid (T1.out.box 57 [.string a.nm, .int .i64 a.fa, .slice M0 a.ms.length m0])
              go_wp2_with fail
              clear y0 y1 y2 T1
              refine (activityLine_any a _ _ HM.out.1 HM.out.2.1 HM.out.2.2.1 HM.out.2.2.2 (by exact T5.out.old RM.out) (HT.out.below T5.out.1 (Nat.le_refl _))).mono ?_
              rintro e w6 ⟨rfl, b⟩
              have T6 := Lib.hid ((T5.out.go b).drop 0)
              clear T5 b
              generalize acLine a = y at KSK ⊢
              have OW := Lib.hid (show w6.ownsRow w.heap.size 9 1 (.slice U vs.length cu) vs.length (vs.map .string) from by have := (own_flat (T6.out.own 0 rfl).1).1; rwa [List.length_map] at this)
              have hzs := T6.out.1.size
              go_wp2_with (first | (at_builtin; refine wpList_append_own_at _ rfl (.tmp 56) (.tmp 59) 48 rfl w.heap.size 9 i0 (.string ⟨#[]⟩) 1 16 Tryz.underlying48 hi0 hz0 hz1 hz2 rfl (by decide) _ vs.length (vs.map .string) rfl (by exact OW.out.alloc _) ⟨w6.heap.size, 0, none⟩ 1 1 [.string y] rfl rfl ?c1 ?c2 ?c3 ?c4 ?c5 ?_) | fail)
              try case c1 => exact new_cell _ _ _
              case c2 => simp [Value.oneCell']
              case c3 => unfold maxLen; omega
              case c4 => omega
              case c5 => first | omega | (simp; omega)
              intro v' w8 hown8 hg8 _ hat8
              obtain ⟨F9, h9⟩ := T6.out.appV hown8 hg8 (by simpa using hat8)
              have T9 := Lib.hid h9
              clear hown8 hg8 hat8 h9 OW hzs T6
              go_wp2
              go_roundw
              case rel => exact ⟨k + 1, F9, by omega, by go_num, by rw [KSK.out, List.map_append]; exact T9.out⟩
              case measure => simp [intOf]; omega
            · have hge : ¬ (k : Int) < (p.acts.length : Int) := by omega
              obtain rfl : k = p.acts.length := by omega
              have S7 := Lib.hid (show Sn w wr (⟨flat 9 ((linesL p 0).map .string), _, F⟩ :: _) from by rw [linesL_0]; exact T1.out)
              obtain ⟨e0, e1, e2, e3, e4, ef⟩ := (T1.out.bk 1 rfl).c5
              clear T1
              go_wp2
              clear e0 e1 e2 e3 e4 ef
              go_loopw [3, 65] (fun u i wr => ∃ (k : Nat) (F : List Nat), k ≤ p.lks.length ∧ i = .int .i64 k ∧ Sn w wr [⟨flat 9 ((linesL p k).map .string), u, F⟩, boxI w.heap.size 34 [.int .i64 p.dl, .slice A1 p.acts.length c1, .slice A2 p.lks.length c2, .slice A3 p.ress.length c3, .slice A4 p.stk.length c4]]) (fun _ i _ => p.lks.length - (intOf i).toNat)
              case atStart => exact ⟨0, _, Nat.zero_le _, rfl, S7.out⟩
              case round =>
                obtain ⟨k, F, hkl, rfl, hS⟩ := hrel
                have T1 := Lib.hid hS
                clear hS S7
                obtain ⟨_, U, cu, hu, _⟩ := rd_flat (T1.out.rd 0 rfl)
                rw [List.length_map] at hu
                subst hu
                by_cases hlt : k < p.lks.length
                · have hlt' : (k : Int) < (p.lks.length : Int) := by omega
                  have k0 : (0 : Int) ≤ (k : Int) := by omega
                  have KSK := Lib.hid (linesL_succ (p := p) hlt)
                  have hkn := linesL_len p k
                  obtain ⟨b3, o3, rfl, hb3, hc3⟩ := G2.out k hlt
                  obtain ⟨x0, x1, x2, x3⟩ := hc3 k hlt
                  have y0 := (T1.out.1.cell (p := ⟨b3, o3 + k * 4, none⟩) hb3).trans x0
                  have y1 := (T1.out.1.cell (p := ⟨b3, o3 + k * 4 + 1, none⟩) hb3).trans x1
                  have y2 := (T1.out.1.cell (p := ⟨b3, o3 + k * 4 + 2, none⟩) hb3).trans x2
                  have y3 := (T1.out.1.cell (p := ⟨b3, o3 + k * 4 + 3, none⟩) hb3).trans x3
                  have HM := Lib.hid (HLK.out _ (List.getElem_mem hlt))
                  clear x0 x1 x2 x3 hc3
                  generalize p.lks[k] = l at y0 y1 y2 y3 HM KSK
                  generalize linesL p k = vs at T1 KSK hkn
                  have T5 := Lib.hid (T1.out.box 62 [.int .i64 l.fr, .int .i64 l.to, .bool l.fe, .int .i64 l.lag])
                  obtain ⟨e0, e1, e2, e3, e4, ef⟩ := (T1.out.bk 1 rfl).c5
                  have hlp := (T1.out.bk 1 rfl).lt
                  go_wp2_with fail
                  clear e0 e1 e2 e3 e4 ef
                  clear y0 y1 y2 y3 T1 hlp
                  refine (linkLine_any p l _ _ HP.out HM.out (by exact T5.out.old HV.out) (HT.out.below T5.out.1 (Nat.le_refl _))).mono ?_
                  rintro e w6 ⟨rfl, b⟩
                  have T6 := Lib.hid ((T5.out.go b).drop 0)
                  clear T5 b
                  generalize lkLine p l = y at KSK ⊢
                  have OW := Lib.hid (show w6.ownsRow w.heap.size 9 1 (.slice U vs.length cu) vs.length (vs.map .string) from by have := (own_flat (T6.out.own 0 rfl).1).1; rwa [List.length_map] at this)
                  have hzs := T6.out.1.size
                  go_wp2_with (first | (at_builtin; refine wpList_append_own_at _ rfl (.tmp 69) (.tmp 73) 48 rfl w.heap.size 9 i0 (.string ⟨#[]⟩) 1 16 Tryz.underlying48 hi0 hz0 hz1 hz2 rfl (by decide) _ vs.length (vs.map .string) rfl (by exact OW.out.alloc _) ⟨w6.heap.size, 0, none⟩ 1 1 [.string y] rfl rfl ?c1 ?c2 ?c3 ?c4 ?c5 ?_) | fail)
                  try case c1 => exact new_cell _ _ _
                  case c2 => simp [Value.oneCell']
                  case c3 => unfold maxLen; omega
                  case c4 => omega
                  case c5 => first | omega | (simp; omega)
                  intro v' w8 hown8 hg8 _ hat8
                  obtain ⟨F9, h9⟩ := T6.out.appV hown8 hg8 (by simpa using hat8)
                  have T9 := Lib.hid h9
                  clear hown8 hg8 hat8 h9 OW hzs T6
                  go_wp2
                  go_roundw
                  case rel => exact ⟨k + 1, F9, by omega, by go_num, by rw [KSK.out, List.map_append]; exact T9.out⟩
                  case measure => simp [intOf]; omega
                · have hge : ¬ (k : Int) < (p.lks.length : Int) := by omega
                  obtain rfl : k = p.lks.length := by omega
                  have HRR := Lib.hid (rd_flat (T1.out.rd 0 rfl))
                  have hkn := linesL_len p p.lks.length
                  have hkt := HTOT.out
                  generalize linesL p p.lks.length = vs at T1 HRR HR hkn hkt
                  go_wp2_with fail
                  refine (joinAll_any vs ⟨#[10]⟩ _ _ (by first | exact HRR.out | simpa using HRR.out) (by omega) (by omega) (by decide)).mono ?_
                  rintro e w5 ⟨rfl, b⟩
                  have T5 := Lib.hid (T1.out.go b)
                  have hjs := join_sizeP vs ⟨#[10]⟩
                  have hnz : (⟨#[10]⟩ : ByteArray).size = 1 := rfl
                  rw [show joinB vs nlB ++ nlB = joinB vs ⟨#[10]⟩ ++ ⟨#[10]⟩ from rfl] at HR
                  generalize joinB vs ⟨#[10]⟩ = jv at HR hjs ⊢
                  have hcat : ¬ 9223372036854775807 < jv.size + 1 := by rw [hnz] at hjs; omega
                  go_wp2
                  go_ret
                  exact ⟨ret_sP HR.out.symm, T5.out.1⟩
end Go.Proofs.YtlcmnmobfhajdabGreatDoor
