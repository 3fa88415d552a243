/- DERIVED. CONTRACTS of chapter 12: ParseLiteral, of the program and of the model. -/
import Derived.Test.YtilcfbffjjdgnabGreatDoorLtF
import Derived.Test.YtilcfbffjjdgnabGreatDoorCutS
import Derived.Test.YtilcfbffjjdgnabGreatDoorPar
import Derived.Test.YtilcfbffjjdgnabGreatDoorSplit
import Derived.Test.YtilcfbffjjdgnabGreatDoorPrB
namespace Go.Proofs.YtilcfbffjjdgnabGreatDoor
open Go.RowKit Go.Shelf
set_option linter.unusedVariables false

theorem accLt_no {p : Pj} {s : ByteArray} {k : Int} (h : (parseB (cutB s k)).2 = false) : accLt p s k = false := by rw [accLt, h]; rfl
theorem accLt_lit {p : Pj} {s : ByteArray} {k : Int} (h : (parseB (cutB s k)).2 = true) : accLt p s k = litOkB p (gLt p s k) := by rw [accLt, h]; rfl
theorem cutB_size (s : ByteArray) (k : Int) : (cutB s k).size ≤ s.size := by
  rw [← lst_len, ← lst_len, lst_cutB]
  unfold Lib.cut
  split
  · simp only [List.length_drop]; omega
  · simp
theorem acc_step {p : Pj} {s : ByteArray} {k : Nat} (h : ∀ j : Nat, 1 ≤ j → j < k → accLt p s (j : Int) = false) (hk : accLt p s (k : Int) = false) : ∀ j : Nat, 1 ≤ j → j < k + 1 → accLt p s (j : Int) = false := fun j h1 h2 => by
  by_cases e : j = k
  · subst e; exact hk
  · exact h j h1 (by omega)
set_option maxRecDepth 100000 in
set_option maxHeartbeats 8000000 in
theorem implParseLiteral_any (p : Pj) (s : ByteArray) (v : Value) (w : World) (hv : (trPj p).rd w v) (hk : (trPj p).ok) (hs : s.size ≤ 1073741824) (ht : TB w) (hm : MX w) :
    Calls Tryz.prog 13 #[v, .string s] w fun e w' => e = .returned (.tuple #[ltV (resLt p s), .bool (okLt p s)]) ∧ Below w.heap.size w w' := by
  have HK := Lib.hid hk
  have HT := Lib.hid ht
  have HM := Lib.hid hm
  have HV := Lib.hid hv
  obtain ⟨A1, c1, A2, c2, A3, c3, A4, c4, rfl, _⟩ := rdProject_t hv
  have HNO := Lib.hid (@resLt_no p s)
  have HAT := Lib.hid (fun k h1 h4 h hk => @resLt_at p s k h1 h4 h hk)
  generalize okLt p s = ok at HNO HAT ⊢
  generalize resLt p s = res at HNO HAT ⊢
  have S0 := Lib.hid (((Sn.start w).box 36 [.int .i64 p.dl, .slice A1 p.acts.length c1, .slice A2 p.lks.length c2, .slice A3 p.ress.length c3, .slice A4 p.stk.length c4]).box 38 [.int .i64 0, .int .i64 0, .int .i64 0])
  simp only [World.size_alloc] at S0
  clear hv hk ht hm
  go_enter Tryz.func13, Tryz.ntmps13
  go_wp2
  go_loopw [6] (fun i wr => ∃ k : Nat, 1 ≤ k ∧ k ≤ 5 ∧ i = .int .i64 k ∧ Hid (∀ j : Nat, 1 ≤ j → j < k → accLt p s (j : Int) = false) ∧ Sn w wr [boxI (w.heap.size + 1) 38 [.int .i64 0, .int .i64 0, .int .i64 0], boxI w.heap.size 36 [.int .i64 p.dl, .slice A1 p.acts.length c1, .slice A2 p.lks.length c2, .slice A3 p.ress.length c3, .slice A4 p.stk.length c4]]) (fun i _ => 5 - (intOf i).toNat)
  case atStart => exact ⟨1, by omega, by omega, rfl, Lib.hid (fun j h1 h2 => absurd h2 (by omega)), S0.out⟩
  case round =>
    obtain ⟨k, hk1, hk5, rfl, hall, hS⟩ := hrel
    have S1 := Lib.hid hS
    clear hS S0
    by_cases hlt : k < 5
    · have hlt' : (k : Int) ≤ 4 := by omega
      have AT := Lib.hid (HAT.out k hk1 hlt hall.out)
      have STEP := Lib.hid (fun h => @acc_step p s k hall.out h)
      have ANO := Lib.hid (fun h => @accLt_no p s (k : Int) h)
      have ALT := Lib.hid (fun h => @accLt_lit p s (k : Int) h)
      have hbs := cutB_size s (k : Int)
      have hg : gLt p s (k : Int) = ⟨(k : Int), plcB p.acts (cutA s (k : Int)), (parseB (cutB s (k : Int))).1⟩ := rfl
      rw [hg] at AT ALT
      clear hall hg HAT HNO
      generalize accLt p s (k : Int) = ac at AT STEP ANO ALT
      go_wp2_with fail
      refine (implLiteralSign_any (k : Int) _).mono ?_
      rintro e w2 ⟨rfl, b⟩
      have S2 := Lib.hid (S1.out.go b)
      clear S1 b
      go_wp2_with fail
      refine (cutS_any s (ltSg (k : Int)) _ hs (HM.out.below S2.out.1 (Nat.le_refl _))).mono ?_
      rintro e w3 ⟨he, b⟩
      obtain rfl : e = .returned (.tuple #[.string (cutA s (k : Int)), .string (cutB s (k : Int)), .bool (cutF s (k : Int))]) := he
      have S3 := Lib.hid (S2.out.go b)
      clear S2 b
      generalize cutF s (k : Int) = cf
      generalize cutA s (k : Int) = ca at AT ALT ⊢
      generalize cutB s (k : Int) = cb at AT ANO ALT hbs ⊢
      go_wp2_with fail
      refine (implParse_any cb _ (by unfold maxLen; omega) (HT.out.below S3.out.1 (Nat.le_refl _))).mono ?_
      rintro e w4 ⟨he, b⟩
      obtain rfl : e = _ := he
      have S4 := Lib.hid (S3.out.go b)
      clear S3 b
      generalize (parseB cb).2 = po at ANO ALT ⊢
      generalize (parseB cb).1 = pv at AT ALT ⊢
      obtain ⟨e0, e1, e2, e3, e4, ef⟩ := (S4.out.bk 1 rfl).c5
      go_wp2_with fail
      clear e0 e1 e2 e3 e4 ef
      refine (implActivityIndex_any p ca _ _ (by exact S4.out.old HV.out) HK.out).mono ?_
      rintro e w5 ⟨rfl, b⟩
      have S5 := Lib.hid (S4.out.go b)
      clear S4 b
      generalize plcB p.acts ca = ai at AT ALT ⊢
      have S6 := Lib.hid (S5.out.box 38 [.int .i64 (k : Int), .int .i64 ai, .int .i64 pv])
      obtain ⟨e0, e1, e2, e3, e4, ef⟩ := (S5.out.bk 1 rfl).c5
      have hlp := (S5.out.bk 1 rfl).lt
      rcases po with _ | _
      · have SA := Lib.hid (STEP.out (ANO.out rfl))
        clear STEP ANO ALT AT
        go_wp2
        go_roundw
        case rel => exact ⟨k + 1, by omega, by omega, by go_num, SA, S6.out.drop 0⟩
        case measure => simp [intOf]; omega
      · have AL := Lib.hid (ALT.out rfl)
        clear ALT ANO
        go_wp2_with fail
        clear e0 e1 e2 e3 e4 ef
        clear hlp S5
        refine (implLiteralOk_any p ⟨(k : Int), ai, pv⟩ _ _ (by exact S6.out.old HV.out) HK.out).mono ?_
        rintro e w7 ⟨rfl, b⟩
        have S7 := Lib.hid (S6.out.go b)
        clear S6 b
        rw [← AL.out]
        rcases ac with _ | _
        · have SA := Lib.hid (STEP.out rfl)
          clear STEP AT AL
          go_wp2
          go_roundw
          case rel => exact ⟨k + 1, by omega, by omega, by go_num, SA, S7.out.drop 0⟩
          case measure => simp [intOf]; omega
        · obtain ⟨hok, hres⟩ := AT.out rfl
          have HO := Lib.hid hok
          have HR := Lib.hid hres
          clear STEP AT AL hok hres
          obtain ⟨e0, e1, e2, ef⟩ := (S7.out.bk 0 rfl).c3
          obtain ⟨q0, q1, q2, qf⟩ := (S7.out.bk 1 rfl).c3
          go_wp2
          have SZ := ((S7.out.boxSet 1 rfl 0 (.int .i64 (k : Int))).boxSet 1 rfl 1 (.int .i64 ai)).boxSet 1 rfl 2 (.int .i64 pv)
          refine bodyPost_ret (v := .tuple #[.agg #[.int .i64 (k : Int), .int .i64 ai, .int .i64 pv], .bool true]) (by simp [results, Tryz.results13, go_sem, q0, q1, q2]) rfl ⟨by rw [HO.out, HR.out]; rfl, SZ.1⟩
    · obtain rfl : k = 5 := by omega
      obtain ⟨hok, hres⟩ := HNO.out hall.out
      have HO := Lib.hid hok
      have HR := Lib.hid hres
      clear hall HAT HNO hok hres
      obtain ⟨q0, q1, q2, qf⟩ := (S1.out.bk 0 rfl).c3
      go_wp2
      have SZ := ((S1.out.boxSet 0 rfl 0 (.int .i64 0)).boxSet 0 rfl 1 (.int .i64 0)).boxSet 0 rfl 2 (.int .i64 0)
      refine bodyPost_ret (v := .tuple #[.agg #[.int .i64 0, .int .i64 0, .int .i64 0], .bool false]) (by simp [results, Tryz.results13, go_sem, q0, q1, q2]) rfl ⟨by rw [HO.out, HR.out]; rfl, SZ.1⟩

theorem accM_def {p : Pj} {s : ByteArray} {k : Int} : accM p s k = (decide (fmtLt p (mLt p s k) = s) && !decide (s = ⟨#[]⟩)) := rfl
set_option maxRecDepth 100000 in
set_option maxHeartbeats 8000000 in
theorem specParseLiteral_any (p : Pj) (s : ByteArray) (v : Value) (w : World) (hv : (trPj p).rd w v) (hk : (trPj p).ok) (hs : s.size ≤ 1073741824) :
    Calls Tryz.prog 12 #[v, .string s] w fun e w' => e = .returned (.tuple #[ltV (resLt p s), .bool (okLt p s)]) ∧ Below w.heap.size w w' := by
  have HK := Lib.hid hk
  have HV := Lib.hid hv
  obtain ⟨A1, c1, A2, c2, A3, c3, A4, c4, rfl, _⟩ := rdProject_t hv
  have HNO := Lib.hid (@resLt_no p s)
  have HAT := Lib.hid (fun k h1 h4 h hk => @resLt_at p s k h1 h4 h hk)
  have HAG := Lib.hid (fun k => agreeLt p s k)
  generalize okLt p s = ok at HNO HAT ⊢
  generalize resLt p s = res at HNO HAT ⊢
  have S0 := Lib.hid (((Sn.start w).box 36 [.int .i64 p.dl, .slice A1 p.acts.length c1, .slice A2 p.lks.length c2, .slice A3 p.ress.length c3, .slice A4 p.stk.length c4]).box 38 [.int .i64 0, .int .i64 0, .int .i64 0])
  simp only [World.size_alloc] at S0
  clear hv hk
  have HWL := Lib.hid (splitB_len s sgS)
  have HSZ := Lib.hid (split_szs s sgS)
  have HM := Lib.hid (fun k => @accM_def p s k)
  have HML := Lib.hid (show ∀ k, mLt p s k = ⟨k, plcB p.acts ((splitB s sgS).getD 0 ⟨#[]⟩), (parseB ((splitB s sgS).getD ((splitB s sgS).length - 1) ⟨#[]⟩)).1⟩ from fun k => rfl)
  go_enter Tryz.func12, Tryz.ntmps12
  go_wp2_with fail
  refine (specSplitAny_any s ⟨#[60, 62, 61, 33]⟩ _ (by omega) (by decide)).mono ?_
  rintro e w1 ⟨v1, rfl, ho, b⟩
  rw [show splitB s ⟨#[60, 62, 61, 33]⟩ = splitB s sgS from rfl] at ho
  have hlen := HWL.out
  have R1 := Lib.hid (own_rd ho (by simp only [maxLen]; omega))
  have S1 := Lib.hid (S0.out.go b)
  clear ho b S0
  generalize splitB s sgS = ws at R1 HSZ HML hlen ⊢
  obtain ⟨m, hm⟩ : ∃ m, ws.length = m + 1 := ⟨ws.length - 1, by omega⟩
  have hml : m ≤ 1073741825 := by omega
  have hwm : wrap64 (m : Int) = (m : Int) := by unfold wrap64; omega
  have hm0 : m < ws.length := by omega
  obtain ⟨U, uc, rfl, ga⟩ := rdS_at R1.out
  have GA := Lib.hid ga
  clear ga
  obtain ⟨bm, om, rfl, hbm, hcm⟩ := GA.out m hm0
  have ym := hcm m hm0
  have y0 := hcm 0 (by omega)
  rw [Nat.add_zero] at y0
  have MLT := Lib.hid (show ∀ k, mLt p s k = ⟨k, plcB p.acts ws[0], (parseB ws[m]).1⟩ from fun k => by
    have e1 : ws.getD 0 ⟨#[]⟩ = ws[0] := by rw [List.getD, List.getElem?_eq_getElem (show 0 < ws.length by omega)]; rfl
    have e2 : ws.getD (ws.length - 1) ⟨#[]⟩ = ws[m] := by rw [List.getD, show ws.length - 1 = m from by omega, List.getElem?_eq_getElem hm0]; rfl
    rw [HML.out k, e1, e2])
  have hsm := HSZ.out ws[m] (List.getElem_mem hm0)
  have LEN := Lib.hid hm
  generalize ws[m] = last at ym MLT hsm
  generalize ws[0] = first at y0 MLT
  have q0 : (0 : Int) ≤ (m : Int) := by omega
  have q1 : (m : Int) < (m : Int) + 1 := by omega
  have q2 : (m : Int) < ((m + 1 : Nat) : Int) := by omega
  have q3 : (0 : Int) < (m : Int) + 1 := by omega
  have q4 : (0 : Int) < ((m + 1 : Nat) : Int) := by omega
  have q5 : 0 < m + 1 := by omega
  rw [hm] at R1 ⊢
  have Y0 := Lib.hid (And.intro y0 hbm)
  clear hcm HML HSZ HWL hlen hm0 GA y0
  go_wp2_with fail
  refine (specParse_any last _ (by unfold maxLen; omega)).mono ?_
  rintro e w2 ⟨he, b⟩
  obtain rfl : e = _ := he
  have S2 := Lib.hid (S1.out.go b)
  have Z0 := Lib.hid (And.intro ((b.cell (p := ⟨bm, om, none⟩) Y0.out.2).trans Y0.out.1) (Nat.lt_of_lt_of_le Y0.out.2 b.size))
  generalize (parseB last).1 = pv at MLT ⊢
  generalize (parseB last).2 = po
  clear S1 b hm LEN ym hsm Y0 R1
  go_wp2
  go_loopw [9] (fun i wr => ∃ k : Nat, 1 ≤ k ∧ k ≤ 5 ∧ i = .int .i64 k ∧ Hid (∀ j : Nat, 1 ≤ j → j < k → accLt p s (j : Int) = false) ∧ Below w2.heap.size w2 wr ∧ Sn w wr [boxI (w.heap.size + 1) 38 [.int .i64 0, .int .i64 0, .int .i64 0], boxI w.heap.size 36 [.int .i64 p.dl, .slice A1 p.acts.length c1, .slice A2 p.lks.length c2, .slice A3 p.ress.length c3, .slice A4 p.stk.length c4]]) (fun i _ => 5 - (intOf i).toNat)
  case atStart => exact ⟨1, by omega, by omega, rfl, Lib.hid (fun j h1 h2 => absurd h2 (by omega)), Below.refl _ _, S2.out⟩
  case round =>
    obtain ⟨k, hk1, hk5, rfl, hall, hbw, hS⟩ := hrel
    have S3 := Lib.hid hS
    have BW := Lib.hid hbw
    clear hS S2 hbw
    by_cases hlt : k < 5
    · have hlt' : (k : Int) ≤ 4 := by omega
      have AG := HAG.out (k : Int)
      have AT := Lib.hid (fun h : accM p s (k : Int) = true => (show ok = true ∧ res = mLt p s (k : Int) from by
        have := HAT.out k hk1 hlt hall.out (AG.1 ▸ h)
        exact ⟨this.1, this.2.trans (AG.2 h).symm⟩))
      have STEP := Lib.hid (fun h : accM p s (k : Int) = false => @acc_step p s k hall.out (AG.1 ▸ h))
      have MD := Lib.hid (HM.out (k : Int))
      rw [MLT.out (k : Int)] at AT MD
      clear AG hall HAT HNO HAG HM
      generalize accM p s (k : Int) = ac at AT STEP MD
      have y0 := (BW.out.cell (p := ⟨bm, om, none⟩) Z0.out.2).trans Z0.out.1
      have hy0 := Nat.lt_of_lt_of_le Z0.out.2 BW.out.size
      obtain ⟨e0, e1, e2, e3, e4, ef⟩ := (S3.out.bk 1 rfl).c5
      have hlp := (S3.out.bk 1 rfl).lt
      go_wp2_with fail
      have CE := Lib.hid (fun (W : World) (h : Below wr.heap.size wr W) => show Hid (Below wr.heap.size wr W) ∧ W.cell? ⟨w.heap.size, 0, none⟩ = some (.int .i64 p.dl) ∧ W.cell? ⟨w.heap.size, 1, none⟩ = some (.slice A1 p.acts.length c1) ∧ W.cell? ⟨w.heap.size, 2, none⟩ = some (.slice A2 p.lks.length c2) ∧ W.cell? ⟨w.heap.size, 3, none⟩ = some (.slice A3 p.ress.length c3) ∧ W.cell? ⟨w.heap.size, 4, none⟩ = some (.slice A4 p.stk.length c4) ∧ W.cell? ⟨bm, om, none⟩ = some (.string first) from ⟨Lib.hid h, (h.cell (p := ⟨w.heap.size, 0, none⟩) hlp).trans (by exact by simpa using e0), (h.cell (p := ⟨w.heap.size, 1, none⟩) hlp).trans (by exact by simpa using e1), (h.cell (p := ⟨w.heap.size, 2, none⟩) hlp).trans (by exact by simpa using e2), (h.cell (p := ⟨w.heap.size, 3, none⟩) hlp).trans (by exact by simpa using e3), (h.cell (p := ⟨w.heap.size, 4, none⟩) hlp).trans (by exact by simpa using e4), (h.cell (p := ⟨bm, om, none⟩) hy0).trans (by exact by simpa using y0)⟩)
      refine wp_region_held_drew (S := fun W => Hid (Below wr.heap.size wr W) ∧ W.cell? ⟨w.heap.size, 0, none⟩ = some (.int .i64 p.dl) ∧ W.cell? ⟨w.heap.size, 1, none⟩ = some (.slice A1 p.acts.length c1) ∧ W.cell? ⟨w.heap.size, 2, none⟩ = some (.slice A2 p.lks.length c2) ∧ W.cell? ⟨w.heap.size, 3, none⟩ = some (.slice A3 p.ress.length c3) ∧ W.cell? ⟨w.heap.size, 4, none⟩ = some (.slice A4 p.stk.length c4) ∧ W.cell? ⟨bm, om, none⟩ = some (.string first)) (by kernel_rfl) (CE.out _ (Below.refl _ _).drew) (fun hHeld => ?_)
      clear e0 e1 e2 e3 e4 ef y0
      refine wpAnyH_take (i := 0) (v := ?_) rfl (by kernel_rfl) (by kernel_rfl) (by kernel_rfl) (fun _ _ _ h => h) (Or.inl ⟨by rfl, ?_⟩) (by assumption) ?_
      rotate_left
      · (intro W hSw; (try dsimp only at hSw); go_simp <;> with_reducible rfl)
      (try simp only [Act.put, List.getElem_toArray, List.getElem_cons_zero, List.setIfInBounds_toArray, List.set_cons_succ, List.set_cons_zero])
      refine wpAnyH_take (i := 1) (v := ?_) rfl (by kernel_rfl) (by kernel_rfl) (by kernel_rfl) (fun _ _ _ h => h) (Or.inl ⟨by rfl, ?_⟩) (by assumption) ?_
      rotate_left
      · (intro W hSw; (try dsimp only at hSw); go_simp <;> with_reducible rfl)
      (try simp only [Act.put, List.getElem_toArray, List.getElem_cons_succ, List.getElem_cons_zero, List.setIfInBounds_toArray, List.set_cons_succ, List.set_cons_zero])
      refine wpAnyH_take (i := 2) (v := ?_) rfl (by kernel_rfl) (by kernel_rfl) (by kernel_rfl) (fun _ _ _ h => h) (Or.inl ⟨by rfl, ?_⟩) (by assumption) ?_
      rotate_left
      · (intro W hSw; (try dsimp only at hSw); go_simp <;> with_reducible rfl)
      (try simp only [Act.put, List.getElem_toArray, List.getElem_cons_succ, List.getElem_cons_zero, List.setIfInBounds_toArray, List.set_cons_succ, List.set_cons_zero])
      refine wpAnyH_take (i := 3) (v := ?_) rfl (by kernel_rfl) (by kernel_rfl) (by kernel_rfl) (fun _ _ _ h => h) (Or.inl ⟨by rfl, ?_⟩) (by assumption) ?_
      rotate_left
      · (intro W hSw; (try dsimp only at hSw); go_simp <;> with_reducible rfl)
      (try simp only [Act.put, List.getElem_toArray, List.getElem_cons_succ, List.getElem_cons_zero, List.setIfInBounds_toArray, List.set_cons_succ, List.set_cons_zero])
      refine wpAnyH_take (i := 4) (v := ?_) rfl (by kernel_rfl) (by kernel_rfl) (by kernel_rfl) (fun _ _ _ h => h) (Or.inl ⟨by rfl, ?_⟩) (by assumption) ?_
      rotate_left
      · (intro W hSw; (try dsimp only at hSw); go_simp <;> with_reducible rfl)
      (try simp only [Act.put, List.getElem_toArray, List.getElem_cons_succ, List.getElem_cons_zero, List.setIfInBounds_toArray, List.set_cons_succ, List.set_cons_zero])
      refine wpAnyH_take (i := 6) (v := ?_) rfl (by kernel_rfl) (by kernel_rfl) (by kernel_rfl) (fun _ _ _ h => h) (Or.inl ⟨by rfl, ?_⟩) (by assumption) ?_
      rotate_left
      · (intro W hSw; (try dsimp only at hSw); go_simp <;> with_reducible rfl)
      (try simp only [Act.put, List.getElem_toArray, List.getElem_cons_succ, List.getElem_cons_zero, List.setIfInBounds_toArray, List.set_cons_succ, List.set_cons_zero])
      have B0 := Lib.hid ((Below.refl wr.heap.size wr).drew)
      have SD := Lib.hid S3.out.drew1
      refine wpAnyH_ready (rs := [5, 8]) (by kernel_rfl) (by simp) ?_
      refine AllReadyH.cons rfl (fun K hK => ?_) (AllReadyH.cons rfl (fun K hK => ?_) AllReadyH.nil)
      · go_simp
        refine (specActivityIndex_any p first _ _ (by exact SD.out.old HV.out)).mono ?_
        rintro e w3 ⟨rfl, bb1⟩
        have B1 := Lib.hid (B0.out.trans (bb1.mono B0.out.size))
        have S5 := Lib.hid (SD.out.go bb1)
        (first | done | go_wp2_with fail | skip)
        refine hK.out _ _ (CE.out _ B1.out) (fun hH1 => ?_)
        clear hK K bb1
        refine wpAnyH_take (i := 7) (v := ?_) rfl (by kernel_rfl) (by kernel_rfl) (by kernel_rfl) (fun _ _ _ h => h) (Or.inl ⟨by rfl, ?_⟩) (by assumption) ?_
        rotate_left
        · (intro W hSw; (try dsimp only at hSw); go_simp <;> with_reducible rfl)
        (try simp only [Act.put, List.getElem_toArray, List.getElem_cons_succ, List.getElem_cons_zero, List.setIfInBounds_toArray, List.set_cons_succ, List.set_cons_zero])
        refine wpAnyH_ready (rs := [8]) (by kernel_rfl) (by simp) ?_
        refine AllReadyH.cons rfl (fun K hK => ?_) AllReadyH.nil
        go_simp
        have B2 := Lib.hid (B1.out.alloc B1.out.size (.cells #[.int .i64 0, .int .i64 0, .int .i64 0] 38))
        have S6 := Lib.hid (S5.out.box 38 [.int .i64 0, .int .i64 0, .int .i64 0])
        refine hK.out _ _ (CE.out _ B2.out) (fun hH3 => ?_)
        clear hK K
        obtain ⟨q0, q1, q2, qf⟩ := (S6.out.bk 0 rfl).c3
        refine wpAnyH_ready (rs := [9]) (by kernel_rfl) (by simp) ?_
        refine AllReadyH.cons rfl (fun K hK => ?_) AllReadyH.nil
        go_simp
        refine hK.out _ _ (CE.out _ (B1.out.alloc B1.out.size _)) (fun hLast => ?_)
        clear hK K
        have S7 := Lib.hid (S5.out.box 38 [.int .i64 (k : Int), .int .i64 (plcB p.acts first), .int .i64 pv])
        have BE := Lib.hid (B1.out.alloc B1.out.size (.cells #[.int .i64 (k : Int), .int .i64 (plcB p.acts first), .int .i64 pv] 38))
        refine wpAnyH_done (by kernel_rfl) ?_ _
        clear hLast hHeld CE q0 q1 q2 qf hH1 hH3 S5 S6 B2 B1
        generalize plcB p.acts first = ai at S7 BE AT MD ⊢
        obtain ⟨e0, e1, e2, e3, e4, ef⟩ := (S7.out.bk 2 rfl).c5
        obtain ⟨q0, q1, q2, qf⟩ := (S7.out.bk 0 rfl).c3
        go_wp2_with fail
        clear e0 e1 e2 e3 e4 ef
        clear q0 q1 q2 qf
        refine (specFormatLiteral_any p ⟨(k : Int), ai, pv⟩ _ _ (by exact S7.out.old HV.out) HK.out).mono ?_
        rintro e w8 ⟨rfl, b8⟩
        have S8 := Lib.hid (S7.out.go b8)
        have B8 := Lib.hid (BE.out.trans (b8.mono BE.out.size))
        clear S7 b8 BE
        generalize fmtLt p ⟨(k : Int), ai, pv⟩ = f at MD ⊢
        by_cases hf : f = s
        · by_cases hz : s = ⟨#[]⟩
          · have SA := Lib.hid (STEP.out (by rw [MD.out]; simp [hz]))
            clear STEP AT MD
            subst hf hz
            go_wp2
            go_roundw
            case rel => exact ⟨k + 1, by omega, by omega, by go_num, SA, BW.out.trans (B8.out.mono BW.out.size), S8.out.drop 0⟩
            case measure => simp [intOf]; omega
          · obtain ⟨hok, hres⟩ := AT.out (by rw [MD.out]; simp [hf, hz])
            have HO := Lib.hid hok
            have HR := Lib.hid hres
            have hze := str_some hz
            have hzl : ¬ s.toList = [] := fun e => by rw [e] at hze; cases hze
            clear STEP AT MD hok hres
            subst hf
            obtain ⟨e0, e1, e2, ef⟩ := (S8.out.bk 0 rfl).c3
            obtain ⟨q0, q1, q2, qf⟩ := (S8.out.bk 1 rfl).c3
            go_wp2
            have SZ := ((S8.out.boxSet 1 rfl 0 (.int .i64 (k : Int))).boxSet 1 rfl 1 (.int .i64 ai)).boxSet 1 rfl 2 (.int .i64 pv)
            refine bodyPost_ret (v := .tuple #[.agg #[.int .i64 (k : Int), .int .i64 ai, .int .i64 pv], .bool true]) (by simp [results, Tryz.results12, go_sem, q0, q1, q2]) rfl ⟨by rw [HO.out, HR.out]; rfl, SZ.1⟩
        · have SA := Lib.hid (STEP.out (by rw [MD.out]; simp [hf]))
          have hne := str_ne hf
          clear STEP AT MD hf
          go_wp2
          go_roundw
          case rel => exact ⟨k + 1, by omega, by omega, by go_num, SA, BW.out.trans (B8.out.mono BW.out.size), S8.out.drop 0⟩
          case measure => simp [intOf]; omega
      · go_simp
        have B1 := Lib.hid (B0.out.alloc B0.out.size (.cells #[.int .i64 0, .int .i64 0, .int .i64 0] 38))
        have S5 := Lib.hid (SD.out.box 38 [.int .i64 0, .int .i64 0, .int .i64 0])
        (try simp only [World.size_drew] at S5)
        refine hK.out _ _ (CE.out _ B1.out) (fun hH1 => ?_)
        clear hK K
        refine wpAnyH_ready (rs := [5]) (by kernel_rfl) (by simp) ?_
        refine AllReadyH.cons rfl (fun K hK => ?_) AllReadyH.nil
        go_simp
        refine (specActivityIndex_any p first _ _ (by exact S5.out.old HV.out)).mono ?_
        rintro e w3 ⟨rfl, bb1⟩
        have B2 := Lib.hid (B1.out.trans (bb1.mono B1.out.size))
        have S6 := Lib.hid (S5.out.go bb1)
        (first | done | go_wp2_with fail | skip)
        refine hK.out _ _ (CE.out _ B2.out) (fun hH3 => ?_)
        clear hK K bb1
        refine wpAnyH_take (i := 7) (v := ?_) rfl (by kernel_rfl) (by kernel_rfl) (by kernel_rfl) (fun _ _ _ h => h) (Or.inl ⟨by rfl, ?_⟩) (by assumption) ?_
        rotate_left
        · (intro W hSw; (try dsimp only at hSw); go_simp <;> with_reducible rfl)
        (try simp only [Act.put, List.getElem_toArray, List.getElem_cons_succ, List.getElem_cons_zero, List.setIfInBounds_toArray, List.set_cons_succ, List.set_cons_zero])
        obtain ⟨q0, q1, q2, qf⟩ := (S6.out.bk 0 rfl).c3
        refine wpAnyH_ready (rs := [9]) (by kernel_rfl) (by simp) ?_
        refine AllReadyH.cons rfl (fun K hK => ?_) AllReadyH.nil
        go_simp
        have BE := Lib.hid (((B2.out.setCell (p := ⟨wr.heap.size, 0, none⟩) (Nat.le_refl _) (.int .i64 (k : Int))).setCell (p := ⟨wr.heap.size, 1, none⟩) (Nat.le_refl _) (.int .i64 (plcB p.acts first))).setCell (p := ⟨wr.heap.size, 2, none⟩) (Nat.le_refl _) (.int .i64 pv))
        refine hK.out _ _ (CE.out _ BE.out) (fun hLast => ?_)
        clear hK K
        have S7 := Lib.hid (((S6.out.boxSet 0 rfl 0 (.int .i64 (k : Int))).boxSet 0 rfl 1 (.int .i64 (plcB p.acts first))).boxSet 0 rfl 2 (.int .i64 pv))
        simp only [List.set_cons_zero, List.set_cons_succ] at S7
        refine wpAnyH_done (by kernel_rfl) ?_ _
        clear hLast hHeld CE q0 q1 q2 qf hH1 hH3 S5 S6 B2 B1
        generalize plcB p.acts first = ai at S7 BE AT MD ⊢
        obtain ⟨e0, e1, e2, e3, e4, ef⟩ := (S7.out.bk 2 rfl).c5
        obtain ⟨q0, q1, q2, qf⟩ := (S7.out.bk 0 rfl).c3
        go_wp2_with fail
        clear e0 e1 e2 e3 e4 ef
        clear q0 q1 q2 qf
        refine (specFormatLiteral_any p ⟨(k : Int), ai, pv⟩ _ _ (by exact S7.out.old HV.out) HK.out).mono ?_
        rintro e w8 ⟨rfl, b8⟩
        have S8 := Lib.hid (S7.out.go b8)
        have B8 := Lib.hid (BE.out.trans (b8.mono BE.out.size))
        clear S7 b8 BE
        generalize fmtLt p ⟨(k : Int), ai, pv⟩ = f at MD ⊢
        by_cases hf : f = s
        · by_cases hz : s = ⟨#[]⟩
          · have SA := Lib.hid (STEP.out (by rw [MD.out]; simp [hz]))
            clear STEP AT MD
            subst hf hz
            go_wp2
            go_roundw
            case rel => exact ⟨k + 1, by omega, by omega, by go_num, SA, BW.out.trans (B8.out.mono BW.out.size), S8.out.drop 0⟩
            case measure => simp [intOf]; omega
          · obtain ⟨hok, hres⟩ := AT.out (by rw [MD.out]; simp [hf, hz])
            have HO := Lib.hid hok
            have HR := Lib.hid hres
            have hze := str_some hz
            have hzl : ¬ s.toList = [] := fun e => by rw [e] at hze; cases hze
            clear STEP AT MD hok hres
            subst hf
            obtain ⟨e0, e1, e2, ef⟩ := (S8.out.bk 0 rfl).c3
            obtain ⟨q0, q1, q2, qf⟩ := (S8.out.bk 1 rfl).c3
            go_wp2
            have SZ := ((S8.out.boxSet 1 rfl 0 (.int .i64 (k : Int))).boxSet 1 rfl 1 (.int .i64 ai)).boxSet 1 rfl 2 (.int .i64 pv)
            refine bodyPost_ret (v := .tuple #[.agg #[.int .i64 (k : Int), .int .i64 ai, .int .i64 pv], .bool true]) (by simp [results, Tryz.results12, go_sem, q0, q1, q2]) rfl ⟨by rw [HO.out, HR.out]; rfl, SZ.1⟩
        · have SA := Lib.hid (STEP.out (by rw [MD.out]; simp [hf]))
          have hne := str_ne hf
          clear STEP AT MD hf
          go_wp2
          go_roundw
          case rel => exact ⟨k + 1, by omega, by omega, by go_num, SA, BW.out.trans (B8.out.mono BW.out.size), S8.out.drop 0⟩
          case measure => simp [intOf]; omega
    · obtain rfl : k = 5 := by omega
      obtain ⟨hok, hres⟩ := HNO.out hall.out
      have HO := Lib.hid hok
      have HR := Lib.hid hres
      clear hall HAT HNO hok hres
      obtain ⟨q0, q1, q2, qf⟩ := (S3.out.bk 0 rfl).c3
      go_wp2
      have SZ := ((S3.out.boxSet 0 rfl 0 (.int .i64 0)).boxSet 0 rfl 1 (.int .i64 0)).boxSet 0 rfl 2 (.int .i64 0)
      refine bodyPost_ret (v := .tuple #[.agg #[.int .i64 0, .int .i64 0, .int .i64 0], .bool false]) (by simp [results, Tryz.results12, go_sem, q0, q1, q2]) rfl ⟨by rw [HO.out, HR.out]; rfl, SZ.1⟩
end Go.Proofs.YtilcfbffjjdgnabGreatDoor
