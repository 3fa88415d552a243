/- DERIVED. CONTRACTS of chapter 12: LiteralOk, of the program and of the model. -/
import Derived.Test.YtgbpomakomddjabGreatDoorScLt
import Derived.Test.YtgbpomakomddjabGreatDoorTFl
import Derived.Test.YtgbpomakomddjabGreatDoorPrG3
import Derived.Test.YtgbpomakomddjabGreatDoorDats
import Derived.Test.YtgbpomakomddjabGreatDoorRegZ
namespace Go.Proofs.YtgbpomakomddjabGreatDoor
open Go.RowKit Go.Shelf
set_option linter.unusedVariables false

theorem l01InB_any (n lo hi : Int) (w : World) : Calls Tryz.prog 82 #[.int .i64 n, .int .i64 lo, .int .i64 hi] w fun e w' => e = .returned (.bool (inB n lo hi)) ∧ Below w.heap.size w w' :=
  (l01In_any n lo hi w).mono fun e w' h => ⟨h.1, h.2 ▸ Below.refl _ _⟩
theorem isBelowB_any (n k : Int) (w : World) : Calls Tryz.prog 89 #[.int .i64 n, .int .i64 k] w fun e w' => e = .returned (.bool (inB n 0 (k - 1))) ∧ Below w.heap.size w w' :=
  (isBelow_any n k w).mono fun e w' h => ⟨h.1, h.2 ▸ Below.refl _ _⟩
set_option maxRecDepth 100000 in
set_option maxHeartbeats 8000000 in
theorem implLiteralOk_any (p : Pj) (l : Lt) (v : Value) (w : World) (hv : (trPj p).rd w v) (hk : (trPj p).ok) :
    Calls Tryz.prog 56 #[v, ltV l] w fun e w' => e = .returned (.bool (litOkB p l)) ∧ Below w.heap.size w w' := by
  obtain ⟨ki, ac, va⟩ := l
  have HV := Lib.hid hv
  have HK := Lib.hid hk
  obtain ⟨A1, c1, A2, c2, A3, c3, A4, c4, rfl, r1, _⟩ := rdProject_t hv
  have R1 := Lib.hid r1
  have HP := Lib.hid (fun h => @lit_pok p ⟨ki, ac, va⟩ h)
  have HN := Lib.hid (fun h => @lit_none p ⟨ki, ac, va⟩ h)
  have HA := Lib.hid (fun n hp h e => @lit_at p ⟨ki, ac, va⟩ n hp h e)
  generalize litOkB p ⟨ki, ac, va⟩ = res at HP HN HA ⊢
  clear hv hk r1
  have S0 := Lib.hid (((Sn.start w).box 36 [.int .i64 p.dl, .slice A1 p.acts.length c1, .slice A2 p.lks.length c2, .slice A3 p.ress.length c3, .slice A4 p.stk.length c4]).box 55 [.int .i64 ki, .int .i64 ac, .int .i64 va])
  simp only [World.size_alloc] at S0
  unfold ltV
  go_enter Tryz.func56, Tryz.ntmps56
  go_wp2_with fail
  by_cases hr : 0 ≤ ac ∧ ac < (p.acts.length : Int)
  · obtain ⟨n, rfl⟩ : ∃ n : Nat, ac = (n : Int) := ⟨ac.toNat, by omega⟩
    have hn : n < p.acts.length := by omega
    refine (elemActivity_yes p.acts n hn _ _ (by exact S0.out.old R1.out)).mono ?_
    rintro e w1 ⟨B2, b2, rfl, _, b⟩
    have S1 := Lib.hid (S0.out.go b)
    have AT := Lib.hid (fun hp => HA.out n hp hn rfl)
    clear S0 b HN HA
    generalize p.acts[n] = a at AT ⊢
    obtain ⟨e0, e1, e2, e3, e4, ef⟩ := (S1.out.bk 1 rfl).c5
    have hl1 := (S1.out.bk 1 rfl).lt
    have S2 := Lib.hid (S1.out.box 89 [.string a.nm, .int .i64 a.fa, .slice B2 a.ms.length b2])
    go_wp2_with fail
    clear e0 e1 e2 e3 e4 ef
    clear hl1 S1
    refine (implProjectOk_any p _ _ (by exact S2.out.old HV.out) HK.out).mono ?_
    rintro e w3 ⟨rfl, b⟩
    have S3 := Lib.hid (S2.out.go b)
    clear S2 b
    rcases hp : pokB p with _ | _
    · have RES := Lib.hid (HP.out hp)
      clear hp
      go_wp2
      go_ret
      exact ⟨ret_bL RES.out.symm, S3.out.1⟩
    · have RES := Lib.hid (AT.out hp)
      clear hp HP AT
      obtain ⟨q0, q1, q2, qf⟩ := (S3.out.bk 1 rfl).c3
      by_cases k1 : ki = 1
      · subst k1
        have RES2 := Lib.hid (show res = inB va (-1) 61 from RES.out)
        clear RES
        by_cases h1 : -1 ≤ va
        · by_cases h2 : va ≤ 61
          all_goals
            go_wp2
            go_ret
            exact ⟨ret_bL (by rw [RES2.out]; simp [inB, h1, h2]), S3.out.1⟩
        · go_wp2
          go_ret
          exact ⟨ret_bL (by rw [RES2.out]; first | (simp [inB]; done) | (simp [inB]; omega)), S3.out.1⟩
      by_cases k2 : ki = 2
      · subst k2
        have RES2 := Lib.hid (show res = inB va (-1) 61 from RES.out)
        clear RES k1
        by_cases h1 : -1 ≤ va
        · by_cases h2 : va ≤ 61
          all_goals
            go_wp2
            go_ret
            exact ⟨ret_bL (by rw [RES2.out]; simp [inB, h1, h2]), S3.out.1⟩
        · go_wp2
          go_ret
          exact ⟨ret_bL (by rw [RES2.out]; first | (simp [inB]; done) | (simp [inB]; omega)), S3.out.1⟩
      by_cases k3 : ki = 3
      · subst k3
        have RES2 := Lib.hid (show res = inB va 0 ((a.ms.length : Int) - 1) from RES.out)
        clear RES k1 k2
        obtain ⟨z0, z1, z2, zf⟩ := (S3.out.bk 0 rfl).c3
        go_wp2_with fail
        refine (isBelowB_any va (a.ms.length : Int) _).mono ?_
        rintro e w4 ⟨rfl, b⟩
        have S4 := Lib.hid (S3.out.go b)
        clear S3 b
        go_wp2
        go_ret
        exact ⟨ret_bL RES2.out.symm, S4.out.1⟩
      by_cases k4 : ki = 4
      · subst k4
        have RES2 := Lib.hid (show res = inB va 0 ((a.ms.length : Int) - 1) from RES.out)
        clear RES k1 k2 k3
        obtain ⟨z0, z1, z2, zf⟩ := (S3.out.bk 0 rfl).c3
        go_wp2_with fail
        refine (isBelowB_any va (a.ms.length : Int) _).mono ?_
        rintro e w4 ⟨rfl, b⟩
        have S4 := Lib.hid (S3.out.go b)
        clear S3 b
        go_wp2
        go_ret
        exact ⟨ret_bL RES2.out.symm, S4.out.1⟩
      have RES2 := Lib.hid (show res = false from RES.out.trans (ltVal_o k1 k2 k3 k4))
      clear RES
      go_wp2
      go_ret
      exact ⟨ret_bL RES2.out.symm, S3.out.1⟩
  · have RES := Lib.hid (HN.out hr)
    refine (elemActivity_no p.acts ac _ _ (by exact S0.out.old R1.out) hr).mono ?_
    rintro e w1 ⟨rfl, b⟩
    have S1 := Lib.hid (S0.out.go b)
    have S2 := Lib.hid (S1.out.box 89 [.string ⟨#[]⟩, .int .i64 0, .slice none 0 0])
    clear S0 b HN HA hr
    go_wp2
    go_ret
    exact ⟨ret_bL RES.out.symm, S2.out.1⟩

set_option maxRecDepth 100000 in
set_option maxHeartbeats 8000000 in
theorem specLiteralOk_any (p : Pj) (l : Lt) (v : Value) (w : World) (hv : (trPj p).rd w v) (hk : (trPj p).ok) :
    Calls Tryz.prog 48 #[v, ltV l] w fun e w' => e = .returned (.bool (litOkB p l)) ∧ Below w.heap.size w w' := by
  obtain ⟨ki, ac, va⟩ := l
  have HK := Lib.hid hk
  have HP := Lib.hid (fun h => @lit_pok p ⟨ki, ac, va⟩ h)
  have HN := Lib.hid (fun h => @lit_none p ⟨ki, ac, va⟩ h)
  have HA := Lib.hid (fun n hp h e => @lit_at p ⟨ki, ac, va⟩ n hp h e)
  generalize litOkB p ⟨ki, ac, va⟩ = res at HP HN HA ⊢
  have HV := Lib.hid hv
  obtain ⟨A1, c1, A2, c2, A3, c3, A4, c4, rfl, r1, _⟩ := rdProject_t hv
  obtain ⟨hl1, B1, d1, he, g1⟩ := rdActivityS_t r1
  injection he with he _ he2
  subst he he2
  have G1 := Lib.hid g1
  clear hv hk r1 g1
  have S0 := Lib.hid (((Sn.start w).box 36 [.int .i64 p.dl, .slice A1 p.acts.length c1, .slice A2 p.lks.length c2, .slice A3 p.ress.length c3, .slice A4 p.stk.length c4]).box 55 [.int .i64 ki, .int .i64 ac, .int .i64 va])
  simp only [World.size_alloc] at S0
  have hw1 : IntKind.i64.wrap ((p.acts.length : Int) - 1) = (p.acts.length : Int) - 1 := by rw [IntKind.wrap_i64]; omega
  unfold ltV
  go_enter Tryz.func48, Tryz.ntmps48
  go_wp2_with fail
  refine (specProjectOk_any p _ _ (by exact S0.out.old HV.out) HK.out).mono ?_
  rintro e w1 ⟨rfl, b⟩
  have S1 := Lib.hid (S0.out.go b)
  clear S0 b
  rcases hp : pokB p with _ | _
  · have RES := Lib.hid (HP.out hp)
    clear hp
    go_wp2
    go_ret
    exact ⟨ret_bL RES.out.symm, S1.out.1⟩
  have HPP := Lib.hid hp
  clear hp
  obtain ⟨e0, e1, e2, e3, e4, ef⟩ := (S1.out.bk 1 rfl).c5
  obtain ⟨q0, q1, q2, qf⟩ := (S1.out.bk 0 rfl).c3
  go_wp2_with fail
  clear e0 e1 e2 e3 e4 ef
  clear q0 q1 q2 qf
  refine (l01InB_any ac 0 ((p.acts.length : Int) - 1) _).mono ?_
  rintro e w2 ⟨rfl, b⟩
  have S2 := Lib.hid (S1.out.go b)
  clear S1 b
  by_cases hr : 0 ≤ ac ∧ ac ≤ (p.acts.length : Int) - 1
  · rw [inB_yes hr]
    obtain ⟨n, rfl⟩ : ∃ n : Nat, ac = (n : Int) := ⟨ac.toNat, by omega⟩
    have hn : n < p.acts.length := by omega
    obtain ⟨b1, o1, rfl, hb1, hc1⟩ := G1.out n hn
    obtain ⟨M, cm, x0, x1, x2, rm⟩ := hc1 n hn
    obtain ⟨hml, _, _, _, _⟩ := rdModeS_t rm
    have y2 := (S2.out.1.cell (p := ⟨b1, o1 + n * 3 + 2, none⟩) hb1).trans x2
    have hbw := Nat.lt_of_lt_of_le hb1 S2.out.1.size
    have RES := Lib.hid (HA.out n HPP.out hn rfl)
    generalize p.acts[n].ms = ms at y2 RES hml
    clear x0 x1 x2 rm HN HA HP hc1 hr hw1
    obtain ⟨q0, q1, q2, qf⟩ := (S2.out.bk 0 rfl).c3
    by_cases k1 : ki = 1
    · subst k1
      have RES2 := Lib.hid (show res = inB va (-1) 61 from RES.out)
      clear RES y2
      go_wp2_with fail
      refine (l01InB_any va (-1) 61 _).mono ?_
      rintro e w3 ⟨rfl, b⟩
      have S3 := Lib.hid (S2.out.go b)
      clear S2 b
      go_wp2
      go_ret
      exact ⟨ret_bL RES2.out.symm, S3.out.1⟩
    by_cases k2 : ki = 2
    · subst k2
      have RES2 := Lib.hid (show res = inB va (-1) 61 from RES.out)
      clear RES y2 k1
      go_wp2_with fail
      refine (l01InB_any va (-1) 61 _).mono ?_
      rintro e w3 ⟨rfl, b⟩
      have S3 := Lib.hid (S2.out.go b)
      clear S2 b
      go_wp2
      go_ret
      exact ⟨ret_bL RES2.out.symm, S3.out.1⟩
    have g0 : (0 : Int) ≤ (n : Int) := by omega
    have g1 : (n : Int) < (p.acts.length : Int) := by omega
    have hwm : IntKind.i64.wrap ((ms.length : Int) - 1) = (ms.length : Int) - 1 := by rw [IntKind.wrap_i64]; omega
    by_cases k3 : ki = 3
    · subst k3
      have RES2 := Lib.hid (show res = inB va 0 ((ms.length : Int) - 1) from RES.out)
      clear RES k1 k2
      go_wp2_with fail
      obtain ⟨e0, e1, e2, e3, e4, ef⟩ := (S2.out.bk 1 rfl).c5
      have hlp := (S2.out.bk 1 rfl).lt
      have hll := (S2.out.bk 0 rfl).lt
      have S3 := Lib.hid S2.out.drew1
      have CE := Lib.hid (fun (W : World) (h : Wr [] w2.drew W) => show Hid (Wr [] w2.drew W) ∧ W.cell? ⟨w.heap.size + 1, 1, none⟩ = some (.int .i64 (n : Int)) ∧ W.cell? ⟨w.heap.size + 1, 2, none⟩ = some (.int .i64 va) ∧ W.cell? ⟨w.heap.size, 1, none⟩ = some (.slice (some ⟨b1, o1, none⟩) p.acts.length c1) ∧ W.cell? ⟨b1, o1 + n * 3 + 2, none⟩ = some (.slice M ms.length cm) from ⟨Lib.hid h, (wr_cell h (p := ⟨w.heap.size + 1, 1, none⟩) hll (by simp)).trans (by exact by simpa using q1), (wr_cell h (p := ⟨w.heap.size + 1, 2, none⟩) hll (by simp)).trans (by exact by simpa using q2), (wr_cell h (p := ⟨w.heap.size, 1, none⟩) hlp (by simp)).trans (by exact by simpa using e1), (wr_cell h (p := ⟨b1, o1 + n * 3 + 2, none⟩) (by show b1 < _; simpa using hbw) (by simp)).trans (by exact by simpa using y2)⟩)
      have INIT := Lib.hid (CE.out _ (Wr.refl _ _))
      have KW := Lib.hid (fun (W2 W : World) (hb : Wr [] W W2) (h : Hid (Wr [] w2.drew W) ∧ W.cell? ⟨w.heap.size + 1, 1, none⟩ = some (.int .i64 (n : Int)) ∧ W.cell? ⟨w.heap.size + 1, 2, none⟩ = some (.int .i64 va) ∧ W.cell? ⟨w.heap.size, 1, none⟩ = some (.slice (some ⟨b1, o1, none⟩) p.acts.length c1) ∧ W.cell? ⟨b1, o1 + n * 3 + 2, none⟩ = some (.slice M ms.length cm)) => CE.out W2 (h.1.out.trans hb))
      clear e0 e1 e2 e3 e4 ef q0 q1 q2 qf y2 S2
      go_region_held3 (fun W => Hid (Wr [] w2.drew W) ∧ W.cell? ⟨w.heap.size + 1, 1, none⟩ = some (.int .i64 (n : Int)) ∧ W.cell? ⟨w.heap.size + 1, 2, none⟩ = some (.int .i64 va) ∧ W.cell? ⟨w.heap.size, 1, none⟩ = some (.slice (some ⟨b1, o1, none⟩) p.acts.length c1) ∧ W.cell? ⟨b1, o1 + n * 3 + 2, none⟩ = some (.slice M ms.length cm)) (first | exact INIT.out | exact KW.out _ _ (by assumption) (by assumption) | exact KW.out _ _ (Wr.of_below (by assumption) (Nat.le_refl _)) (by assumption) | exact KW.out _ _ (Wr.of_below ((Below.refl _ _).alloc (Nat.le_refl _) _) (Nat.le_refl _)) (by assumption))
        ((first | (go_at_call 82; refine (l01InB_any va 0 ((ms.length : Int) - 1) _).mono ?_; rintro e w4 ⟨rfl, bb⟩; have S4 := Lib.hid (S3.out.go bb))))
      go_wp2
      go_ret
      exact ⟨ret_bL RES2.out.symm, S4.out.1⟩
    by_cases k4 : ki = 4
    · subst k4
      have RES2 := Lib.hid (show res = inB va 0 ((ms.length : Int) - 1) from RES.out)
      clear RES k1 k2 k3
      go_wp2_with fail
      obtain ⟨e0, e1, e2, e3, e4, ef⟩ := (S2.out.bk 1 rfl).c5
      have hlp := (S2.out.bk 1 rfl).lt
      have hll := (S2.out.bk 0 rfl).lt
      have S3 := Lib.hid S2.out.drew1
      have CE := Lib.hid (fun (W : World) (h : Wr [] w2.drew W) => show Hid (Wr [] w2.drew W) ∧ W.cell? ⟨w.heap.size + 1, 1, none⟩ = some (.int .i64 (n : Int)) ∧ W.cell? ⟨w.heap.size + 1, 2, none⟩ = some (.int .i64 va) ∧ W.cell? ⟨w.heap.size, 1, none⟩ = some (.slice (some ⟨b1, o1, none⟩) p.acts.length c1) ∧ W.cell? ⟨b1, o1 + n * 3 + 2, none⟩ = some (.slice M ms.length cm) from ⟨Lib.hid h, (wr_cell h (p := ⟨w.heap.size + 1, 1, none⟩) hll (by simp)).trans (by exact by simpa using q1), (wr_cell h (p := ⟨w.heap.size + 1, 2, none⟩) hll (by simp)).trans (by exact by simpa using q2), (wr_cell h (p := ⟨w.heap.size, 1, none⟩) hlp (by simp)).trans (by exact by simpa using e1), (wr_cell h (p := ⟨b1, o1 + n * 3 + 2, none⟩) (by show b1 < _; simpa using hbw) (by simp)).trans (by exact by simpa using y2)⟩)
      have INIT := Lib.hid (CE.out _ (Wr.refl _ _))
      have KW := Lib.hid (fun (W2 W : World) (hb : Wr [] W W2) (h : Hid (Wr [] w2.drew W) ∧ W.cell? ⟨w.heap.size + 1, 1, none⟩ = some (.int .i64 (n : Int)) ∧ W.cell? ⟨w.heap.size + 1, 2, none⟩ = some (.int .i64 va) ∧ W.cell? ⟨w.heap.size, 1, none⟩ = some (.slice (some ⟨b1, o1, none⟩) p.acts.length c1) ∧ W.cell? ⟨b1, o1 + n * 3 + 2, none⟩ = some (.slice M ms.length cm)) => CE.out W2 (h.1.out.trans hb))
      clear e0 e1 e2 e3 e4 ef q0 q1 q2 qf y2 S2
      go_region_held3 (fun W => Hid (Wr [] w2.drew W) ∧ W.cell? ⟨w.heap.size + 1, 1, none⟩ = some (.int .i64 (n : Int)) ∧ W.cell? ⟨w.heap.size + 1, 2, none⟩ = some (.int .i64 va) ∧ W.cell? ⟨w.heap.size, 1, none⟩ = some (.slice (some ⟨b1, o1, none⟩) p.acts.length c1) ∧ W.cell? ⟨b1, o1 + n * 3 + 2, none⟩ = some (.slice M ms.length cm)) (first | exact INIT.out | exact KW.out _ _ (by assumption) (by assumption) | exact KW.out _ _ (Wr.of_below (by assumption) (Nat.le_refl _)) (by assumption) | exact KW.out _ _ (Wr.of_below ((Below.refl _ _).alloc (Nat.le_refl _) _) (Nat.le_refl _)) (by assumption))
        ((first | (go_at_call 82; refine (l01InB_any va 0 ((ms.length : Int) - 1) _).mono ?_; rintro e w4 ⟨rfl, bb⟩; have S4 := Lib.hid (S3.out.go bb))))
      go_wp2
      go_ret
      exact ⟨ret_bL RES2.out.symm, S4.out.1⟩
    have RES2 := Lib.hid (show res = false from RES.out.trans (ltVal_o k1 k2 k3 k4))
    clear RES y2
    go_wp2
    go_ret
    exact ⟨ret_bL RES2.out.symm, S2.out.1⟩
  · rw [inB_no hr]
    have RES := Lib.hid (HN.out (by show ¬ (0 ≤ ac ∧ ac < _); omega))
    clear HN HA HP hr
    go_wp2
    go_ret
    exact ⟨ret_bL RES.out.symm, S2.out.1⟩
end Go.Proofs.YtgbpomakomddjabGreatDoor
