/- DERIVED. CONTRACTS of chapter 12: LiteralOk, of the program and of the model. -/
import Derived.Test.YtdbnhdiboemmiacGreatScLt
import Derived.Test.YtdbnhdiboemmiacGreatTFl
import Derived.Test.YtdbnhdiboemmiacGreatPrG3
import Derived.Test.YtdbnhdiboemmiacGreatDats
import Derived.Test.YtdbnhdiboemmiacGreatRegZ
namespace Go.Proofs.YtdbnhdiboemmiacGreat
open Go.RowKit Go.Shelf
set_option linter.unusedVariables false

theorem l01InB_any (n lo hi : Int) (w : World) : Calls Tryz.prog 72 #[.int .i64 n, .int .i64 lo, .int .i64 hi] w fun e w' => e = .returned (.bool (inB n lo hi)) ∧ Below w.heap.size w w' :=
  (l01In_any n lo hi w).mono fun e w' h => ⟨h.1, h.2 ▸ Below.refl _ _⟩
theorem isBelowB_any (n k : Int) (w : World) : Calls Tryz.prog 24 #[.int .i64 n, .int .i64 k] w fun e w' => e = .returned (.bool (inB n 0 (k - 1))) ∧ Below w.heap.size w w' :=
  (isBelow_any n k w).mono fun e w' h => ⟨h.1, h.2 ▸ Below.refl _ _⟩
set_option maxRecDepth 100000 in
set_option maxHeartbeats 8000000 in
theorem implLiteralOk_any (p : Pj) (l : Lt) (v : Value) (w : World) (hv : (trPj p).rd w v) (hk : (trPj p).ok) :
    Calls Tryz.prog 8 #[v, ltV l] w fun e w' => e = .returned (.bool (litOkB p l)) ∧ Below w.heap.size w w' := by
  obtain ⟨ki, ac, va⟩ := l
  have HV := Lib.hid hv
  have HK := Lib.hid hk
  obtain ⟨A1, c1, A2, c2, A3, c3, A4, c4, rfl, r1, _⟩ := rdProject_t hv
  have R1 := Lib.hid r1
  have HP := Lib.hid (fun h => @lit_pok p ⟨ki, ac, va⟩ h)
  have HN := Lib.hid (fun h => @lit_none p ⟨ki, ac, va⟩ h)
  have HA := Lib.hid (fun n hp h e => @lit_at p ⟨ki, ac, va⟩ n hp h e)
  generalize litOkB p ⟨ki, ac, va⟩ = res at HP HN HA ⊢
  clear hv hk r1
  have S0 := Lib.hid (((Sn.start w).box 28 [.int .i64 p.dl, .slice A1 p.acts.length c1, .slice A2 p.lks.length c2, .slice A3 p.ress.length c3, .slice A4 p.stk.length c4]).box 38 [.int .i64 ki, .int .i64 ac, .int .i64 va])
  simp only [World.size_alloc] at S0
  unfold ltV
  go_enter Tryz.func8, Tryz.ntmps8
  go_wp2_with fail
  by_cases hr : 0 ≤ ac ∧ ac < (p.acts.length : Int)
  · obtain ⟨n, rfl⟩ : ∃ n : Nat, ac = (n : Int) := ⟨ac.toNat, by omega⟩
    have hn : n < p.acts.length := by omega
    refine (elemActivity_yes p.acts n hn _ _ (by exact S0.out.old R1.out)).mono ?_
    rintro e w1 ⟨B2, b2, rfl, _, b⟩
    have S1 := Lib.hid (S0.out.go b)
    have AT := Lib.hid (fun hp => HA.out n hp hn rfl)
    clear S0 b HN HA
    generalize p.acts[n] = a at AT ⊢
    obtain ⟨e0, e1, e2, e3, e4, ef⟩ := (S1.out.bk 1 rfl).c5
    have hl1 := (S1.out.bk 1 rfl).lt
    have S2 := Lib.hid (S1.out.box 55 [.string a.nm, .int .i64 a.fa, .slice B2 a.ms.length b2])
    go_wp2_with fail
    clear e0 e1 e2 e3 e4 ef
    clear hl1 S1
    refine (implProjectOk_any p _ _ (by exact S2.out.old HV.out) HK.out).mono ?_
    rintro e w3 ⟨rfl, b⟩
    have S3 := Lib.hid (S2.out.go b)
    clear S2 b
    rcases hp : pokB p with _ | _
    · have RES := Lib.hid (HP.out hp)
      clear hp
      go_wp2
      go_ret
      exact ⟨ret_bL RES.out.symm, S3.out.1⟩
    · have RES := Lib.hid (AT.out hp)
      clear hp HP AT
      obtain ⟨q0, q1, q2, qf⟩ := (S3.out.bk 1 rfl).c3
      by_cases k1 : ki = 1
      · subst k1
        have RES2 := Lib.hid (show res = inB va (-1) 61 from RES.out)
        clear RES
        by_cases h1 : -1 ≤ va
        · by_cases h2 : va ≤ 61
          all_goals
            go_wp2
            go_ret
            exact ⟨ret_bL (by rw [RES2.out]; simp [inB, h1, h2]), S3.out.1⟩
        · go_wp2
          go_ret
          exact ⟨ret_bL (by rw [RES2.out]; first | (simp [inB]; done) | (simp [inB]; omega)), S3.out.1⟩
      by_cases k2 : ki = 2
      · subst k2
        have RES2 := Lib.hid (show res = inB va (-1) 61 from RES.out)
        clear RES k1
        by_cases h1 : -1 ≤ va
        · by_cases h2 : va ≤ 61
          all_goals
            go_wp2
            go_ret
            exact ⟨ret_bL (by rw [RES2.out]; simp [inB, h1, h2]), S3.out.1⟩
        · go_wp2
          go_ret
          exact ⟨ret_bL (by rw [RES2.out]; first | (simp [inB]; done) | (simp [inB]; omega)), S3.out.1⟩
      by_cases k3 : ki = 3
      · subst k3
        have RES2 := Lib.hid (show res = inB va 0 ((a.ms.length : Int) - 1) from RES.out)
        clear RES k1 k2
        obtain ⟨z0, z1, z2, zf⟩ := (S3.out.bk 0 rfl).c3
        go_wp2_with fail
        refine (isBelowB_any va (a.ms.length : Int) _).mono ?_
        rintro e w4 ⟨rfl, b⟩
        have S4 := Lib.hid (S3.out.go b)
        clear S3 b
        go_wp2
        go_ret
        exact ⟨ret_bL RES2.out.symm, S4.out.1⟩
      by_cases k4 : ki = 4
      · subst k4
        have RES2 := Lib.hid (show res = inB va 0 ((a.ms.length : Int) - 1) from RES.out)
        clear RES k1 k2 k3
        obtain ⟨z0, z1, z2, zf⟩ := (S3.out.bk 0 rfl).c3
        go_wp2_with fail
        refine (isBelowB_any va (a.ms.length : Int) _).mono ?_
        rintro e w4 ⟨rfl, b⟩
        have S4 := Lib.hid (S3.out.go b)
        clear S3 b
        go_wp2
        go_ret
        exact ⟨ret_bL RES2.out.symm, S4.out.1⟩
      have RES2 := Lib.hid (show res = false from RES.out.trans (ltVal_o k1 k2 k3 k4))
      clear RES
      go_wp2
      go_ret
      exact ⟨ret_bL RES2.out.symm, S3.out.1⟩
  · have RES := Lib.hid (HN.out hr)
    refine (elemActivity_no p.acts ac _ _ (by exact S0.out.old R1.out) hr).mono ?_
    rintro e w1 ⟨rfl, b⟩
    have S1 := Lib.hid (S0.out.go b)
    have S2 := Lib.hid (S1.out.box 55 [.string ⟨#[]⟩, .int .i64 0, .slice none 0 0])
    clear S0 b HN HA hr
    go_wp2
    go_ret
    exact ⟨ret_bL RES.out.symm, S2.out.1⟩

end Go.Proofs.YtdbnhdiboemmiacGreat
