/- DERIVED. CONTRACTS of chapter 11, of the model: the rule of links; l10Fails of whatever condition; RuleOk. -/
import Derived.Test.YtaglfdkeomjpdabGreatDoorRuC
import Derived.Test.YtaglfdkeomjpdabGreatDoorStpB

section
namespace Go.Proofs.YtaglfdkeomjpdabGreatDoor
open Go.RowKit Go.Shelf
set_option linter.unusedVariables false

theorem use_lo {p : Pj} {s : Sc} {r : Nat} {t : Int} {k : Nat} (h : ¬ stA s k ≤ t) : useK p s r t (k + 1) = useK p s r t k := useK_no (by simp only [runA, Bool.and_eq_false_iff, decide_eq_false_iff_not]; exact .inl h)
theorem use_hi {p : Pj} {s : Sc} {r : Nat} {t : Int} {k : Nat} (h : endA p s k ≤ t) : useK p s r t (k + 1) = useK p s r t k := useK_no (by simp only [runA, Bool.and_eq_false_iff, decide_eq_false_iff_not]; exact .inr (by omega))
theorem use_in {p : Pj} {s : Sc} {r : Nat} {t : Int} {k : Nat} (h : stA s k ≤ t) (h2 : endA p s k > t) : useK p s r t (k + 1) = useK p s r t k + usA p s r k := useK_yes (by simp only [runA, Bool.and_eq_true, decide_eq_true_eq]; exact ⟨h, by omega⟩)

end Go.Proofs.YtaglfdkeomjpdabGreatDoor
end

section
namespace Go.Proofs.YtaglfdkeomjpdabGreatDoor
open Go.RowKit Go.Shelf
set_option linter.unusedVariables false

end Go.Proofs.YtaglfdkeomjpdabGreatDoor
end

section
namespace Go.Proofs.YtaglfdkeomjpdabGreatDoor
open Go.RowKit Go.Shelf
set_option linter.unusedVariables false

theorem timF_eq {p : Pj} {s : Sc} {r : Nat} {b : Int} (hr : r < p.ress.length) : failC p s (.tim (r : Int) b) = decide (atP p.ress[r].st b < useK p s r b p.acts.length) := by
  rw [← rsA_at hr]; rfl
theorem wrkF_eq {p : Pj} {s : Sc} {r : Nat} {b c : Int} (hf : Form p s) (hr : r < p.ress.length) (hb : 0 ≤ b ∧ b ≤ 60) (hc : 0 ≤ c ∧ c ≤ 60) : failC p s (.wrk (r : Int) b c) = decide (totalB p.ress[r].st b c < wrkT p s r b p.acts.length (c - b).toNat) := by
  rw [total_in (pok_st hf.ok hr) hb hc, ← rsA_at hr]; rfl


end Go.Proofs.YtaglfdkeomjpdabGreatDoor
end

section
namespace Go.Proofs.YtaglfdkeomjpdabGreatDoor
open Go.RowKit Go.Shelf
set_option linter.unusedVariables false

theorem lnkF_eq {p : Pj} {s : Sc} {i : Nat} (hi : i < p.lks.length) {fr to : Nat} (hfr : p.lks[i].fr = (fr : Int)) (hto : p.lks[i].to = (to : Int)) (x : Int) (hx : x = if p.lks[i].fe = true then endA p s fr else stA s fr) : failC p s (.lnk (i : Int)) = decide (stA s to < x + p.lks[i].lag) := by
  rw [show failC p s (.lnk (i : Int)) = decide (stA s (lkA p i).to.toNat < frA p s (lkA p i) + (lkA p i).lag) from rfl, lkA_at hi, hto, frA, hfr, hx]
  rfl
theorem dec_and (a b : Prop) [Decidable a] [Decidable b] : decide (a ∧ b) = (decide a && decide b) := by simp
theorem ruOk_1 {p : Pj} {a b c : Int} (hp : pokB p = true) : ruOkB p ⟨1, a, b, c⟩ = (inB a 0 ((p.lks.length : Int) - 1) && (decide (b = 0) && decide (c = 0))) := by
  by_cases h : b = 0 ∧ c = 0
  · obtain ⟨rfl, rfl⟩ := h
    rw [show (⟨1, a, 0, 0⟩ : Ru) = (Cd.lnk a).ru from rfl, ruOk_ru hp]
    simp [thereC]
  · rw [ruOk_none (cond_odd (c := .lnk a) (by simp [kindC]) (fun e => h (by simpa [Cd.ru, ru_ext, eq_comm] using e))), ← dec_and, decide_eq_false h, Bool.and_false]
theorem ruOk_2 {p : Pj} {a b c : Int} (hp : pokB p = true) : ruOkB p ⟨2, a, b, c⟩ = (inB a 0 ((p.acts.length : Int) - 1) && (decide (b = 0) && decide (c = 0))) := by
  by_cases h : b = 0 ∧ c = 0
  · obtain ⟨rfl, rfl⟩ := h
    rw [show (⟨2, a, 0, 0⟩ : Ru) = (Cd.fin a).ru from rfl, ruOk_ru hp]
    simp [thereC]
  · rw [ruOk_none (cond_odd (c := .fin a) (by simp [kindC]) (fun e => h (by simpa [Cd.ru, ru_ext, eq_comm] using e))), ← dec_and, decide_eq_false h, Bool.and_false]
theorem ruOk_6 {p : Pj} {a b c : Int} (hp : pokB p = true) : ruOkB p ⟨6, a, b, c⟩ = (inB a 0 ((p.stk.length : Int) - 1) && (decide (b = 0) && decide (c = 0))) := by
  by_cases h : b = 0 ∧ c = 0
  · obtain ⟨rfl, rfl⟩ := h
    rw [show (⟨6, a, 0, 0⟩ : Ru) = (Cd.stk a).ru from rfl, ruOk_ru hp]
    simp [thereC]
  · rw [ruOk_none (cond_odd (c := .stk a) (by simp [kindC]) (fun e => h (by simpa [Cd.ru, ru_ext, eq_comm] using e))), ← dec_and, decide_eq_false h, Bool.and_false]
theorem ruOk_3 {p : Pj} {a b c : Int} (hp : pokB p = true) : ruOkB p ⟨3, a, b, c⟩ = (inB a 0 ((p.ress.length : Int) - 1) && (inB b 0 60 && decide (c = 0))) := by
  by_cases h : c = 0
  · subst h
    rw [show (⟨3, a, b, 0⟩ : Ru) = (Cd.tim a b).ru from rfl, ruOk_ru hp]
    simp [thereC]
  · rw [ruOk_none (cond_odd (c := .tim a b) (by simp [kindC]) (fun e => h (by simpa [Cd.ru, ru_ext, eq_comm] using e))), decide_eq_false h, Bool.and_false, Bool.and_false]
theorem ruOk_4 {p : Pj} {a b c : Int} (hp : pokB p = true) : ruOkB p ⟨4, a, b, c⟩ = (inB a 0 ((p.ress.length : Int) - 1) && (inB b 0 60 && (inB c 0 60 && decide (b < c)))) := by
  rw [show (⟨4, a, b, c⟩ : Ru) = (Cd.wrk a b c).ru from rfl, ruOk_ru hp]
  rfl
theorem ruOk_5 {p : Pj} {a b c : Int} (hp : pokB p = true) : ruOkB p ⟨5, a, b, c⟩ = (machB p a && (inB b 0 ((p.acts.length : Int) - 1) && (inB c 0 ((p.acts.length : Int) - 1) && decide (b < c)))) := by
  rw [show (⟨5, a, b, c⟩ : Ru) = (Cd.par a b c).ru from rfl, ruOk_ru hp]
  show (machB p a && (inB b 0 (c - 1) && inB c 0 ((p.acts.length : Int) - 1))) = _
  congr 1
  rw [Bool.eq_iff_iff]
  simp only [Bool.and_eq_true, inB_iff, decide_eq_true_eq]
  omega
theorem ruOk_0 {p : Pj} {r : Ru} (h1 : ¬ r.ki = 1) (h2 : ¬ r.ki = 2) (h3 : ¬ r.ki = 3) (h4 : ¬ r.ki = 4) (h5 : ¬ r.ki = 5) (h6 : ¬ r.ki = 6) : ruOkB p r = false := ruOk_none (cond_none (by simp [kindC, h1, h2, h3, h4, h5, h6]))

set_option maxRecDepth 100000 in
set_option maxHeartbeats 8000000 in
theorem specRuleOk_any (p : Pj) (r : Ru) (v : Value) (w : World) (hv : (trPj p).rd w v) (hk : (trPj p).ok) :
    Calls Tryz.prog 36 #[v, ruV r] w fun e w' => e = .returned (.bool (ruOkB p r)) ∧ Below w.heap.size w w' := by
  have HK := Lib.hid hk
  obtain ⟨ki, a, b, c⟩ := r
  have HV := Lib.hid hv
  obtain ⟨A1, c1, A2, c2, A3, c3, A4, c4, rfl, r1, r2, r3, r4⟩ := rdProject_t hv
  have hl1 : (p.acts.length : Int) ≤ 9223372036854775807 := by have := (rdActivityS_t r1).1; omega
  have hl2 : (p.lks.length : Int) ≤ 9223372036854775807 := by have := (rdLinkS_t r2).1; omega
  have hl3 : (p.ress.length : Int) ≤ 9223372036854775807 := by have := (rdResourceS_t r3).1; omega
  have hl4 : (p.stk.length : Int) ≤ 9223372036854775807 := by
    have := (rdI (rd_flat r4)).1
    unfold maxLen at this
    omega
  have w1' : IntKind.i64.wrap ((p.acts.length : Int) - 1) = (p.acts.length : Int) - 1 := by rw [IntKind.wrap_i64]; omega
  have w2' : IntKind.i64.wrap ((p.lks.length : Int) - 1) = (p.lks.length : Int) - 1 := by rw [IntKind.wrap_i64]; omega
  have w3' : IntKind.i64.wrap ((p.ress.length : Int) - 1) = (p.ress.length : Int) - 1 := by rw [IntKind.wrap_i64]; omega
  have w4' : IntKind.i64.wrap ((p.stk.length : Int) - 1) = (p.stk.length : Int) - 1 := by rw [IntKind.wrap_i64]; omega
  have S0 := Lib.hid (((Sn.start w).box 37 [.int .i64 p.dl, .slice A1 p.acts.length c1, .slice A2 p.lks.length c2, .slice A3 p.ress.length c3, .slice A4 p.stk.length c4]).box 30 [.int .i64 ki, .int .i64 a, .int .i64 b, .int .i64 c])
  simp only [World.size_alloc] at S0
  clear hv hk r1 r2 r3 r4 hl1 hl2 hl3 hl4
  unfold ruV
  generalize hres : ruOkB p ⟨ki, a, b, c⟩ = res
  have RES := Lib.hid hres
  clear hres
  go_enter Tryz.func36, Tryz.ntmps36
  go_wp2_with fail
  refine (specProjectOk_any p _ _ (by exact S0.out.old HV.out) HK.out).mono ?_
  rintro e w1 ⟨rfl, b⟩
  have S1 := Lib.hid (S0.out.go b)
  clear S0 b
  rcases hp : pokB p with _ | _
  · have HN := Lib.hid (ruOk_pok (r := ⟨ki, a, b, c⟩) hp)
    clear hp
    go_wp2
    go_ret
    exact ⟨ret_bZ (by rw [← RES.out, HN.out]), S1.out.1⟩
  have HP := Lib.hid hp
  clear hp
  obtain ⟨e0, e1, e2, e3, e4, ef⟩ := (S1.out.bk 1 rfl).c5
  obtain ⟨q0, q1, q2, q3, qf⟩ := (S1.out.bk 0 rfl).c4
  by_cases k1 : ki = 1
  · subst k1
    have HR := Lib.hid (@ruOk_1 p a b c HP.out)
    go_wp2_with fail
    refine (in_any a 0 ((p.lks.length : Int) - 1) _).mono ?_
    rintro e w2 ⟨rfl, rfl⟩
    generalize inB a 0 ((p.lks.length : Int) - 1) = x at HR ⊢
    rcases x with _ | _
    · go_wp2
      go_ret
      exact ⟨ret_bZ (by rw [← RES.out, HR.out]; simp), S1.out.1⟩
    by_cases hb : b = 0
    rotate_left
    · have tb : (b == 0) = false := by simpa using hb
      have HB := Lib.hid (decide_eq_false hb)
      clear hb
      go_wp2
      go_ret
      exact ⟨ret_bZ (by rw [← RES.out, HR.out, HB.out]; rfl), S1.out.1⟩
    subst hb
    by_cases hc : c = 0
    rotate_left
    · have tc : (c == 0) = false := by simpa using hc
      have HB := Lib.hid (decide_eq_false hc)
      clear hc
      go_wp2
      go_ret
      exact ⟨ret_bZ (by rw [← RES.out, HR.out, HB.out]; rfl), S1.out.1⟩
    subst hc
    go_wp2
    go_ret
    exact ⟨ret_bZ (by rw [← RES.out, HR.out]; simp), S1.out.1⟩
  by_cases k2 : ki = 2
  · subst k2
    have HR := Lib.hid (@ruOk_2 p a b c HP.out)
    go_wp2_with fail
    refine (in_any a 0 ((p.acts.length : Int) - 1) _).mono ?_
    rintro e w2 ⟨rfl, rfl⟩
    generalize inB a 0 ((p.acts.length : Int) - 1) = x at HR ⊢
    rcases x with _ | _
    · go_wp2
      go_ret
      exact ⟨ret_bZ (by rw [← RES.out, HR.out]; simp), S1.out.1⟩
    by_cases hb : b = 0
    rotate_left
    · have tb : (b == 0) = false := by simpa using hb
      have HB := Lib.hid (decide_eq_false hb)
      clear hb
      go_wp2
      go_ret
      exact ⟨ret_bZ (by rw [← RES.out, HR.out, HB.out]; rfl), S1.out.1⟩
    subst hb
    by_cases hc : c = 0
    rotate_left
    · have tc : (c == 0) = false := by simpa using hc
      have HB := Lib.hid (decide_eq_false hc)
      clear hc
      go_wp2
      go_ret
      exact ⟨ret_bZ (by rw [← RES.out, HR.out, HB.out]; rfl), S1.out.1⟩
    subst hc
    go_wp2
    go_ret
    exact ⟨ret_bZ (by rw [← RES.out, HR.out]; simp), S1.out.1⟩
  by_cases k3 : ki = 3
  · subst k3
    have HR := Lib.hid (@ruOk_3 p a b c HP.out)
    go_wp2_with fail
    refine (in_any a 0 ((p.ress.length : Int) - 1) _).mono ?_
    rintro e w2 ⟨rfl, rfl⟩
    generalize inB a 0 ((p.ress.length : Int) - 1) = x at HR ⊢
    rcases x with _ | _
    · go_wp2
      go_ret
      exact ⟨ret_bZ (by rw [← RES.out, HR.out]; simp), S1.out.1⟩
    go_wp2_with fail
    refine (in_any b 0 60 _).mono ?_
    rintro e w2 ⟨rfl, rfl⟩
    generalize inB b 0 60 = x at HR ⊢
    rcases x with _ | _
    · go_wp2
      go_ret
      exact ⟨ret_bZ (by rw [← RES.out, HR.out]; simp), S1.out.1⟩
    by_cases hc : c = 0
    rotate_left
    · have tc : (c == 0) = false := by simpa using hc
      have HB := Lib.hid (decide_eq_false hc)
      clear hc
      go_wp2
      go_ret
      exact ⟨ret_bZ (by rw [← RES.out, HR.out, HB.out]; rfl), S1.out.1⟩
    subst hc
    go_wp2
    go_ret
    exact ⟨ret_bZ (by rw [← RES.out, HR.out]; simp), S1.out.1⟩
  by_cases k4 : ki = 4
  · subst k4
    have HR := Lib.hid (@ruOk_4 p a b c HP.out)
    go_wp2_with fail
    refine (in_any a 0 ((p.ress.length : Int) - 1) _).mono ?_
    rintro e w2 ⟨rfl, rfl⟩
    generalize inB a 0 ((p.ress.length : Int) - 1) = x at HR ⊢
    rcases x with _ | _
    · go_wp2
      go_ret
      exact ⟨ret_bZ (by rw [← RES.out, HR.out]; simp), S1.out.1⟩
    go_wp2_with fail
    refine (in_any b 0 60 _).mono ?_
    rintro e w2 ⟨rfl, rfl⟩
    generalize inB b 0 60 = x at HR ⊢
    rcases x with _ | _
    · go_wp2
      go_ret
      exact ⟨ret_bZ (by rw [← RES.out, HR.out]; simp), S1.out.1⟩
    go_wp2_with fail
    refine (in_any c 0 60 _).mono ?_
    rintro e w2 ⟨rfl, rfl⟩
    generalize inB c 0 60 = x at HR ⊢
    rcases x with _ | _
    · go_wp2
      go_ret
      exact ⟨ret_bZ (by rw [← RES.out, HR.out]; simp), S1.out.1⟩
    go_wp2
    go_ret
    exact ⟨ret_bZ (by rw [← RES.out, HR.out]; simp), S1.out.1⟩
  by_cases k5 : ki = 5
  · subst k5
    have HR := Lib.hid (@ruOk_5 p a b c HP.out)
    go_wp2_with fail
    clear e0 e1 e2 e3 e4 ef q0 q1 q2 q3 qf
    refine (specIsMachine_any p a _ _ (by exact S1.out.old HV.out)).mono ?_
    rintro e w2 ⟨rfl, b⟩
    have S2 := Lib.hid (S1.out.go b)
    clear S1 b
    obtain ⟨e0, e1, e2, e3, e4, ef⟩ := (S2.out.bk 1 rfl).c5
    obtain ⟨q0, q1, q2, q3, qf⟩ := (S2.out.bk 0 rfl).c4
    generalize machB p a = x at HR ⊢
    rcases x with _ | _
    · go_wp2
      go_ret
      exact ⟨ret_bZ (by rw [← RES.out, HR.out]; simp), S2.out.1⟩
    go_wp2_with fail
    refine (in_any b 0 ((p.acts.length : Int) - 1) _).mono ?_
    rintro e w3 ⟨rfl, rfl⟩
    generalize inB b 0 ((p.acts.length : Int) - 1) = x at HR ⊢
    rcases x with _ | _
    · go_wp2
      go_ret
      exact ⟨ret_bZ (by rw [← RES.out, HR.out]; simp), S2.out.1⟩
    go_wp2_with fail
    refine (in_any c 0 ((p.acts.length : Int) - 1) _).mono ?_
    rintro e w3 ⟨rfl, rfl⟩
    generalize inB c 0 ((p.acts.length : Int) - 1) = x at HR ⊢
    rcases x with _ | _
    · go_wp2
      go_ret
      exact ⟨ret_bZ (by rw [← RES.out, HR.out]; simp), S2.out.1⟩
    go_wp2
    go_ret
    exact ⟨ret_bZ (by rw [← RES.out, HR.out]; simp), S2.out.1⟩
  by_cases k6 : ki = 6
  · subst k6
    have HR := Lib.hid (@ruOk_6 p a b c HP.out)
    go_wp2_with fail
    refine (in_any a 0 ((p.stk.length : Int) - 1) _).mono ?_
    rintro e w2 ⟨rfl, rfl⟩
    generalize inB a 0 ((p.stk.length : Int) - 1) = x at HR ⊢
    rcases x with _ | _
    · go_wp2
      go_ret
      exact ⟨ret_bZ (by rw [← RES.out, HR.out]; simp), S1.out.1⟩
    by_cases hb : b = 0
    rotate_left
    · have tb : (b == 0) = false := by simpa using hb
      have HB := Lib.hid (decide_eq_false hb)
      clear hb
      go_wp2
      go_ret
      exact ⟨ret_bZ (by rw [← RES.out, HR.out, HB.out]; rfl), S1.out.1⟩
    subst hb
    by_cases hc : c = 0
    rotate_left
    · have tc : (c == 0) = false := by simpa using hc
      have HB := Lib.hid (decide_eq_false hc)
      clear hc
      go_wp2
      go_ret
      exact ⟨ret_bZ (by rw [← RES.out, HR.out, HB.out]; rfl), S1.out.1⟩
    subst hc
    go_wp2
    go_ret
    exact ⟨ret_bZ (by rw [← RES.out, HR.out]; simp), S1.out.1⟩
  have HR := Lib.hid (@ruOk_0 p ⟨ki, a, b, c⟩ k1 k2 k3 k4 k5 k6)
  go_wp2
  go_ret
  exact ⟨ret_bZ (by rw [← RES.out, HR.out]), S1.out.1⟩
end Go.Proofs.YtaglfdkeomjpdabGreatDoor
end
