/- DERIVED. CONTRACTS of chapter 13: DomainEqual, of the program and of the model. -/
import Derived.Test.YtdbnhdiboemmiabDmA
import Derived.Test.YtdbnhdiboemmiabEqI
import Derived.Test.YtdbnhdiboemmiabHofE
namespace Go.Proofs.Ytdbnhdiboemmiab
open Go.RowKit Go.Shelf
set_option linter.unusedVariables false

theorem enters_setEq : ∀ args w, (callFunc 48 args).run Try.prog w = .ok (.enter 48 args) w := enters_of Try.func48 (by kernel_rfl) rfl
theorem eqL_rows (xs ys : List (List Int)) : eqL (fun x y => eqB x y) xs ys = decide (xs = ys) := eqL_dec (p := fun x y => eqB x y) (fun x y => rfl) xs ys
set_option maxRecDepth 100000 in
set_option maxHeartbeats 8000000 in
theorem implDomainEqual_any (d f : Dm) (v u : Value) (w : World) (hv : (trDm d).rd w v) (hu : (trDm f).rd w u) (hk : (trDm d).ok) (hk2 : (trDm f).ok) :
    Calls Try.prog 24 #[v, u] w fun e w' => e = .returned (.bool (eqD d f)) ∧ Below w.heap.size w w' := by
  obtain ⟨A1, a1, A2, a2, A3, a3, rfl, r1, r2, r3⟩ := rdDomain_t hv
  obtain ⟨B1, b1, B2, b2, B3, b3, rfl, s1, s2, s3⟩ := rdDomain_t hu
  have R1 := Lib.hid r1
  have R2 := Lib.hid r2
  have R3 := Lib.hid r3
  have T1 := Lib.hid s1
  have T2 := Lib.hid s2
  have T3 := Lib.hid s3
  have K1 := Lib.hid hk
  have K2 := Lib.hid hk2
  clear hv hu r1 r2 r3 s1 s2 s3 hk hk2
  have HE := Lib.hid (show eqD d f = (eqB d.mn f.mn && (eqB d.mx f.mx && decide (d.md = f.md))) from rfl)
  generalize eqD d f = res at HE ⊢
  have S0 := Lib.hid (((Sn.start w).box 30 [.slice A1 d.mn.length a1, .slice A2 d.mx.length a2, .slice A3 d.md.length a3]).box 30 [.slice B1 f.mn.length b1, .slice B2 f.mx.length b2, .slice B3 f.md.length b3])
  simp only [World.size_alloc] at S0
  go_enter Try.func24, Try.ntmps24
  go_wp2_with fail
  refine (slicesEqual_any d.mn f.mn _ _ _ (by exact rd_flat (S0.out.old R1.out)) (by exact rd_flat (S0.out.old T1.out))).mono ?_
  rintro e w1 ⟨rfl, b⟩
  have S1 := Lib.hid (S0.out.go b)
  clear S0 b
  obtain ⟨e0, e1, e2, ef⟩ := (S1.out.bk 1 rfl).c3
  obtain ⟨q0, q1, q2, qf⟩ := (S1.out.bk 0 rfl).c3
  generalize eqB d.mn f.mn = x1 at HE ⊢
  rcases x1 with _ | _
  · go_wp2
    go_ret
    exact ⟨ret_boo (by rw [HE.out]; rfl), S1.out.1⟩
  go_wp2_with fail
  clear e0 e1 e2 ef
  clear q0 q1 q2 qf
  refine (slicesEqual_any d.mx f.mx _ _ _ (by exact rd_flat (S1.out.old R2.out)) (by exact rd_flat (S1.out.old T2.out))).mono ?_
  rintro e w2 ⟨rfl, b⟩
  have S2 := Lib.hid (S1.out.go b)
  clear S1 b
  obtain ⟨e0, e1, e2, ef⟩ := (S2.out.bk 1 rfl).c3
  obtain ⟨q0, q1, q2, qf⟩ := (S2.out.bk 0 rfl).c3
  generalize eqB d.mx f.mx = x2 at HE ⊢
  rcases x2 with _ | _
  · go_wp2
    go_ret
    exact ⟨ret_boo (by rw [HE.out]; rfl), S2.out.1⟩
  go_wp2_with fail
  clear e0 e1 e2 ef
  clear q0 q1 q2 qf
  refine (equalFuncInt_any 48 #[] (fun x y => eqB x y) d.md f.md _ _ _ (by exact S2.out.old R3.out) (by exact S2.out.old T3.out) (by exact K1.out.2.2.1) (by exact K2.out.2.2.1) enters_setEq (fun x y v u w _ _ _ hx hy => implEqual_any x y v u w (rd_flat hx) (rd_flat hy))).mono ?_
  rintro e w3 ⟨rfl, b⟩
  have S3 := Lib.hid (S2.out.go b)
  clear S2 b
  rw [eqL_rows]
  go_wp2
  go_ret
  exact ⟨ret_boo (by rw [HE.out]; rfl), S3.out.1⟩
set_option maxRecDepth 100000 in
set_option maxHeartbeats 8000000 in
theorem specDomainEqual_any (d f : Dm) (v u : Value) (w : World) (hv : (trDm d).rd w v) (hu : (trDm f).rd w u) :
    Calls Try.prog 23 #[v, u] w fun e w' => e = .returned (.bool (eqD d f)) ∧ Below w.heap.size w w' := by
  obtain ⟨A1, a1, A2, a2, A3, a3, rfl, r1, r2, r3⟩ := rdDomain_t hv
  obtain ⟨B1, b1, B2, b2, B3, b3, rfl, s1, s2, s3⟩ := rdDomain_t hu
  have R1 := Lib.hid r1
  have R2 := Lib.hid r2
  have T1 := Lib.hid s1
  have T2 := Lib.hid s2
  obtain ⟨hd3, B7, d7, he, y3⟩ := rdIntSS_t r3
  injection he with he _ he2
  subst he he2
  have Y3 := Lib.hid y3
  obtain ⟨he3, B8, d8, he, z3⟩ := rdIntSS_t s3
  injection he with he _ he2
  subst he he2
  have Z3 := Lib.hid z3
  clear hv hu r1 r2 r3 s1 s2 s3 y3 z3
  have HE := Lib.hid (show eqD d f = (eqB d.mn f.mn && (eqB d.mx f.mx && decide (d.md = f.md))) from rfl)
  generalize eqD d f = res at HE ⊢
  have S0 := Lib.hid (((Sn.start w).box 30 [.slice A1 d.mn.length a1, .slice A2 d.mx.length a2, .slice A3 d.md.length a3]).box 30 [.slice B1 f.mn.length b1, .slice B2 f.mx.length b2, .slice B3 f.md.length b3])
  simp only [World.size_alloc] at S0
  go_enter Try.func23, Try.ntmps23
  go_wp2_with fail
  refine (specEqual_any d.mn f.mn _ _ _ (by exact rd_flat (S0.out.old R1.out)) (by exact rd_flat (S0.out.old T1.out))).mono ?_
  rintro e w1 ⟨rfl, b⟩
  have S1 := Lib.hid (S0.out.go b)
  clear S0 b
  obtain ⟨e0, e1, e2, ef⟩ := (S1.out.bk 1 rfl).c3
  obtain ⟨q0, q1, q2, qf⟩ := (S1.out.bk 0 rfl).c3
  generalize eqB d.mn f.mn = x1 at HE ⊢
  rcases x1 with _ | _
  · go_wp2
    go_ret
    exact ⟨ret_boo (by rw [HE.out]; rfl), S1.out.1⟩
  go_wp2_with fail
  clear e0 e1 e2 ef
  clear q0 q1 q2 qf
  refine (specEqual_any d.mx f.mx _ _ _ (by exact rd_flat (S1.out.old R2.out)) (by exact rd_flat (S1.out.old T2.out))).mono ?_
  rintro e w2 ⟨rfl, b⟩
  have S2 := Lib.hid (S1.out.go b)
  clear S1 b
  obtain ⟨e0, e1, e2, ef⟩ := (S2.out.bk 1 rfl).c3
  obtain ⟨q0, q1, q2, qf⟩ := (S2.out.bk 0 rfl).c3
  generalize eqB d.mx f.mx = x2 at HE ⊢
  rcases x2 with _ | _
  · go_wp2
    go_ret
    exact ⟨ret_boo (by rw [HE.out]; rfl), S2.out.1⟩
  by_cases hl : d.md.length = f.md.length
  rotate_left
  · have HN := Lib.hid (eqRows_len hl)
    have hl' : ¬ (d.md.length : Int) = (f.md.length : Int) := by omega
    go_wp2
    go_ret
    exact ⟨ret_boo (by rw [HE.out, HN.out]; rfl), S2.out.1⟩
  have HL := Lib.hid hl
  have hl' : (d.md.length : Int) = (f.md.length : Int) := by omega
  go_wp2_with fail
  clear e0 e1 e2 ef
  clear q0 q1 q2 qf
  go_loopw [33] (fun i wr => ∃ k : Nat, k ≤ d.md.length ∧ i = .int .i64 k ∧ Sn w wr [boxI (w.heap.size + 1) 30 [.slice B1 f.mn.length b1, .slice B2 f.mx.length b2, .slice B3 f.md.length b3], boxI w.heap.size 30 [.slice A1 d.mn.length a1, .slice A2 d.mx.length a2, .slice A3 d.md.length a3]] ∧ Hid (∀ j, (hj : j < d.md.length) → j < k → d.md[j] = f.md[j]'(by omega))) (fun i _ => d.md.length - (intOf i).toNat)
  case atStart => exact ⟨0, Nat.zero_le _, rfl, S2.out, Lib.hid (fun j _ h => absurd h (by omega))⟩
  case round =>
    obtain ⟨k, hkl, rfl, hS, GD⟩ := hrel
    have S3 := Lib.hid hS
    clear hS S2
    by_cases hlt : k < d.md.length
    · have hlt' : (k : Int) < (d.md.length : Int) := by omega
      have hlt2 : (k : Int) < (f.md.length : Int) := by omega
      have k0 : (0 : Int) ≤ (k : Int) := by omega
      obtain ⟨p1, o1, rfl, hb1, hc1⟩ := Y3.out k hlt
      obtain ⟨P1, x1, hy1, rm1⟩ := hc1 k hlt
      obtain ⟨p2, o2, rfl, hb2, hc2⟩ := Z3.out k (by omega)
      obtain ⟨P2, x2, hy2, rm2⟩ := hc2 k (by omega)
      have z1 := (S3.out.1.cell (p := ⟨p1, o1 + k, none⟩) hb1).trans hy1
      have z2 := (S3.out.1.cell (p := ⟨p2, o2 + k, none⟩) hb2).trans hy2
      have RM1 := Lib.hid rm1
      have RM2 := Lib.hid rm2
      clear hc1 hc2 hy1 hy2 rm1 rm2
      obtain ⟨q0, q1, q2, qf⟩ := (S3.out.bk 0 rfl).c3
      go_wp2_with fail
      clear q0 q1 q2 qf
      refine (specEqual_any d.md[k] (f.md[k]'(by omega)) _ _ _ (by exact rd_flat (S3.out.old RM1.out)) (by exact rd_flat (S3.out.old RM2.out))).mono ?_
      rintro e w4 ⟨rfl, b⟩
      have S4 := Lib.hid (S3.out.go b)
      clear S3 b
      by_cases he : d.md[k] = f.md[k]'(by omega)
      · rw [show eqB d.md[k] (f.md[k]'(by omega)) = true from decide_eq_true he]
        have GD2 := Lib.hid (show ∀ j, (hj : j < d.md.length) → j < k + 1 → d.md[j] = f.md[j]'(by omega) from fun j hj hjk => by
          by_cases e : j = k
          · subst e; exact he
          · exact GD.out j hj (by omega))
        clear he
        go_wp2
        go_roundw
        case rel => exact ⟨k + 1, by omega, by go_num, S4.out, GD2⟩
        case measure => simp [intOf]; omega
      · rw [show eqB d.md[k] (f.md[k]'(by omega)) = false from decide_eq_false he]
        have HN := Lib.hid (eqRows_no hlt (by omega) he)
        clear he
        go_wp2
        go_ret
        exact ⟨ret_boo (by rw [HE.out, HN.out]; rfl), S4.out.1⟩
    · have hge : ¬ (k : Int) < (d.md.length : Int) := by omega
      obtain rfl : k = d.md.length := by omega
      have HY := Lib.hid (eqRows_yes HL.out (fun j hj => GD.out j hj hj))
      go_wp2
      go_ret
      exact ⟨ret_boo (by rw [HE.out, HY.out]; rfl), S3.out.1⟩
end Go.Proofs.Ytdbnhdiboemmiab
