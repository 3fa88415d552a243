/- DERIVED. CONTRACTS of chapter 13: DomainEmpty, of the program and of the model. -/
import Derived.Test.YtdbnhdiboemmiacGreatHof
import Derived.Test.YtdbnhdiboemmiacGreatTPj
import Derived.Test.YtdbnhdiboemmiacGreatDmG

section
namespace Go.Proofs.YtdbnhdiboemmiacGreat
open Go.RowKit
set_option linter.unusedVariables false

end Go.Proofs.YtdbnhdiboemmiacGreat
end

section
namespace Go.Proofs.YtdbnhdiboemmiacGreat
open Go.RowKit Go.Shelf
set_option linter.unusedVariables false

set_option maxRecDepth 100000 in
set_option maxHeartbeats 8000000 in
theorem specDomainEmpty_any (d : Dm) (v : Value) (w : World) (hd : (trDm d).rd w v) :
    Calls Tryz.prog 19 #[v] w fun e w' => e = .returned (.bool (empD d)) ∧ Below w.heap.size w w' := by
  have HD := Lib.hid hd
  obtain ⟨D1, t1, D2, t2, D3, t3, rfl, m1, m2, m3⟩ := rdDomain_t hd
  obtain ⟨hd1, B5, d5, he, y1⟩ := rdI (rd_flat m1)
  injection he with he _ he2
  subst he he2
  have Y1 := Lib.hid y1
  obtain ⟨hd2, B6, d6, he, y2⟩ := rdI (rd_flat m2)
  injection he with he _ he2
  subst he he2
  have Y2 := Lib.hid y2
  obtain ⟨hd3, B7, d7, he, y3⟩ := rdIntSS_t m3
  injection he with he _ he2
  subst he he2
  have Y3 := Lib.hid y3
  have M1 := Lib.hid (rd_flat m1)
  have M2 := Lib.hid (rd_flat m2)
  clear hd m1 m2 m3 y1 y2 y3
  have S0 := Lib.hid ((Sn.start w).box 32 [.slice D1 d.mn.length t1, .slice D2 d.mx.length t2, .slice D3 d.md.length t3])
  unfold maxLen at hd1 hd2
  go_enter Tryz.func19, Tryz.ntmps19
  obtain ⟨e0, e1, e2, ef⟩ := (S0.out.bk 0 rfl).c3
  go_wp2_with fail
  clear e0 e1 e2 ef
  go_loopw [10] (fun i wr => ∃ k : Nat, k ≤ d.mn.length ∧ i = .int .i64 k ∧ Sn w wr [boxI w.heap.size 32 [.slice D1 d.mn.length t1, .slice D2 d.mx.length t2, .slice D3 d.md.length t3]] ∧ Hid (∀ a, a < k → a < d.mx.length → mnD d a ≤ mxD d a)) (fun i _ => d.mn.length - (intOf i).toNat)
  case atStart => exact ⟨0, Nat.zero_le _, rfl, S0.out, Lib.hid (fun a ha => absurd ha (by omega))⟩
  case round =>
    obtain ⟨k, hkl, rfl, hS, GD⟩ := hrel
    have S3 := Lib.hid hS
    clear hS S0
    by_cases hlt : k < d.mn.length
    · have hlt' : (k : Int) < (d.mn.length : Int) := by omega
      have k0 : (0 : Int) ≤ (k : Int) := by omega
      obtain ⟨b1, o1, rfl, hb1, hc1⟩ := Y1.out k (by omega)
      have z1 := (S3.out.1.cell (p := ⟨b1, o1 + k, none⟩) hb1).trans (hc1 k (by omega))
      rw [← mnD_at] at z1
      obtain ⟨e0, e1, e2, ef⟩ := (S3.out.bk 0 rfl).c3
      by_cases h2 : k < d.mx.length
      · have k2 : (k : Int) < (d.mx.length : Int) := by omega
        obtain ⟨b2, o2, rfl, hb2, hc2⟩ := Y2.out k (by omega)
        have z2 := (S3.out.1.cell (p := ⟨b2, o2 + k, none⟩) hb2).trans (hc2 k (by omega))
        rw [← mxD_at] at z2
        have GE := Lib.hid (fun (h : mxD d k < mnD d k) => emp_at (d := d) hlt h2 h)
        have GD2 := Lib.hid (fun (h : mnD d k ≤ mxD d k) => show ∀ a, a < k + 1 → a < d.mx.length → mnD d a ≤ mxD d a from fun a ha hx => by
          by_cases e : a = k
          · subst e; exact h
          · exact GD.out a (by omega) hx)
        generalize mnD d k = mn at z1 GE GD2
        generalize mxD d k = mx at z2 GE GD2
        clear hc1 hc2
        by_cases hb : mx < mn
        · have HR := Lib.hid (GE.out hb)
          go_wp2
          go_ret
          exact ⟨ret_boo HR.out.symm, S3.out.1⟩
        have GD3 := Lib.hid (GD2.out (by omega))
        go_wp2
        go_roundw
        case rel => exact ⟨k + 1, by omega, by go_num, S3.out, GD3⟩
        case measure => simp [intOf]; omega
      have GD3 := Lib.hid (show ∀ a, a < k + 1 → a < d.mx.length → mnD d a ≤ mxD d a from fun a ha hx => by
        by_cases e : a = k
        · subst e; exact absurd hx h2
        · exact GD.out a (by omega) hx)
      have k2 : ¬ (k : Int) < (d.mx.length : Int) := by omega
      generalize mnD d k = mn at z1
      clear hc1
      go_wp2
      go_roundw
      case rel => exact ⟨k + 1, by omega, by go_num, S3.out, GD3⟩
      case measure => simp [intOf]; omega
    · have hge : ¬ (k : Int) < (d.mn.length : Int) := by omega
      obtain rfl : k = d.mn.length := by omega
      have HE := Lib.hid (emp_rest (d := d) (fun a ha ha2 => GD.out a ha ha2))
      clear GD
      obtain ⟨e0, e1, e2, ef⟩ := (S3.out.bk 0 rfl).c3
      go_wp2_with fail
      clear e0 e1 e2 ef
      go_loopw [33] (fun i wz => ∃ j : Nat, j ≤ d.md.length ∧ i = .int .i64 j ∧ Sn w wz [boxI w.heap.size 32 [.slice D1 d.mn.length t1, .slice D2 d.mx.length t2, .slice D3 d.md.length t3]] ∧ Hid (∀ a, (ha : a < d.md.length) → a < j → ¬ d.md[a].length = 0)) (fun i _ => d.md.length - (intOf i).toNat)
      case atStart => exact ⟨0, Nat.zero_le _, rfl, S3.out, Lib.hid (fun a _ ha => absurd ha (by omega))⟩
      case round =>
        obtain ⟨j, hjl, rfl, hS, GN⟩ := hrel
        have S4 := Lib.hid hS
        clear hS S3
        by_cases hjt : j < d.md.length
        · have hjt' : (j : Int) < (d.md.length : Int) := by omega
          have j0 : (0 : Int) ≤ (j : Int) := by omega
          obtain ⟨b3, o3, rfl, hb3, hc3⟩ := Y3.out j hjt
          obtain ⟨A5, c5, hc3b, rm5⟩ := hc3 j hjt
          have z3 := (S4.out.1.cell (p := ⟨b3, o3 + j, none⟩) hb3).trans hc3b
          have GA := Lib.hid (fun (h : d.md[j].length = 0) => any_at hjt h)
          have GN2 := Lib.hid (fun (h : ¬ d.md[j].length = 0) => show ∀ a, (ha : a < d.md.length) → a < j + 1 → ¬ d.md[a].length = 0 from fun a ha haj => by
            by_cases e : a = j
            · subst e; exact h
            · exact GN.out a ha (by omega))
          generalize d.md[j].length = q at z3 GA GN2
          clear hc3 hc3b rm5
          by_cases hq : q = 0
          · have HA := Lib.hid (GA.out hq)
            have hq' : (q : Int) = 0 := by omega
            go_wp2
            go_ret
            exact ⟨ret_boo (HE.out.trans HA.out).symm, S4.out.1⟩
          have hq' : ¬ (q : Int) = 0 := by omega
          have GN3 := Lib.hid (GN2.out hq)
          go_wp2
          go_roundw
          case rel => exact ⟨j + 1, by omega, by go_num, S4.out, GN3⟩
          case measure => simp [intOf]; omega
        · have hjge : ¬ (j : Int) < (d.md.length : Int) := by omega
          obtain rfl : j = d.md.length := by omega
          have HA := Lib.hid (any_no (l := d.md) (fun a ha => GN.out a ha ha))
          go_wp2
          go_ret
          exact ⟨ret_boo (HE.out.trans HA.out).symm, S4.out.1⟩
end Go.Proofs.YtdbnhdiboemmiacGreat
end
