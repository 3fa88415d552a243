/- DERIVED. CONTRACTS of chapter 13: DomainSize, of the program and of the model. -/
import Derived.Test.YtdbnhdiboemmiacDmB
import Derived.Deep.QuietTactic
namespace Go.Proofs.Ytdbnhdiboemmiac
open Go.RowKit Go.Shelf
set_option linter.unusedVariables false

set_option maxRecDepth 100000 in
set_option maxHeartbeats 8000000 in
theorem implDomainSize_any (d : Dm) (v : Value) (w : World) (hd : (trDm d).rd w v) :
    Calls Try.prog 7 #[v] w fun e w' => e = .returned (.int .i64 (sizeD d)) ∧ Below w.heap.size w w' := by
  have HD := Lib.hid hd
  obtain ⟨D1, t1, D2, t2, D3, t3, rfl, m1, m2, m3⟩ := rdDomain_t hd
  obtain ⟨hd1, B5, d5, he, y1⟩ := rdI (rd_flat m1)
  injection he with he _ he2
  subst he he2
  have Y1 := Lib.hid y1
  obtain ⟨hd2, B6, d6, he, y2⟩ := rdI (rd_flat m2)
  injection he with he _ he2
  subst he he2
  have Y2 := Lib.hid y2
  obtain ⟨hd3, B7, d7, he, y3⟩ := rdIntSS_t m3
  injection he with he _ he2
  subst he he2
  have Y3 := Lib.hid y3
  have M1 := Lib.hid (rd_flat m1)
  have M2 := Lib.hid (rd_flat m2)
  clear hd m1 m2 m3 y1 y2 y3
  have S0 := Lib.hid ((Sn.start w).box 28 [.slice D1 d.mn.length t1, .slice D2 d.mx.length t2, .slice D3 d.md.length t3])
  unfold maxLen at hd1 hd2
  go_enter Try.func7, Try.ntmps7
  by_cases h1 : d.mn.length = d.mx.length
  rotate_left
  · have HR := Lib.hid (size_no h1)
    have h1' : ¬ (d.mn.length : Int) = (d.mx.length : Int) := by omega
    go_wp2
    go_ret
    exact ⟨ret_intI HR.out.symm, S0.out.1⟩
  have HR := Lib.hid (size_yes h1)
  have HL := Lib.hid h1
  rw [← h1] at S0 ⊢
  clear h1
  obtain ⟨e0, e1, e2, ef⟩ := (S0.out.bk 0 rfl).c3
  go_wp2_with fail
  clear e0 e1 e2 ef
  go_loopw [3, 16] (fun n i wr => ∃ k : Nat, k ≤ d.mn.length ∧ i = .int .i64 k ∧ n = .int .i64 (sizeK d k) ∧ Sn w wr [boxI w.heap.size 28 [.slice D1 d.mn.length t1, .slice D2 d.mn.length t2, .slice D3 d.md.length t3]]) (fun _ i _ => d.mn.length - (intOf i).toNat)
  case atStart => exact ⟨0, Nat.zero_le _, rfl, rfl, S0.out⟩
  case round =>
    obtain ⟨k, hkl, rfl, rfl, hS⟩ := hrel
    have S3 := Lib.hid hS
    clear hS S0
    by_cases hlt : k < d.mn.length
    · have hlt' : (k : Int) < (d.mn.length : Int) := by omega
      have k0 : (0 : Int) ≤ (k : Int) := by omega
      obtain ⟨b1, o1, rfl, hb1, hc1⟩ := Y1.out k hlt
      obtain ⟨b2, o2, rfl, hb2, hc2⟩ := Y2.out k (by rw [← HL.out]; exact hlt)
      have z1 := (S3.out.1.cell (p := ⟨b1, o1 + k, none⟩) hb1).trans (hc1 k hlt)
      have z2 := (S3.out.1.cell (p := ⟨b2, o2 + k, none⟩) hb2).trans (hc2 k (by rw [← HL.out]; exact hlt))
      rw [← mnD_at] at z1
      rw [← mxD_at] at z2
      have HS := Lib.hid (show sizeK d (k + 1) = max (sizeK d k) (brT (mxD d k) - brT (mnD d k) + 1) from rfl)
      have hs0 := size_in d k
      have r1 := br_in (mnD d k)
      have r2 := br_in (mxD d k)
      generalize mnD d k = mn at z1 HS r1
      generalize mxD d k = mx at z2 HS r2
      generalize sizeK d k = sz at HS hs0 ⊢
      have hw1 : IntKind.i64.wrap (brT mx - brT mn) = brT mx - brT mn := by rw [IntKind.wrap_i64]; omega
      have hw2 : IntKind.i64.wrap (brT mx - brT mn + 1) = brT mx - brT mn + 1 := by rw [IntKind.wrap_i64]; omega
      clear hc1 hc2
      obtain ⟨e0, e1, e2, ef⟩ := (S3.out.bk 0 rfl).c3
      go_wp2_with fail
      refine (clampT_any mx _).mono ?_
      rintro e w4 ⟨rfl, rfl⟩
      go_wp2_with fail
      refine (clampT_any mn _).mono ?_
      rintro e w5 ⟨rfl, rfl⟩
      go_wp2
      go_roundw
      case rel => exact ⟨k + 1, by omega, by go_num, by rw [HS.out], S3.out⟩
      case measure => simp [intOf]; omega
    · have hge : ¬ (k : Int) < (d.mn.length : Int) := by omega
      obtain rfl : k = d.mn.length := by omega
      go_wp2
      go_ret
      exact ⟨ret_intI HR.out.symm, S3.out.1⟩
theorem max_w (x y : Int) (w : World) : Calls Try.prog 11 #[.int .i64 x, .int .i64 y] w fun e w' => e = .returned (.int .i64 (max x y)) ∧ w = w' := (max_any x y w).mono fun e w' h => ⟨h.1, h.2.symm⟩
set_option maxRecDepth 100000 in
set_option maxHeartbeats 8000000 in
theorem specDomainSize_any (d : Dm) (v : Value) (w : World) (hd : (trDm d).rd w v) :
    Calls Try.prog 5 #[v] w fun e w' => e = .returned (.int .i64 (sizeD d)) ∧ Below w.heap.size w w' := by
  have HD := Lib.hid hd
  obtain ⟨D1, t1, D2, t2, D3, t3, rfl, m1, m2, m3⟩ := rdDomain_t hd
  obtain ⟨hd1, B5, d5, he, y1⟩ := rdI (rd_flat m1)
  injection he with he _ he2
  subst he he2
  have Y1 := Lib.hid y1
  obtain ⟨hd2, B6, d6, he, y2⟩ := rdI (rd_flat m2)
  injection he with he _ he2
  subst he he2
  have Y2 := Lib.hid y2
  obtain ⟨hd3, B7, d7, he, y3⟩ := rdIntSS_t m3
  injection he with he _ he2
  subst he he2
  have Y3 := Lib.hid y3
  have M1 := Lib.hid (rd_flat m1)
  have M2 := Lib.hid (rd_flat m2)
  clear hd m1 m2 m3 y1 y2 y3
  have S0 := Lib.hid ((Sn.start w).box 28 [.slice D1 d.mn.length t1, .slice D2 d.mx.length t2, .slice D3 d.md.length t3])
  unfold maxLen at hd1 hd2
  go_enter Try.func5, Try.ntmps5
  by_cases h1 : d.mn.length = d.mx.length
  rotate_left
  · have HR := Lib.hid (size_no h1)
    have h1' : ¬ (d.mn.length : Int) = (d.mx.length : Int) := by omega
    go_wp2
    go_ret
    exact ⟨ret_intI HR.out.symm, S0.out.1⟩
  have HR := Lib.hid (size_yes h1)
  have HL := Lib.hid h1
  rw [← h1] at S0 ⊢
  clear h1
  obtain ⟨e0, e1, e2, ef⟩ := (S0.out.bk 0 rfl).c3
  go_wp2_with fail
  clear e0 e1 e2 ef
  go_loopw [3, 15] (fun n i wr => ∃ k : Nat, k ≤ d.mn.length ∧ i = .int .i64 k ∧ n = .int .i64 (sizeK d k) ∧ Sn w wr [boxI w.heap.size 28 [.slice D1 d.mn.length t1, .slice D2 d.mn.length t2, .slice D3 d.md.length t3]]) (fun _ i _ => d.mn.length - (intOf i).toNat)
  case atStart => exact ⟨0, Nat.zero_le _, rfl, rfl, S0.out⟩
  case round =>
    obtain ⟨k, hkl, rfl, rfl, hS⟩ := hrel
    have S3 := Lib.hid hS
    clear hS S0
    by_cases hlt : k < d.mn.length
    · have hlt' : (k : Int) < (d.mn.length : Int) := by omega
      have k0 : (0 : Int) ≤ (k : Int) := by omega
      obtain ⟨b1, o1, rfl, hb1, hc1⟩ := Y1.out k hlt
      obtain ⟨b2, o2, rfl, hb2, hc2⟩ := Y2.out k (by rw [← HL.out]; exact hlt)
      have z1 := (S3.out.1.cell (p := ⟨b1, o1 + k, none⟩) hb1).trans (hc1 k hlt)
      have z2 := (S3.out.1.cell (p := ⟨b2, o2 + k, none⟩) hb2).trans (hc2 k (by rw [← HL.out]; exact hlt))
      rw [← mnD_at] at z1
      rw [← mxD_at] at z2
      have HS := Lib.hid (show sizeK d (k + 1) = max (sizeK d k) (brT (mxD d k) - brT (mnD d k) + 1) from rfl)
      have hs0 := size_in d k
      have r1 := br_in (mnD d k)
      have r2 := br_in (mxD d k)
      generalize mnD d k = mn at z1 HS r1
      generalize mxD d k = mx at z2 HS r2
      generalize sizeK d k = sz at HS hs0 ⊢
      have hw1 : IntKind.i64.wrap (brT mx - brT mn) = brT mx - brT mn := by rw [IntKind.wrap_i64]; omega
      have hw2 : IntKind.i64.wrap (brT mx - brT mn + 1) = brT mx - brT mn + 1 := by rw [IntKind.wrap_i64]; omega
      clear hc1 hc2
      obtain ⟨e0, e1, e2, ef⟩ := (S3.out.bk 0 rfl).c3
      go_wp2_with fail
      go_quiet (first | (go_at_call 12; exact quiet_left (brought_any _ _)) | (go_at_call 11; exact quiet_left (max_w _ _ _)) | fail)
      go_wp2
      go_roundw
      case rel => exact ⟨k + 1, by omega, by go_num, by rw [HS.out], S3.out.go (below_drewN (Below.refl _ _) _)⟩
      case measure => simp [intOf]; omega
    · have hge : ¬ (k : Int) < (d.mn.length : Int) := by omega
      obtain rfl : k = d.mn.length := by omega
      go_wp2
      go_ret
      exact ⟨ret_intI HR.out.symm, S3.out.1⟩
end Go.Proofs.Ytdbnhdiboemmiac
