/- DERIVED. CONTRACTS of chapter 11, of the program: RuleOk, Violates: the conditions asked through their interface. -/
import Derived.Test.YtaglfdkeomjpdabRuA
import Derived.Test.YtaglfdkeomjpdabScG
import Derived.Test.YtaglfdkeomjpdabStpX
import Derived.Test.YtaglfdkeomjpdabStpY
import Derived.Lib.MinMax
import Derived.Test.YtaglfdkeomjpdabHof

section
namespace Go.Proofs.Ytaglfdkeomjpdab
open Go.RowKit Go.Shelf
set_option linter.unusedVariables false

theorem ret_bZ {a b : Bool} (h : a = b) : Ending.returned (.bool a) = Ending.returned (.bool b) := by rw [h]
theorem not_lt_dec (a b : Int) : (!decide (a < b)) = decide (b ≤ a) := by
  rw [Bool.eq_iff_iff]
  simp
theorem cap_in {xs : List Pr} {t : Int} (h : okP xs = true) (ht : 0 ≤ t ∧ t ≤ 60) : capB xs t = atP xs t := by rw [capB, h, inB_yes ht]; rfl
theorem total_in {xs : List Pr} {x y : Int} (h : okP xs = true) (hx : 0 ≤ x ∧ x ≤ 60) (hy : 0 ≤ y ∧ y ≤ 60) : totalB xs x y = sumT xs x y := by rw [totalB, spanB, h, inB_yes hx, inB_yes hy]; rfl
theorem pok_st {p : Pj} (h : pokB p = true) {r : Nat} (hr : r < p.ress.length) : okP p.ress[r].st = true := by
  have := pok_ress h _ (List.getElem_mem hr)
  simp only [rokB, Bool.and_eq_true] at this
  exact this.2.1
theorem pok_lk {p : Pj} (h : pokB p = true) {i : Nat} (hi : i < p.lks.length) : lokB p.acts.length p.lks[i] = true := by
  simp only [pokB, Bool.and_eq_true, List.all_eq_true] at h
  exact h.2.2.2.2.2.2.2.2.2 _ (List.getElem_mem hi)

set_option maxRecDepth 100000 in
set_option maxHeartbeats 8000000 in
theorem usageOf_any (p : Pj) (s : Sc) (r a : Nat) (v u : Value) (w : World) (hv : (trPj p).rd w v) (hs : (trSc s).rd w u) (hf : Form p s) (hr : r < p.ress.length) (ha : a < p.acts.length) :
    Calls Try.prog 150 #[v, u, .int .i64 (r : Int), .int .i64 (a : Int)] w fun e w' => e = .returned (.int .i64 (usA p s r a)) ∧ Below w.heap.size w w' := by
  have HV := Lib.hid hv
  obtain ⟨A1, c1, A2, c2, A3, c3, A4, c4, rfl, _⟩ := rdProject_t hv
  clear hv
  have HQ := Lib.hid hs
  obtain ⟨E1, f1, E2, f2, rfl, q1, q2⟩ := rdSchedule_t hs
  obtain ⟨ht1, B8, d8, he, x1⟩ := rdI (rd_flat q1)
  injection he with he _ he2
  subst he he2
  have X1 := Lib.hid x1
  obtain ⟨ht2, B9, d9, he, x2⟩ := rdI (rd_flat q2)
  injection he with he _ he2
  subst he he2
  have X2 := Lib.hid x2
  clear hs q1 q2 x1 x2
  have S0 := Lib.hid (((Sn.start w).box 34 [.int .i64 p.dl, .slice A1 p.acts.length c1, .slice A2 p.lks.length c2, .slice A3 p.ress.length c3, .slice A4 p.stk.length c4]).box 41 [.slice E1 s.st.length f1, .slice E2 s.mo.length f2])
  simp only [World.size_alloc] at S0
  go_enter Try.func150, Try.ntmps150
  have HF := Lib.hid hf
  have hus := hf.us ha hr
  have hfd := field_mode1
  have r0 : (0 : Int) ≤ (r : Int) := by omega
  clear hf
  go_wp2_with fail
  refine (implMode_at p s a _ _ w _ (by exact S0.out.1) (by exact HV.out) (by exact HQ.out) HF.out ha).mono ?_
  rintro e w3 ⟨M1, m1, M2, m2, rfl, rm, b⟩
  obtain ⟨N1, k1, N2, k2, he, ru, _⟩ := rdMode_t rm
  obtain ⟨rfl, rfl⟩ : M1 = N1 ∧ m1 = k1 := by
    injection he with he
    injection he with he
    simp at he
    exact ⟨he.1.1, he.1.2⟩
  obtain ⟨hlu, N, n, he, gu⟩ := rdI (rd_flat ru)
  injection he with he _ he2
  subst he he2
  obtain ⟨b7, o7, rfl, hb7, hc7⟩ := gu r (by rw [hus.1]; exact hr)
  have S3 := Lib.hid (S0.out.go b)
  have y7 := (S3.out.1.cell (p := ⟨b7, o7 + r, none⟩) hb7).trans (hc7 r (by rw [hus.1]; exact hr))
  have hua : (mdA p s a).us[r]'(by rw [hus.1]; exact hr) = usA p s r a := by simp [usA, List.getD, List.getElem?_eq_getElem (show r < (mdA p s a).us.length by rw [hus.1]; exact hr)]
  rw [hua] at y7
  have hxl : (r : Int) < ((mdA p s a).us.length : Int) := by rw [hus.1]; omega
  generalize hgu : usA p s r a = ua at y7
  have HU := Lib.hid hgu
  generalize (mdA p s a).us.length = nu at hxl ⊢
  clear S0 b rm hc7 hua hus gu ru hgu
  go_wp2
  go_ret
  exact ⟨ret_numZ HU.out.symm, S3.out.1⟩

set_option maxRecDepth 100000 in
set_option maxHeartbeats 8000000 in
theorem workWithin_any (p : Pj) (s : Sc) (r : Nat) (x y : Int) (v u : Value) (w : World) (hv : (trPj p).rd w v) (hs : (trSc s).rd w u) (hf : Form p s) (hr : r < p.ress.length) (hx : 0 ≤ x ∧ x ≤ 61) (hy : 0 ≤ y ∧ y ≤ 61) :
    Calls Try.prog 149 #[v, u, .int .i64 (r : Int), .int .i64 x, .int .i64 y] w fun e w' => e = .returned (.int .i64 (wsumK p s r x y p.acts.length)) ∧ Below w.heap.size w w' := by
  have HV := Lib.hid hv
  obtain ⟨A1, c1, A2, c2, A3, c3, A4, c4, rfl, _⟩ := rdProject_t hv
  clear hv
  have HQ := Lib.hid hs
  obtain ⟨E1, f1, E2, f2, rfl, q1, q2⟩ := rdSchedule_t hs
  obtain ⟨ht1, B8, d8, he, x1⟩ := rdI (rd_flat q1)
  injection he with he _ he2
  subst he he2
  have X1 := Lib.hid x1
  obtain ⟨ht2, B9, d9, he, x2⟩ := rdI (rd_flat q2)
  injection he with he _ he2
  subst he he2
  have X2 := Lib.hid x2
  clear hs q1 q2 x1 x2
  have S0 := Lib.hid (((Sn.start w).box 34 [.int .i64 p.dl, .slice A1 p.acts.length c1, .slice A2 p.lks.length c2, .slice A3 p.ress.length c3, .slice A4 p.stk.length c4]).box 41 [.slice E1 s.st.length f1, .slice E2 s.mo.length f2])
  simp only [World.size_alloc] at S0
  go_enter Try.func149, Try.ntmps149
  have h6 := hf.n6
  have H1 := Lib.hid hf.h1
  have HF := Lib.hid hf
  rw [H1.out] at HQ S0 ⊢
  clear hf
  go_wp2
  go_loopw [11, 18] (fun q i wr => ∃ k : Nat, k ≤ p.acts.length ∧ i = .int .i64 k ∧ q = .int .i64 (wsumK p s r x y k) ∧ Sn w wr [boxI (w.heap.size + 1) 41 [.slice E1 p.acts.length f1, .slice E2 s.mo.length f2], boxI w.heap.size 34 [.int .i64 p.dl, .slice A1 p.acts.length c1, .slice A2 p.lks.length c2, .slice A3 p.ress.length c3, .slice A4 p.stk.length c4]]) (fun _ i _ => p.acts.length - (intOf i).toNat)
  case atStart => exact ⟨0, Nat.zero_le _, rfl, rfl, S0.out⟩
  case round =>
    obtain ⟨k, hkl, rfl, rfl, hS⟩ := hrel
    have S1 := Lib.hid hS
    clear hS S0
    by_cases hlt : k < p.acts.length
    · have hlt' : (k : Int) < (p.acts.length : Int) := by omega
      have k0 : (0 : Int) ≤ (k : Int) := by omega
      obtain ⟨b8, o8, rfl, hb8, hc8⟩ := X1.out k (by rw [H1.out]; exact hlt)
      have y8 := (S1.out.1.cell (p := ⟨b8, o8 + k, none⟩) hb8).trans (hc8 k (by rw [H1.out]; exact hlt))
      rw [← stA_at] at y8
      have hst := HF.out.st k hlt
      have hen := HF.out.en hlt
      have HT := Lib.hid (show wsumK p s r x y (k + 1) = wsumK p s r x y k + lastsA p s x y k * usA p s r k from rfl)
      have hs0 := wsum_hi HF.out hr x y k hkl
      have hl0 := lasts_hi HF.out hlt x y
      have ht0 := term_hi HF.out hr hlt x y
      have HL := Lib.hid (show lastsA p s x y k = max 0 (min (endA p s k) y - max (stA s k) x) from rfl)
      clear hc8
      obtain ⟨e0, e1, e2, e3, e4, ef⟩ := (S1.out.bk 1 rfl).c5
      obtain ⟨q0, q1, qf⟩ := (S1.out.bk 0 rfl).c2
      go_wp2_with fail
      clear e0 e1 e2 e3 e4 ef
      clear q0 q1 qf
      refine (implEnd_any p s k _ _ _ (by exact S1.out.old HV.out) (by exact S1.out.old HQ.out) HF.out hlt).mono ?_
      rintro e w2 ⟨rfl, b⟩
      have S2 := Lib.hid (S1.out.go b)
      clear S1 b
      clear y8
      generalize wsumK p s r x y k = su at HT hs0 ⊢
      generalize endA p s k = en at HL hen ⊢
      generalize stA s k = st at HL hst ⊢
      have hw1 : IntKind.i64.wrap (min en y - max st x) = min en y - max st x := by rw [IntKind.wrap_i64]; omega
      obtain ⟨e0, e1, e2, e3, e4, ef⟩ := (S2.out.bk 1 rfl).c5
      obtain ⟨q0, q1, qf⟩ := (S2.out.bk 0 rfl).c2
      go_wp2_with fail
      clear e0 e1 e2 e3 e4 ef
      clear q0 q1 qf
      refine (usageOf_any p s r k _ _ _ (by exact S2.out.old HV.out) (by exact S2.out.old HQ.out) HF.out hr hlt).mono ?_
      rintro e w3 ⟨rfl, b⟩
      have S3 := Lib.hid (S2.out.go b)
      clear S2 b
      rw [← HL.out]
      generalize lastsA p s x y k = la at HT hl0 ht0 HL ⊢
      generalize usA p s r k = ua at HT ht0 ⊢
      generalize hpr : la * ua = pr at HT ht0
      have hw2 : IntKind.i64.wrap (la * ua) = pr := by rw [hpr, IntKind.wrap_i64]; omega
      have hw3 : IntKind.i64.wrap (su + pr) = su + pr := by rw [IntKind.wrap_i64]; omega
      clear hpr hw1
      go_wp2
      go_roundw
      case rel => exact ⟨k + 1, by omega, by go_num, by rw [HT.out], S3.out⟩
      case measure => simp [intOf]; omega
    · have hge : ¬ (k : Int) < (p.acts.length : Int) := by omega
      obtain rfl : k = p.acts.length := by omega
      go_wp2
      go_ret
      exact ⟨rfl, S1.out.1⟩

set_option maxRecDepth 100000 in
set_option maxHeartbeats 8000000 in
theorem met_fin (p : Pj) (s : Sc) (a : Nat) (v u : Value) (w : World) (hv : (trPj p).rd w v) (hs : (trSc s).rd w u) (hf : Form p s) (ha : a < p.acts.length) :
    Calls Try.prog 144 #[.agg #[.int .i64 (a : Int)], v, u] w fun e w' => e = .returned (.bool (!failC p s (.fin (a : Int)))) ∧ Below w.heap.size w w' := by
  have HV := Lib.hid hv
  obtain ⟨A1, c1, A2, c2, A3, c3, A4, c4, rfl, _⟩ := rdProject_t hv
  clear hv
  have HQ := Lib.hid hs
  obtain ⟨E1, f1, E2, f2, rfl, q1, q2⟩ := rdSchedule_t hs
  obtain ⟨ht1, B8, d8, he, x1⟩ := rdI (rd_flat q1)
  injection he with he _ he2
  subst he he2
  have X1 := Lib.hid x1
  obtain ⟨ht2, B9, d9, he, x2⟩ := rdI (rd_flat q2)
  injection he with he _ he2
  subst he he2
  have X2 := Lib.hid x2
  clear hs q1 q2 x1 x2
  have S0 := Lib.hid ((((Sn.start w).box 148 [.int .i64 (a : Int)]).box 34 [.int .i64 p.dl, .slice A1 p.acts.length c1, .slice A2 p.lks.length c2, .slice A3 p.ress.length c3, .slice A4 p.stk.length c4]).box 41 [.slice E1 s.st.length f1, .slice E2 s.mo.length f2])
  simp only [World.size_alloc] at S0
  go_enter Try.func144, Try.ntmps144
  have HF := Lib.hid hf
  have HR := Lib.hid (show (!failC p s (.fin (a : Int))) = decide (endA p s a ≤ p.dl) from not_lt_dec _ _)
  clear hf
  go_wp2_with fail
  generalize World.alloc (World.alloc (World.alloc w _) _) _ = wv at S0 ⊢
  obtain ⟨e0, ef⟩ := (S0.out.bk 2 rfl).c1
  obtain ⟨p0, p1, p2, p3, p4, pf⟩ := (S0.out.bk 1 rfl).c5
  obtain ⟨q0, q1, qf⟩ := (S0.out.bk 0 rfl).c2
  have hl0 := (S0.out.bk 0 rfl).lt
  have hl1 := (S0.out.bk 1 rfl).lt
  have hl2 := (S0.out.bk 2 rfl).lt
  have S1 := Lib.hid S0.out.drew1
  have CE := Lib.hid (fun (W : World) (h : Wr [] wv.drew W) => show Hid (Wr [] wv.drew W) ∧ W.cell? ⟨w.heap.size, 0, none⟩ = some (.int .i64 (a : Int)) ∧ W.cell? ⟨w.heap.size + 1, 0, none⟩ = some (.int .i64 p.dl) ∧ W.cell? ⟨w.heap.size + 1, 1, none⟩ = some (.slice A1 p.acts.length c1) ∧ W.cell? ⟨w.heap.size + 1, 2, none⟩ = some (.slice A2 p.lks.length c2) ∧ W.cell? ⟨w.heap.size + 1, 3, none⟩ = some (.slice A3 p.ress.length c3) ∧ W.cell? ⟨w.heap.size + 1, 4, none⟩ = some (.slice A4 p.stk.length c4) ∧ W.cell? ⟨w.heap.size + 1 + 1, 0, none⟩ = some (.slice E1 s.st.length f1) ∧ W.cell? ⟨w.heap.size + 1 + 1, 1, none⟩ = some (.slice E2 s.mo.length f2) from ⟨Lib.hid h, (wr_cell h (p := ⟨w.heap.size, 0, none⟩) hl2 (by simp)).trans (by exact by simpa using e0), (wr_cell h (p := ⟨w.heap.size + 1, 0, none⟩) hl1 (by simp)).trans (by exact by simpa using p0), (wr_cell h (p := ⟨w.heap.size + 1, 1, none⟩) hl1 (by simp)).trans (by exact by simpa using p1), (wr_cell h (p := ⟨w.heap.size + 1, 2, none⟩) hl1 (by simp)).trans (by exact by simpa using p2), (wr_cell h (p := ⟨w.heap.size + 1, 3, none⟩) hl1 (by simp)).trans (by exact by simpa using p3), (wr_cell h (p := ⟨w.heap.size + 1, 4, none⟩) hl1 (by simp)).trans (by exact by simpa using p4), (wr_cell h (p := ⟨w.heap.size + 1 + 1, 0, none⟩) hl0 (by simp)).trans (by exact by simpa using q0), (wr_cell h (p := ⟨w.heap.size + 1 + 1, 1, none⟩) hl0 (by simp)).trans (by exact by simpa using q1)⟩)
  have INIT := Lib.hid (CE.out _ (Wr.refl _ _))
  have KW := Lib.hid (fun (W2 W : World) (hb : Wr [] W W2) (h : Hid (Wr [] wv.drew W) ∧ W.cell? ⟨w.heap.size, 0, none⟩ = some (.int .i64 (a : Int)) ∧ W.cell? ⟨w.heap.size + 1, 0, none⟩ = some (.int .i64 p.dl) ∧ W.cell? ⟨w.heap.size + 1, 1, none⟩ = some (.slice A1 p.acts.length c1) ∧ W.cell? ⟨w.heap.size + 1, 2, none⟩ = some (.slice A2 p.lks.length c2) ∧ W.cell? ⟨w.heap.size + 1, 3, none⟩ = some (.slice A3 p.ress.length c3) ∧ W.cell? ⟨w.heap.size + 1, 4, none⟩ = some (.slice A4 p.stk.length c4) ∧ W.cell? ⟨w.heap.size + 1 + 1, 0, none⟩ = some (.slice E1 s.st.length f1) ∧ W.cell? ⟨w.heap.size + 1 + 1, 1, none⟩ = some (.slice E2 s.mo.length f2)) => CE.out W2 (h.1.out.trans hb))
  clear e0 ef p0 p1 p2 p3 p4 pf q0 q1 qf
  go_region_held3 (fun W => Hid (Wr [] wv.drew W) ∧ W.cell? ⟨w.heap.size, 0, none⟩ = some (.int .i64 (a : Int)) ∧ W.cell? ⟨w.heap.size + 1, 0, none⟩ = some (.int .i64 p.dl) ∧ W.cell? ⟨w.heap.size + 1, 1, none⟩ = some (.slice A1 p.acts.length c1) ∧ W.cell? ⟨w.heap.size + 1, 2, none⟩ = some (.slice A2 p.lks.length c2) ∧ W.cell? ⟨w.heap.size + 1, 3, none⟩ = some (.slice A3 p.ress.length c3) ∧ W.cell? ⟨w.heap.size + 1, 4, none⟩ = some (.slice A4 p.stk.length c4) ∧ W.cell? ⟨w.heap.size + 1 + 1, 0, none⟩ = some (.slice E1 s.st.length f1) ∧ W.cell? ⟨w.heap.size + 1 + 1, 1, none⟩ = some (.slice E2 s.mo.length f2)) (first | exact INIT.out | exact KW.out _ _ (by assumption) (by assumption) | exact KW.out _ _ (Wr.of_below (by assumption) (Nat.le_refl _)) (by assumption) | exact KW.out _ _ (Wr.of_below ((Below.refl _ _).alloc (Nat.le_refl _) _) (Nat.le_refl _)) (by assumption))
    ((go_at_call 142; refine (implEnd_any p s a _ _ _ (by exact S1.out.old HV.out) (by exact S1.out.old HQ.out) HF.out ha).mono ?_; rintro e w5 ⟨rfl, b⟩; have S2 := Lib.hid (S1.out.go b)))
  rename_i hHeld
  clear hHeld CE INIT KW S1 b
  go_wp2
  go_ret
  exact ⟨ret_bZ HR.out.symm, S2.out.1⟩

set_option maxRecDepth 100000 in
set_option maxHeartbeats 8000000 in
theorem met_stk (p : Pj) (s : Sc) (a : Nat) (v u : Value) (w : World) (hv : (trPj p).rd w v) (hk : (trPj p).ok) (hs : (trSc s).rd w u) (hf : formB p s = true) (ha : a < p.stk.length) :
    Calls Try.prog 152 #[.agg #[.int .i64 (a : Int)], v, u] w fun e w' => e = .returned (.bool (!failC p s (.stk (a : Int)))) ∧ Below w.heap.size w w' := by
  have HK := Lib.hid hk
  have HV := Lib.hid hv
  obtain ⟨A1, c1, A2, c2, A3, c3, A4, c4, rfl, r1, r2, r3, r4⟩ := rdProject_t hv
  clear hv
  have HQ := Lib.hid hs
  obtain ⟨E1, f1, E2, f2, rfl, q1, q2⟩ := rdSchedule_t hs
  obtain ⟨ht1, B8, d8, he, x1⟩ := rdI (rd_flat q1)
  injection he with he _ he2
  subst he he2
  have X1 := Lib.hid x1
  obtain ⟨ht2, B9, d9, he, x2⟩ := rdI (rd_flat q2)
  injection he with he _ he2
  subst he he2
  have X2 := Lib.hid x2
  clear hs q1 q2 x1 x2
  have S0 := Lib.hid ((((Sn.start w).box 153 [.int .i64 (a : Int)]).box 34 [.int .i64 p.dl, .slice A1 p.acts.length c1, .slice A2 p.lks.length c2, .slice A3 p.ress.length c3, .slice A4 p.stk.length c4]).box 41 [.slice E1 s.st.length f1, .slice E2 s.mo.length f2])
  simp only [World.size_alloc] at S0
  go_enter Try.func152, Try.ntmps152
  obtain ⟨_, U4, u4, he, g4⟩ := rdI (rd_flat r4)
  injection he with he _ he2
  subst he he2
  obtain ⟨b4, o4, rfl, hb4, hc4⟩ := g4 a ha
  have hc4 := hc4 a ha
  rw [← skA_at] at hc4
  have HR := Lib.hid (show (!failC p s (.stk (a : Int))) = decide (conB p s (a : Int) ≤ skA p a) from by rw [con_yes hf ha]; exact not_lt_dec _ _)
  have ha' : (a : Int) < (p.stk.length : Int) := by omega
  have a0 : (0 : Int) ≤ (a : Int) := by omega
  clear hf hk g4 r1 r2 r3 r4
  go_wp2_with fail
  have y4 := (S0.out.1.cell (p := ⟨b4, o4 + a, none⟩) hb4).trans hc4
  generalize World.alloc (World.alloc (World.alloc w _) _) _ = wv at S0 y4 ⊢
  obtain ⟨e0, ef⟩ := (S0.out.bk 2 rfl).c1
  obtain ⟨p0, p1, p2, p3, p4, pf⟩ := (S0.out.bk 1 rfl).c5
  obtain ⟨q0, q1, qf⟩ := (S0.out.bk 0 rfl).c2
  have hl0 := (S0.out.bk 0 rfl).lt
  have hl1 := (S0.out.bk 1 rfl).lt
  have hl2 := (S0.out.bk 2 rfl).lt
  have hsz := S0.out.1.size
  have hb4' : b4 < wv.heap.size := by omega
  have S1 := Lib.hid S0.out.drew1
  generalize skA p a = sk at y4 HR
  have CE := Lib.hid (fun (W : World) (h : Wr [] wv.drew W) => show Hid (Wr [] wv.drew W) ∧ W.cell? ⟨w.heap.size, 0, none⟩ = some (.int .i64 (a : Int)) ∧ W.cell? ⟨w.heap.size + 1, 0, none⟩ = some (.int .i64 p.dl) ∧ W.cell? ⟨w.heap.size + 1, 1, none⟩ = some (.slice A1 p.acts.length c1) ∧ W.cell? ⟨w.heap.size + 1, 2, none⟩ = some (.slice A2 p.lks.length c2) ∧ W.cell? ⟨w.heap.size + 1, 3, none⟩ = some (.slice A3 p.ress.length c3) ∧ W.cell? ⟨w.heap.size + 1, 4, none⟩ = some (.slice (some ⟨b4, o4, none⟩) p.stk.length c4) ∧ W.cell? ⟨w.heap.size + 1 + 1, 0, none⟩ = some (.slice E1 s.st.length f1) ∧ W.cell? ⟨w.heap.size + 1 + 1, 1, none⟩ = some (.slice E2 s.mo.length f2) ∧ W.cell? ⟨b4, o4 + a, none⟩ = some (.int .i64 sk) from ⟨Lib.hid h, (wr_cell h (p := ⟨w.heap.size, 0, none⟩) hl2 (by simp)).trans (by exact by simpa using e0), (wr_cell h (p := ⟨w.heap.size + 1, 0, none⟩) hl1 (by simp)).trans (by exact by simpa using p0), (wr_cell h (p := ⟨w.heap.size + 1, 1, none⟩) hl1 (by simp)).trans (by exact by simpa using p1), (wr_cell h (p := ⟨w.heap.size + 1, 2, none⟩) hl1 (by simp)).trans (by exact by simpa using p2), (wr_cell h (p := ⟨w.heap.size + 1, 3, none⟩) hl1 (by simp)).trans (by exact by simpa using p3), (wr_cell h (p := ⟨w.heap.size + 1, 4, none⟩) hl1 (by simp)).trans (by exact by simpa using p4), (wr_cell h (p := ⟨w.heap.size + 1 + 1, 0, none⟩) hl0 (by simp)).trans (by exact by simpa using q0), (wr_cell h (p := ⟨w.heap.size + 1 + 1, 1, none⟩) hl0 (by simp)).trans (by exact by simpa using q1), (wr_cell h (p := ⟨b4, o4 + a, none⟩) hb4' (by simp)).trans (by exact by simpa using y4)⟩)
  have INIT := Lib.hid (CE.out _ (Wr.refl _ _))
  have KW := Lib.hid (fun (W2 W : World) (hb : Wr [] W W2) (h : Hid (Wr [] wv.drew W) ∧ W.cell? ⟨w.heap.size, 0, none⟩ = some (.int .i64 (a : Int)) ∧ W.cell? ⟨w.heap.size + 1, 0, none⟩ = some (.int .i64 p.dl) ∧ W.cell? ⟨w.heap.size + 1, 1, none⟩ = some (.slice A1 p.acts.length c1) ∧ W.cell? ⟨w.heap.size + 1, 2, none⟩ = some (.slice A2 p.lks.length c2) ∧ W.cell? ⟨w.heap.size + 1, 3, none⟩ = some (.slice A3 p.ress.length c3) ∧ W.cell? ⟨w.heap.size + 1, 4, none⟩ = some (.slice (some ⟨b4, o4, none⟩) p.stk.length c4) ∧ W.cell? ⟨w.heap.size + 1 + 1, 0, none⟩ = some (.slice E1 s.st.length f1) ∧ W.cell? ⟨w.heap.size + 1 + 1, 1, none⟩ = some (.slice E2 s.mo.length f2) ∧ W.cell? ⟨b4, o4 + a, none⟩ = some (.int .i64 sk)) => CE.out W2 (h.1.out.trans hb))
  clear e0 ef p0 p1 p2 p3 p4 pf q0 q1 qf y4 hc4
  go_region_held3 (fun W => Hid (Wr [] wv.drew W) ∧ W.cell? ⟨w.heap.size, 0, none⟩ = some (.int .i64 (a : Int)) ∧ W.cell? ⟨w.heap.size + 1, 0, none⟩ = some (.int .i64 p.dl) ∧ W.cell? ⟨w.heap.size + 1, 1, none⟩ = some (.slice A1 p.acts.length c1) ∧ W.cell? ⟨w.heap.size + 1, 2, none⟩ = some (.slice A2 p.lks.length c2) ∧ W.cell? ⟨w.heap.size + 1, 3, none⟩ = some (.slice A3 p.ress.length c3) ∧ W.cell? ⟨w.heap.size + 1, 4, none⟩ = some (.slice (some ⟨b4, o4, none⟩) p.stk.length c4) ∧ W.cell? ⟨w.heap.size + 1 + 1, 0, none⟩ = some (.slice E1 s.st.length f1) ∧ W.cell? ⟨w.heap.size + 1 + 1, 1, none⟩ = some (.slice E2 s.mo.length f2) ∧ W.cell? ⟨b4, o4 + a, none⟩ = some (.int .i64 sk)) (first | exact INIT.out | exact KW.out _ _ (by assumption) (by assumption) | exact KW.out _ _ (Wr.of_below (by assumption) (Nat.le_refl _)) (by assumption) | exact KW.out _ _ (Wr.of_below ((Below.refl _ _).alloc (Nat.le_refl _) _) (Nat.le_refl _)) (by assumption))
    ((go_at_call 154; refine (implConsumptionOf_any p s (a : Int) _ _ _ (by exact S1.out.old HV.out) HK.out (by exact S1.out.old HQ.out)).mono ?_; rintro e w5 ⟨rfl, b⟩; have S2 := Lib.hid (S1.out.go b)))
  rename_i hHeld
  clear hHeld CE INIT KW S1 b
  go_wp2
  go_ret
  exact ⟨ret_bZ HR.out.symm, S2.out.1⟩

end Go.Proofs.Ytaglfdkeomjpdab
end

section
namespace Go.Proofs.Ytaglfdkeomjpdab
open Go.RowKit Go.Shelf
set_option linter.unusedVariables false

theorem tim_eq {p : Pj} {s : Sc} {r : Nat} {b : Int} (hf : Form p s) (hr : r < p.ress.length) (hb : 0 ≤ b ∧ b ≤ 60) : (!failC p s (.tim (r : Int) b)) = decide (wsumK p s r b (b + 1) p.acts.length ≤ capB p.ress[r].st b) := by
  rw [cap_in (pok_st hf.ok hr) hb, wsum_one, ← rsA_at hr]
  exact not_lt_dec _ _
theorem wrk_eq {p : Pj} {s : Sc} {r : Nat} {b c : Int} (hf : Form p s) (hr : r < p.ress.length) (hb : 0 ≤ b ∧ b ≤ 60) (hc : 0 ≤ c ∧ c ≤ 60) (h : b < c) : (!failC p s (.wrk (r : Int) b c)) = decide (wsumK p s r b c p.acts.length ≤ totalB p.ress[r].st b c) := by
  rw [total_in (pok_st hf.ok hr) hb hc, ← rsA_at hr]
  have := wsum_wrk p s r b p.acts.length (c - b).toNat
  rw [show b + ((c - b).toNat : Int) = c from by omega] at this
  rw [this]
  exact not_lt_dec _ _

set_option maxRecDepth 100000 in
set_option maxHeartbeats 8000000 in
theorem met_tim (p : Pj) (s : Sc) (r : Nat) (b : Int) (v u : Value) (w : World) (hv : (trPj p).rd w v) (hs : (trSc s).rd w u) (hf : Form p s) (hr : r < p.ress.length) (hb : 0 ≤ b ∧ b ≤ 60) :
    Calls Try.prog 147 #[.agg #[.int .i64 (r : Int), .int .i64 b], v, u] w fun e w' => e = .returned (.bool (!failC p s (.tim (r : Int) b))) ∧ Below w.heap.size w w' := by
  have HV := Lib.hid hv
  obtain ⟨A1, c1, A2, c2, A3, c3, A4, c4, rfl, r1, r2, r3, r4⟩ := rdProject_t hv
  clear hv
  have HQ := Lib.hid hs
  obtain ⟨E1, f1, E2, f2, rfl, q1, q2⟩ := rdSchedule_t hs
  obtain ⟨ht1, B8, d8, he, x1⟩ := rdI (rd_flat q1)
  injection he with he _ he2
  subst he he2
  have X1 := Lib.hid x1
  obtain ⟨ht2, B9, d9, he, x2⟩ := rdI (rd_flat q2)
  injection he with he _ he2
  subst he he2
  have X2 := Lib.hid x2
  clear hs q1 q2 x1 x2
  have S0 := Lib.hid ((((Sn.start w).box 150 [.int .i64 (r : Int), .int .i64 b]).box 34 [.int .i64 p.dl, .slice A1 p.acts.length c1, .slice A2 p.lks.length c2, .slice A3 p.ress.length c3, .slice A4 p.stk.length c4]).box 41 [.slice E1 s.st.length f1, .slice E2 s.mo.length f2])
  simp only [World.size_alloc] at S0
  go_enter Try.func147, Try.ntmps147
  obtain ⟨hl3, B3, d3, he, g3⟩ := rdResourceS_t r3
  injection he with he _ he2
  subst he he2
  obtain ⟨b3, o3, rfl, hb3, hc3⟩ := g3 r hr
  obtain ⟨U0, d0, U1, d1, y0, y1, ru, _⟩ := hc3 r hr
  have RU := Lib.hid ru
  have HF := Lib.hid hf
  have HR := Lib.hid (tim_eq hf hr hb)
  have hr' : (r : Int) < (p.ress.length : Int) := by omega
  have r0 : (0 : Int) ≤ (r : Int) := by omega
  have hw : IntKind.i64.wrap (b + 1) = b + 1 := by rw [IntKind.wrap_i64]; omega
  clear hf r1 r2 r3 r4 g3 hc3 ru hl3
  go_wp2_with fail
  have z0 := (S0.out.1.cell (p := ⟨b3, o3 + r * 2, none⟩) hb3).trans y0
  generalize World.alloc (World.alloc (World.alloc w _) _) _ = wv at S0 z0 ⊢
  obtain ⟨e0, e1, ef⟩ := (S0.out.bk 2 rfl).c2
  obtain ⟨p0, p1, p2, p3, p4, pf⟩ := (S0.out.bk 1 rfl).c5
  obtain ⟨q0, q1, qf⟩ := (S0.out.bk 0 rfl).c2
  have hl0 := (S0.out.bk 0 rfl).lt
  have hl1 := (S0.out.bk 1 rfl).lt
  have hl2 := (S0.out.bk 2 rfl).lt
  have hsz := S0.out.1.size
  have hb3' : b3 < wv.heap.size := by omega
  have S1 := Lib.hid S0.out.drew1
  generalize hst : p.ress[r].st = st at RU z0 HR
  have CE := Lib.hid (fun (W : World) (h : Wr [] wv.drew W) => show Hid (Wr [] wv.drew W) ∧ W.cell? ⟨w.heap.size, 0, none⟩ = some (.int .i64 (r : Int)) ∧ W.cell? ⟨w.heap.size, 1, none⟩ = some (.int .i64 b) ∧ W.cell? ⟨w.heap.size + 1, 0, none⟩ = some (.int .i64 p.dl) ∧ W.cell? ⟨w.heap.size + 1, 1, none⟩ = some (.slice A1 p.acts.length c1) ∧ W.cell? ⟨w.heap.size + 1, 2, none⟩ = some (.slice A2 p.lks.length c2) ∧ W.cell? ⟨w.heap.size + 1, 3, none⟩ = some (.slice (some ⟨b3, o3, none⟩) p.ress.length c3) ∧ W.cell? ⟨w.heap.size + 1, 4, none⟩ = some (.slice A4 p.stk.length c4) ∧ W.cell? ⟨w.heap.size + 1 + 1, 0, none⟩ = some (.slice E1 s.st.length f1) ∧ W.cell? ⟨w.heap.size + 1 + 1, 1, none⟩ = some (.slice E2 s.mo.length f2) ∧ W.cell? ⟨b3, o3 + r * 2, none⟩ = some (.slice U0 st.length d0) from ⟨Lib.hid h, (wr_cell h (p := ⟨w.heap.size, 0, none⟩) hl2 (by simp)).trans (by exact by simpa using e0), (wr_cell h (p := ⟨w.heap.size, 1, none⟩) hl2 (by simp)).trans (by exact by simpa using e1), (wr_cell h (p := ⟨w.heap.size + 1, 0, none⟩) hl1 (by simp)).trans (by exact by simpa using p0), (wr_cell h (p := ⟨w.heap.size + 1, 1, none⟩) hl1 (by simp)).trans (by exact by simpa using p1), (wr_cell h (p := ⟨w.heap.size + 1, 2, none⟩) hl1 (by simp)).trans (by exact by simpa using p2), (wr_cell h (p := ⟨w.heap.size + 1, 3, none⟩) hl1 (by simp)).trans (by exact by simpa using p3), (wr_cell h (p := ⟨w.heap.size + 1, 4, none⟩) hl1 (by simp)).trans (by exact by simpa using p4), (wr_cell h (p := ⟨w.heap.size + 1 + 1, 0, none⟩) hl0 (by simp)).trans (by exact by simpa using q0), (wr_cell h (p := ⟨w.heap.size + 1 + 1, 1, none⟩) hl0 (by simp)).trans (by exact by simpa using q1), (wr_cell h (p := ⟨b3, o3 + r * 2, none⟩) hb3' (by simp)).trans (by exact by simpa using z0)⟩)
  have INIT := Lib.hid (CE.out _ (Wr.refl _ _))
  have KW := Lib.hid (fun (W2 W : World) (hb : Wr [] W W2) (h : Hid (Wr [] wv.drew W) ∧ W.cell? ⟨w.heap.size, 0, none⟩ = some (.int .i64 (r : Int)) ∧ W.cell? ⟨w.heap.size, 1, none⟩ = some (.int .i64 b) ∧ W.cell? ⟨w.heap.size + 1, 0, none⟩ = some (.int .i64 p.dl) ∧ W.cell? ⟨w.heap.size + 1, 1, none⟩ = some (.slice A1 p.acts.length c1) ∧ W.cell? ⟨w.heap.size + 1, 2, none⟩ = some (.slice A2 p.lks.length c2) ∧ W.cell? ⟨w.heap.size + 1, 3, none⟩ = some (.slice (some ⟨b3, o3, none⟩) p.ress.length c3) ∧ W.cell? ⟨w.heap.size + 1, 4, none⟩ = some (.slice A4 p.stk.length c4) ∧ W.cell? ⟨w.heap.size + 1 + 1, 0, none⟩ = some (.slice E1 s.st.length f1) ∧ W.cell? ⟨w.heap.size + 1 + 1, 1, none⟩ = some (.slice E2 s.mo.length f2) ∧ W.cell? ⟨b3, o3 + r * 2, none⟩ = some (.slice U0 st.length d0)) => CE.out W2 (h.1.out.trans hb))
  clear e0 e1 ef p0 p1 p2 p3 p4 pf q0 q1 qf z0 y0 y1 hst
  go_region_held3 (fun W => Hid (Wr [] wv.drew W) ∧ W.cell? ⟨w.heap.size, 0, none⟩ = some (.int .i64 (r : Int)) ∧ W.cell? ⟨w.heap.size, 1, none⟩ = some (.int .i64 b) ∧ W.cell? ⟨w.heap.size + 1, 0, none⟩ = some (.int .i64 p.dl) ∧ W.cell? ⟨w.heap.size + 1, 1, none⟩ = some (.slice A1 p.acts.length c1) ∧ W.cell? ⟨w.heap.size + 1, 2, none⟩ = some (.slice A2 p.lks.length c2) ∧ W.cell? ⟨w.heap.size + 1, 3, none⟩ = some (.slice (some ⟨b3, o3, none⟩) p.ress.length c3) ∧ W.cell? ⟨w.heap.size + 1, 4, none⟩ = some (.slice A4 p.stk.length c4) ∧ W.cell? ⟨w.heap.size + 1 + 1, 0, none⟩ = some (.slice E1 s.st.length f1) ∧ W.cell? ⟨w.heap.size + 1 + 1, 1, none⟩ = some (.slice E2 s.mo.length f2) ∧ W.cell? ⟨b3, o3 + r * 2, none⟩ = some (.slice U0 st.length d0)) (first | exact INIT.out | exact KW.out _ _ (by assumption) (by assumption) | exact KW.out _ _ (Wr.of_below (by assumption) (Nat.le_refl _)) (by assumption) | exact KW.out _ _ (Wr.of_below ((Below.refl _ _).alloc (Nat.le_refl _) _) (Nat.le_refl _)) (by assumption))
    ((first | (go_at_call 149; refine (workWithin_any p s r b (b + 1) _ _ _ (by exact S1.out.old HV.out) (by exact S1.out.old HQ.out) HF.out hr (by omega) (by omega)).mono ?_; rintro e w5 ⟨rfl, bb⟩; have S2 := Lib.hid (S1.out.go bb)) | (go_at_call 20; refine (implCap_any st b _ _ (rdP_st (by exact S2.out.old RU.out))).mono ?_; rintro e w6 ⟨rfl, bb2⟩; have S3 := Lib.hid (S2.out.go bb2))))
  rename_i hHeld
  clear hHeld CE INIT KW S1 S2 bb bb2
  go_wp2
  go_ret
  exact ⟨ret_bZ HR.out.symm, S3.out.1⟩

set_option maxRecDepth 100000 in
set_option maxHeartbeats 8000000 in
theorem met_wrk (p : Pj) (s : Sc) (r : Nat) (b c : Int) (v u : Value) (w : World) (hv : (trPj p).rd w v) (hs : (trSc s).rd w u) (hf : Form p s) (hr : r < p.ress.length) (hb : 0 ≤ b ∧ b ≤ 60) (hc : 0 ≤ c ∧ c ≤ 60) (hbc : b < c) :
    Calls Try.prog 156 #[.agg #[.int .i64 (r : Int), .int .i64 b, .int .i64 c], v, u] w fun e w' => e = .returned (.bool (!failC p s (.wrk (r : Int) b c))) ∧ Below w.heap.size w w' := by
  have HV := Lib.hid hv
  obtain ⟨A1, c1, A2, c2, A3, c3, A4, c4, rfl, r1, r2, r3, r4⟩ := rdProject_t hv
  clear hv
  have HQ := Lib.hid hs
  obtain ⟨E1, f1, E2, f2, rfl, q1, q2⟩ := rdSchedule_t hs
  obtain ⟨ht1, B8, d8, he, x1⟩ := rdI (rd_flat q1)
  injection he with he _ he2
  subst he he2
  have X1 := Lib.hid x1
  obtain ⟨ht2, B9, d9, he, x2⟩ := rdI (rd_flat q2)
  injection he with he _ he2
  subst he he2
  have X2 := Lib.hid x2
  clear hs q1 q2 x1 x2
  have S0 := Lib.hid ((((Sn.start w).box 155 [.int .i64 (r : Int), .int .i64 b, .int .i64 c]).box 34 [.int .i64 p.dl, .slice A1 p.acts.length c1, .slice A2 p.lks.length c2, .slice A3 p.ress.length c3, .slice A4 p.stk.length c4]).box 41 [.slice E1 s.st.length f1, .slice E2 s.mo.length f2])
  simp only [World.size_alloc] at S0
  go_enter Try.func156, Try.ntmps156
  obtain ⟨hl3, B3, d3, he, g3⟩ := rdResourceS_t r3
  injection he with he _ he2
  subst he he2
  obtain ⟨b3, o3, rfl, hb3, hc3⟩ := g3 r hr
  obtain ⟨U0, d0, U1, d1, y0, y1, ru, _⟩ := hc3 r hr
  have RU := Lib.hid ru
  have HF := Lib.hid hf
  have HR := Lib.hid (wrk_eq hf hr hb hc hbc)
  have hr' : (r : Int) < (p.ress.length : Int) := by omega
  have r0 : (0 : Int) ≤ (r : Int) := by omega
  clear hf r1 r2 r3 r4 g3 hc3 ru hl3
  go_wp2_with fail
  have z0 := (S0.out.1.cell (p := ⟨b3, o3 + r * 2, none⟩) hb3).trans y0
  generalize World.alloc (World.alloc (World.alloc w _) _) _ = wv at S0 z0 ⊢
  obtain ⟨e0, e1, e2, ef⟩ := (S0.out.bk 2 rfl).c3
  obtain ⟨p0, p1, p2, p3, p4, pf⟩ := (S0.out.bk 1 rfl).c5
  obtain ⟨q0, q1, qf⟩ := (S0.out.bk 0 rfl).c2
  have hl0 := (S0.out.bk 0 rfl).lt
  have hl1 := (S0.out.bk 1 rfl).lt
  have hl2 := (S0.out.bk 2 rfl).lt
  have hsz := S0.out.1.size
  have hb3' : b3 < wv.heap.size := by omega
  have S1 := Lib.hid S0.out.drew1
  generalize hst : p.ress[r].st = st at RU z0 HR
  have CE := Lib.hid (fun (W : World) (h : Wr [] wv.drew W) => show Hid (Wr [] wv.drew W) ∧ W.cell? ⟨w.heap.size, 0, none⟩ = some (.int .i64 (r : Int)) ∧ W.cell? ⟨w.heap.size, 1, none⟩ = some (.int .i64 b) ∧ W.cell? ⟨w.heap.size, 2, none⟩ = some (.int .i64 c) ∧ W.cell? ⟨w.heap.size + 1, 0, none⟩ = some (.int .i64 p.dl) ∧ W.cell? ⟨w.heap.size + 1, 1, none⟩ = some (.slice A1 p.acts.length c1) ∧ W.cell? ⟨w.heap.size + 1, 2, none⟩ = some (.slice A2 p.lks.length c2) ∧ W.cell? ⟨w.heap.size + 1, 3, none⟩ = some (.slice (some ⟨b3, o3, none⟩) p.ress.length c3) ∧ W.cell? ⟨w.heap.size + 1, 4, none⟩ = some (.slice A4 p.stk.length c4) ∧ W.cell? ⟨w.heap.size + 1 + 1, 0, none⟩ = some (.slice E1 s.st.length f1) ∧ W.cell? ⟨w.heap.size + 1 + 1, 1, none⟩ = some (.slice E2 s.mo.length f2) ∧ W.cell? ⟨b3, o3 + r * 2, none⟩ = some (.slice U0 st.length d0) from ⟨Lib.hid h, (wr_cell h (p := ⟨w.heap.size, 0, none⟩) hl2 (by simp)).trans (by exact by simpa using e0), (wr_cell h (p := ⟨w.heap.size, 1, none⟩) hl2 (by simp)).trans (by exact by simpa using e1), (wr_cell h (p := ⟨w.heap.size, 2, none⟩) hl2 (by simp)).trans (by exact by simpa using e2), (wr_cell h (p := ⟨w.heap.size + 1, 0, none⟩) hl1 (by simp)).trans (by exact by simpa using p0), (wr_cell h (p := ⟨w.heap.size + 1, 1, none⟩) hl1 (by simp)).trans (by exact by simpa using p1), (wr_cell h (p := ⟨w.heap.size + 1, 2, none⟩) hl1 (by simp)).trans (by exact by simpa using p2), (wr_cell h (p := ⟨w.heap.size + 1, 3, none⟩) hl1 (by simp)).trans (by exact by simpa using p3), (wr_cell h (p := ⟨w.heap.size + 1, 4, none⟩) hl1 (by simp)).trans (by exact by simpa using p4), (wr_cell h (p := ⟨w.heap.size + 1 + 1, 0, none⟩) hl0 (by simp)).trans (by exact by simpa using q0), (wr_cell h (p := ⟨w.heap.size + 1 + 1, 1, none⟩) hl0 (by simp)).trans (by exact by simpa using q1), (wr_cell h (p := ⟨b3, o3 + r * 2, none⟩) hb3' (by simp)).trans (by exact by simpa using z0)⟩)
  have INIT := Lib.hid (CE.out _ (Wr.refl _ _))
  have KW := Lib.hid (fun (W2 W : World) (hb : Wr [] W W2) (h : Hid (Wr [] wv.drew W) ∧ W.cell? ⟨w.heap.size, 0, none⟩ = some (.int .i64 (r : Int)) ∧ W.cell? ⟨w.heap.size, 1, none⟩ = some (.int .i64 b) ∧ W.cell? ⟨w.heap.size, 2, none⟩ = some (.int .i64 c) ∧ W.cell? ⟨w.heap.size + 1, 0, none⟩ = some (.int .i64 p.dl) ∧ W.cell? ⟨w.heap.size + 1, 1, none⟩ = some (.slice A1 p.acts.length c1) ∧ W.cell? ⟨w.heap.size + 1, 2, none⟩ = some (.slice A2 p.lks.length c2) ∧ W.cell? ⟨w.heap.size + 1, 3, none⟩ = some (.slice (some ⟨b3, o3, none⟩) p.ress.length c3) ∧ W.cell? ⟨w.heap.size + 1, 4, none⟩ = some (.slice A4 p.stk.length c4) ∧ W.cell? ⟨w.heap.size + 1 + 1, 0, none⟩ = some (.slice E1 s.st.length f1) ∧ W.cell? ⟨w.heap.size + 1 + 1, 1, none⟩ = some (.slice E2 s.mo.length f2) ∧ W.cell? ⟨b3, o3 + r * 2, none⟩ = some (.slice U0 st.length d0)) => CE.out W2 (h.1.out.trans hb))
  clear e0 e1 e2 ef p0 p1 p2 p3 p4 pf q0 q1 qf z0 y0 y1 hst
  go_region_held3 (fun W => Hid (Wr [] wv.drew W) ∧ W.cell? ⟨w.heap.size, 0, none⟩ = some (.int .i64 (r : Int)) ∧ W.cell? ⟨w.heap.size, 1, none⟩ = some (.int .i64 b) ∧ W.cell? ⟨w.heap.size, 2, none⟩ = some (.int .i64 c) ∧ W.cell? ⟨w.heap.size + 1, 0, none⟩ = some (.int .i64 p.dl) ∧ W.cell? ⟨w.heap.size + 1, 1, none⟩ = some (.slice A1 p.acts.length c1) ∧ W.cell? ⟨w.heap.size + 1, 2, none⟩ = some (.slice A2 p.lks.length c2) ∧ W.cell? ⟨w.heap.size + 1, 3, none⟩ = some (.slice (some ⟨b3, o3, none⟩) p.ress.length c3) ∧ W.cell? ⟨w.heap.size + 1, 4, none⟩ = some (.slice A4 p.stk.length c4) ∧ W.cell? ⟨w.heap.size + 1 + 1, 0, none⟩ = some (.slice E1 s.st.length f1) ∧ W.cell? ⟨w.heap.size + 1 + 1, 1, none⟩ = some (.slice E2 s.mo.length f2) ∧ W.cell? ⟨b3, o3 + r * 2, none⟩ = some (.slice U0 st.length d0)) (first | exact INIT.out | exact KW.out _ _ (by assumption) (by assumption) | exact KW.out _ _ (Wr.of_below (by assumption) (Nat.le_refl _)) (by assumption) | exact KW.out _ _ (Wr.of_below ((Below.refl _ _).alloc (Nat.le_refl _) _) (Nat.le_refl _)) (by assumption))
    ((first | (go_at_call 149; refine (workWithin_any p s r b c _ _ _ (by exact S1.out.old HV.out) (by exact S1.out.old HQ.out) HF.out hr (by omega) (by omega)).mono ?_; rintro e w5 ⟨rfl, bb⟩; have S2 := Lib.hid (S1.out.go bb)) | (go_at_call 158; refine (implTotal_any st b c _ _ (rdP_st (by exact S2.out.old RU.out))).mono ?_; rintro e w6 ⟨rfl, bb2⟩; have S3 := Lib.hid (S2.out.go bb2))))
  rename_i hHeld
  clear hHeld CE INIT KW S1 S2 bb bb2
  go_wp2
  go_ret
  exact ⟨ret_bZ HR.out.symm, S3.out.1⟩

set_option maxRecDepth 100000 in
set_option maxHeartbeats 8000000 in
theorem isReadyAfter_any (p : Pj) (s : Sc) (r a b : Nat) (v u : Value) (w : World) (hv : (trPj p).rd w v) (hs : (trSc s).rd w u) (hf : Form p s) (hm : machB p (r : Int) = true) (hr : r < p.ress.length) (ha : a < p.acts.length) (hb : b < p.acts.length) :
    Calls Try.prog 162 #[v, u, .int .i64 (r : Int), .int .i64 (a : Int), .int .i64 (b : Int)] w fun e w' => e = .returned (.bool (aheadB p s r a b)) ∧ Below w.heap.size w w' := by
  have HV := Lib.hid hv
  obtain ⟨A1, c1, A2, c2, A3, c3, A4, c4, rfl, r1, r2, r3, r4⟩ := rdProject_t hv
  obtain ⟨hl1, B1, d1, he, g1⟩ := rdActivityS_t r1
  injection he with he _ he2
  subst he he2
  obtain ⟨hl3, B3, d3, he, g3⟩ := rdResourceS_t r3
  injection he with he _ he2
  subst he he2
  have HQ := Lib.hid hs
  obtain ⟨E1, f1, E2, f2, rfl, q1, q2⟩ := rdSchedule_t hs
  obtain ⟨ht1, B8, d8, he, x1⟩ := rdI (rd_flat q1)
  injection he with he _ he2
  subst he he2
  have X1 := Lib.hid x1
  obtain ⟨ht2, B9, d9, he, x2⟩ := rdI (rd_flat q2)
  injection he with he _ he2
  subst he he2
  have X2 := Lib.hid x2
  clear hs q1 q2 x1 x2
  have S0 := Lib.hid (((Sn.start w).box 34 [.int .i64 p.dl, .slice A1 p.acts.length c1, .slice A2 p.lks.length c2, .slice A3 p.ress.length c3, .slice A4 p.stk.length c4]).box 41 [.slice E1 s.st.length f1, .slice E2 s.mo.length f2])
  simp only [World.size_alloc] at S0
  obtain ⟨b3, o3, rfl, hb3, hc3⟩ := g3 r hr
  obtain ⟨U0, d0, U1, d1, y0, y1, _, ru⟩ := hc3 r hr
  obtain ⟨b1, o1, rfl, hb1, hc1⟩ := g1 a ha
  obtain ⟨M1, m1, x0, x1, x2, _⟩ := hc1 a ha
  obtain ⟨M2, m2, t0, t1, t2, _⟩ := hc1 b hb
  have hb8 : b < s.st.length := by rw [hf.h1]; exact hb
  obtain ⟨b8, o8, rfl, hb8', hc8⟩ := X1.out b hb8
  have y8 := hc8 b hb8
  rw [← stA_at hb8] at y8
  obtain ⟨f, g, hfa, hga, hff, hgg, HT0⟩ := setupT_at hf.ok hm hr ha hb
  have RU := Lib.hid ru
  have HF := Lib.hid hf
  have HA := Lib.hid (show aheadB p s r a b = decide (endA p s a + (p.ress[r].su[f])[g] ≤ stA s b) from by rw [← HT0]; rfl)
  have hsu : 0 ≤ (p.ress[r].su[f])[g] ∧ (p.ress[r].su[f])[g] ≤ 12 := by
    have h1 := pok_ress hf.ok _ (List.getElem_mem hr)
    simp only [rokB, Bool.and_eq_true, List.all_eq_true] at h1
    have h2 := h1.1 _ (List.getElem_mem hff)
    simp only [rowB, Bool.and_eq_true, List.all_eq_true] at h2
    exact inB_iff.1 (h2.2 _ (List.getElem_mem hgg))
  have HFF := Lib.hid hff
  have HGG := Lib.hid hgg
  have hen := hf.en ha
  have hr' : (r : Int) < (p.ress.length : Int) := by omega
  have r0 : (0 : Int) ≤ (r : Int) := by omega
  have ha' : (a : Int) < (p.acts.length : Int) := by omega
  have a0 : (0 : Int) ≤ (a : Int) := by omega
  have hb' : (b : Int) < (p.acts.length : Int) := by omega
  have b0 : (0 : Int) ≤ (b : Int) := by omega
  have hb'' : (b : Int) < (s.st.length : Int) := by omega
  rw [hfa] at x1
  rw [hga] at t1
  clear hf hv r1 r2 r3 r4 g3 hc3 g1 hc1 ru hl3 hl1 hc8 HT0 hfa hga X1 X2
  go_enter Try.func162, Try.ntmps162
  go_wp2_with fail
  have z0 := (S0.out.1.cell (p := ⟨b3, o3 + r * 2, none⟩) hb3).trans y0
  have z1 := (S0.out.1.cell (p := ⟨b3, o3 + r * 2 + 1, none⟩) hb3).trans y1
  have k0 := (S0.out.1.cell (p := ⟨b1, o1 + a * 3, none⟩) hb1).trans x0
  have k1 := (S0.out.1.cell (p := ⟨b1, o1 + a * 3 + 1, none⟩) hb1).trans x1
  have k2 := (S0.out.1.cell (p := ⟨b1, o1 + a * 3 + 2, none⟩) hb1).trans x2
  have l0 := (S0.out.1.cell (p := ⟨b1, o1 + b * 3, none⟩) hb1).trans t0
  have l1 := (S0.out.1.cell (p := ⟨b1, o1 + b * 3 + 1, none⟩) hb1).trans t1
  have l2 := (S0.out.1.cell (p := ⟨b1, o1 + b * 3 + 2, none⟩) hb1).trans t2
  generalize World.alloc (World.alloc w _) _ = wv at S0 z0 z1 k0 k1 k2 l0 l1 l2 ⊢
  obtain ⟨p0, p1, p2, p3, p4, pf⟩ := (S0.out.bk 1 rfl).c5
  obtain ⟨q0, q1, qf⟩ := (S0.out.bk 0 rfl).c2
  have hl0 := (S0.out.bk 0 rfl).lt
  have hl1 := (S0.out.bk 1 rfl).lt
  have hsz := S0.out.1.size
  have hb3' : b3 < wv.heap.size := by omega
  have hb1' : b1 < wv.heap.size := by omega
  have S1 := Lib.hid S0.out.drew1
  have CE := Lib.hid (fun (W : World) (h : Wr [] wv.drew W) => show Hid (Wr [] wv.drew W) ∧ W.cell? ⟨w.heap.size, 0, none⟩ = some (.int .i64 p.dl) ∧ W.cell? ⟨w.heap.size, 1, none⟩ = some (.slice (some ⟨b1, o1, none⟩) p.acts.length c1) ∧ W.cell? ⟨w.heap.size, 2, none⟩ = some (.slice A2 p.lks.length c2) ∧ W.cell? ⟨w.heap.size, 3, none⟩ = some (.slice (some ⟨b3, o3, none⟩) p.ress.length c3) ∧ W.cell? ⟨w.heap.size, 4, none⟩ = some (.slice A4 p.stk.length c4) ∧ W.cell? ⟨b3, o3 + r * 2, none⟩ = some (.slice U0 p.ress[r].st.length d0) ∧ W.cell? ⟨b3, o3 + r * 2 + 1, none⟩ = some (.slice U1 p.ress[r].su.length d1) ∧ W.cell? ⟨b1, o1 + a * 3, none⟩ = some (.string p.acts[a].nm) ∧ W.cell? ⟨b1, o1 + a * 3 + 1, none⟩ = some (.int .i64 (f : Int)) ∧ W.cell? ⟨b1, o1 + a * 3 + 2, none⟩ = some (.slice M1 p.acts[a].ms.length m1) ∧ W.cell? ⟨b1, o1 + b * 3, none⟩ = some (.string p.acts[b].nm) ∧ W.cell? ⟨b1, o1 + b * 3 + 1, none⟩ = some (.int .i64 (g : Int)) ∧ W.cell? ⟨b1, o1 + b * 3 + 2, none⟩ = some (.slice M2 p.acts[b].ms.length m2) from ⟨Lib.hid h, (wr_cell h (p := ⟨w.heap.size, 0, none⟩) hl1 (by simp)).trans (by exact by simpa using p0), (wr_cell h (p := ⟨w.heap.size, 1, none⟩) hl1 (by simp)).trans (by exact by simpa using p1), (wr_cell h (p := ⟨w.heap.size, 2, none⟩) hl1 (by simp)).trans (by exact by simpa using p2), (wr_cell h (p := ⟨w.heap.size, 3, none⟩) hl1 (by simp)).trans (by exact by simpa using p3), (wr_cell h (p := ⟨w.heap.size, 4, none⟩) hl1 (by simp)).trans (by exact by simpa using p4), (wr_cell h (p := ⟨b3, o3 + r * 2, none⟩) hb3' (by simp)).trans (by exact by simpa using z0), (wr_cell h (p := ⟨b3, o3 + r * 2 + 1, none⟩) hb3' (by simp)).trans (by exact by simpa using z1), (wr_cell h (p := ⟨b1, o1 + a * 3, none⟩) hb1' (by simp)).trans (by exact by simpa using k0), (wr_cell h (p := ⟨b1, o1 + a * 3 + 1, none⟩) hb1' (by simp)).trans (by exact by simpa using k1), (wr_cell h (p := ⟨b1, o1 + a * 3 + 2, none⟩) hb1' (by simp)).trans (by exact by simpa using k2), (wr_cell h (p := ⟨b1, o1 + b * 3, none⟩) hb1' (by simp)).trans (by exact by simpa using l0), (wr_cell h (p := ⟨b1, o1 + b * 3 + 1, none⟩) hb1' (by simp)).trans (by exact by simpa using l1), (wr_cell h (p := ⟨b1, o1 + b * 3 + 2, none⟩) hb1' (by simp)).trans (by exact by simpa using l2)⟩)
  have INIT := Lib.hid (CE.out _ (Wr.refl _ _))
  have KW := Lib.hid (fun (W2 W : World) (hb : Wr [] W W2) (h : Hid (Wr [] wv.drew W) ∧ W.cell? ⟨w.heap.size, 0, none⟩ = some (.int .i64 p.dl) ∧ W.cell? ⟨w.heap.size, 1, none⟩ = some (.slice (some ⟨b1, o1, none⟩) p.acts.length c1) ∧ W.cell? ⟨w.heap.size, 2, none⟩ = some (.slice A2 p.lks.length c2) ∧ W.cell? ⟨w.heap.size, 3, none⟩ = some (.slice (some ⟨b3, o3, none⟩) p.ress.length c3) ∧ W.cell? ⟨w.heap.size, 4, none⟩ = some (.slice A4 p.stk.length c4) ∧ W.cell? ⟨b3, o3 + r * 2, none⟩ = some (.slice U0 p.ress[r].st.length d0) ∧ W.cell? ⟨b3, o3 + r * 2 + 1, none⟩ = some (.slice U1 p.ress[r].su.length d1) ∧ W.cell? ⟨b1, o1 + a * 3, none⟩ = some (.string p.acts[a].nm) ∧ W.cell? ⟨b1, o1 + a * 3 + 1, none⟩ = some (.int .i64 (f : Int)) ∧ W.cell? ⟨b1, o1 + a * 3 + 2, none⟩ = some (.slice M1 p.acts[a].ms.length m1) ∧ W.cell? ⟨b1, o1 + b * 3, none⟩ = some (.string p.acts[b].nm) ∧ W.cell? ⟨b1, o1 + b * 3 + 1, none⟩ = some (.int .i64 (g : Int)) ∧ W.cell? ⟨b1, o1 + b * 3 + 2, none⟩ = some (.slice M2 p.acts[b].ms.length m2)) => CE.out W2 (h.1.out.trans hb))
  clear p0 p1 p2 p3 p4 pf q0 q1 qf z0 z1 k0 k1 k2 l0 l1 l2 y0 y1 x0 x1 x2 t0 t1 t2
  go_region_held3 (fun W => Hid (Wr [] wv.drew W) ∧ W.cell? ⟨w.heap.size, 0, none⟩ = some (.int .i64 p.dl) ∧ W.cell? ⟨w.heap.size, 1, none⟩ = some (.slice (some ⟨b1, o1, none⟩) p.acts.length c1) ∧ W.cell? ⟨w.heap.size, 2, none⟩ = some (.slice A2 p.lks.length c2) ∧ W.cell? ⟨w.heap.size, 3, none⟩ = some (.slice (some ⟨b3, o3, none⟩) p.ress.length c3) ∧ W.cell? ⟨w.heap.size, 4, none⟩ = some (.slice A4 p.stk.length c4) ∧ W.cell? ⟨b3, o3 + r * 2, none⟩ = some (.slice U0 p.ress[r].st.length d0) ∧ W.cell? ⟨b3, o3 + r * 2 + 1, none⟩ = some (.slice U1 p.ress[r].su.length d1) ∧ W.cell? ⟨b1, o1 + a * 3, none⟩ = some (.string p.acts[a].nm) ∧ W.cell? ⟨b1, o1 + a * 3 + 1, none⟩ = some (.int .i64 (f : Int)) ∧ W.cell? ⟨b1, o1 + a * 3 + 2, none⟩ = some (.slice M1 p.acts[a].ms.length m1) ∧ W.cell? ⟨b1, o1 + b * 3, none⟩ = some (.string p.acts[b].nm) ∧ W.cell? ⟨b1, o1 + b * 3 + 1, none⟩ = some (.int .i64 (g : Int)) ∧ W.cell? ⟨b1, o1 + b * 3 + 2, none⟩ = some (.slice M2 p.acts[b].ms.length m2)) (first | exact INIT.out | exact KW.out _ _ (by assumption) (by assumption) | exact KW.out _ _ (Wr.of_below (by assumption) (Nat.le_refl _)) (by assumption) | exact KW.out _ _ (Wr.of_below ((Below.refl _ _).alloc (Nat.le_refl _) _) (Nat.le_refl _)) (by assumption))
    ((go_at_call 35; refine (setupBetween_any p.ress[r].su _ _ _ _ _ _ _ _ _ _ _ _ _ f g _ (by exact S1.out.old RU.out) HFF.out HGG.out).mono ?_; rintro e w5 ⟨rfl, bb⟩; have S2 := Lib.hid (S1.out.go bb)))
  rename_i hHeld
  clear hHeld CE INIT KW S1 bb
  generalize (p.ress[r].su[f])[g] = ans at HA hsu ⊢
  have z8 := (S2.out.1.cell (p := ⟨b8, o8 + b, none⟩) hb8').trans y8
  obtain ⟨p0, p1, p2, p3, p4, pf⟩ := (S2.out.bk 1 rfl).c5
  obtain ⟨q0, q1, qf⟩ := (S2.out.bk 0 rfl).c2
  have hm0 := (S2.out.bk 0 rfl).lt
  have hm1 := (S2.out.bk 1 rfl).lt
  have hsz2 := S2.out.1.size
  have hb8'' : b8 < w5.heap.size := by omega
  have S3 := Lib.hid S2.out.drew1
  generalize stA s b = sb at HA z8
  go_wp2_with fail
  have CE := Lib.hid (fun (W : World) (h : Wr [] w5.drew W) => show Hid (Wr [] w5.drew W) ∧ W.cell? ⟨w.heap.size, 0, none⟩ = some (.int .i64 p.dl) ∧ W.cell? ⟨w.heap.size, 1, none⟩ = some (.slice (some ⟨b1, o1, none⟩) p.acts.length c1) ∧ W.cell? ⟨w.heap.size, 2, none⟩ = some (.slice A2 p.lks.length c2) ∧ W.cell? ⟨w.heap.size, 3, none⟩ = some (.slice (some ⟨b3, o3, none⟩) p.ress.length c3) ∧ W.cell? ⟨w.heap.size, 4, none⟩ = some (.slice A4 p.stk.length c4) ∧ W.cell? ⟨w.heap.size + 1, 0, none⟩ = some (.slice (some ⟨b8, o8, none⟩) s.st.length f1) ∧ W.cell? ⟨w.heap.size + 1, 1, none⟩ = some (.slice E2 s.mo.length f2) ∧ W.cell? ⟨b8, o8 + b, none⟩ = some (.int .i64 sb) from ⟨Lib.hid h, (wr_cell h (p := ⟨w.heap.size, 0, none⟩) hm1 (by simp)).trans (by exact by simpa using p0), (wr_cell h (p := ⟨w.heap.size, 1, none⟩) hm1 (by simp)).trans (by exact by simpa using p1), (wr_cell h (p := ⟨w.heap.size, 2, none⟩) hm1 (by simp)).trans (by exact by simpa using p2), (wr_cell h (p := ⟨w.heap.size, 3, none⟩) hm1 (by simp)).trans (by exact by simpa using p3), (wr_cell h (p := ⟨w.heap.size, 4, none⟩) hm1 (by simp)).trans (by exact by simpa using p4), (wr_cell h (p := ⟨w.heap.size + 1, 0, none⟩) hm0 (by simp)).trans (by exact by simpa using q0), (wr_cell h (p := ⟨w.heap.size + 1, 1, none⟩) hm0 (by simp)).trans (by exact by simpa using q1), (wr_cell h (p := ⟨b8, o8 + b, none⟩) hb8'' (by simp)).trans (by exact by simpa using z8)⟩)
  have INIT := Lib.hid (CE.out _ (Wr.refl _ _))
  have KW := Lib.hid (fun (W2 W : World) (hb : Wr [] W W2) (h : Hid (Wr [] w5.drew W) ∧ W.cell? ⟨w.heap.size, 0, none⟩ = some (.int .i64 p.dl) ∧ W.cell? ⟨w.heap.size, 1, none⟩ = some (.slice (some ⟨b1, o1, none⟩) p.acts.length c1) ∧ W.cell? ⟨w.heap.size, 2, none⟩ = some (.slice A2 p.lks.length c2) ∧ W.cell? ⟨w.heap.size, 3, none⟩ = some (.slice (some ⟨b3, o3, none⟩) p.ress.length c3) ∧ W.cell? ⟨w.heap.size, 4, none⟩ = some (.slice A4 p.stk.length c4) ∧ W.cell? ⟨w.heap.size + 1, 0, none⟩ = some (.slice (some ⟨b8, o8, none⟩) s.st.length f1) ∧ W.cell? ⟨w.heap.size + 1, 1, none⟩ = some (.slice E2 s.mo.length f2) ∧ W.cell? ⟨b8, o8 + b, none⟩ = some (.int .i64 sb)) => CE.out W2 (h.1.out.trans hb))
  clear p0 p1 p2 p3 p4 pf q0 q1 qf z8 y8
  go_region_held3 (fun W => Hid (Wr [] w5.drew W) ∧ W.cell? ⟨w.heap.size, 0, none⟩ = some (.int .i64 p.dl) ∧ W.cell? ⟨w.heap.size, 1, none⟩ = some (.slice (some ⟨b1, o1, none⟩) p.acts.length c1) ∧ W.cell? ⟨w.heap.size, 2, none⟩ = some (.slice A2 p.lks.length c2) ∧ W.cell? ⟨w.heap.size, 3, none⟩ = some (.slice (some ⟨b3, o3, none⟩) p.ress.length c3) ∧ W.cell? ⟨w.heap.size, 4, none⟩ = some (.slice A4 p.stk.length c4) ∧ W.cell? ⟨w.heap.size + 1, 0, none⟩ = some (.slice (some ⟨b8, o8, none⟩) s.st.length f1) ∧ W.cell? ⟨w.heap.size + 1, 1, none⟩ = some (.slice E2 s.mo.length f2) ∧ W.cell? ⟨b8, o8 + b, none⟩ = some (.int .i64 sb)) (first | exact INIT.out | exact KW.out _ _ (by assumption) (by assumption) | exact KW.out _ _ (Wr.of_below (by assumption) (Nat.le_refl _)) (by assumption) | exact KW.out _ _ (Wr.of_below ((Below.refl _ _).alloc (Nat.le_refl _) _) (Nat.le_refl _)) (by assumption))
    ((go_at_call 142; refine (implEnd_any p s a _ _ _ (by exact S3.out.old HV.out) (by exact S3.out.old HQ.out) HF.out ha).mono ?_; rintro e w6 ⟨rfl, bb⟩; have S4 := Lib.hid (S3.out.go bb)))
  rename_i hHeld
  clear hHeld CE INIT KW S3 bb
  generalize endA p s a = en at HA hen ⊢
  have hw : IntKind.i64.wrap (en + ans) = en + ans := by rw [IntKind.wrap_i64]; omega
  go_wp2
  go_ret
  exact ⟨ret_bZ (by rw [hw]; exact HA.out.symm), S4.out.1⟩

theorem pairF_a {p : Pj} {s : Sc} {r a b : Nat} (h : usA p s r a = 0) : pairF p s r a b = false := by simp [pairF, h]
theorem pairF_b {p : Pj} {s : Sc} {r a b : Nat} (h : usA p s r b = 0) : pairF p s r a b = false := by simp [pairF, h]
theorem pairF_1 {p : Pj} {s : Sc} {r a b : Nat} (h : aheadB p s r a b = true) : pairF p s r a b = false := by simp [pairF, h]
theorem pairF_2 {p : Pj} {s : Sc} {r a b : Nat} (h : ¬ usA p s r a = 0) (h1 : ¬ usA p s r b = 0) (h2 : aheadB p s r a b = false) : (!pairF p s r a b) = aheadB p s r b a := by simp [pairF, h, h1, h2]
set_option maxRecDepth 100000 in
set_option maxHeartbeats 8000000 in
theorem met_par (p : Pj) (s : Sc) (r a b : Nat) (v u : Value) (w : World) (hv : (trPj p).rd w v) (hs : (trSc s).rd w u) (hf : Form p s) (hm : machB p (r : Int) = true) (hr : r < p.ress.length) (ha : a < p.acts.length) (hb : b < p.acts.length) :
    Calls Try.prog 160 #[.agg #[.int .i64 (r : Int), .int .i64 (a : Int), .int .i64 (b : Int)], v, u] w fun e w' => e = .returned (.bool (!failC p s (.par (r : Int) (a : Int) (b : Int)))) ∧ Below w.heap.size w w' := by
  have HX := Lib.hid (show failC p s (.par (r : Int) (a : Int) (b : Int)) = pairF p s r a b from rfl)
  rw [HX.out]
  have HV := Lib.hid hv
  obtain ⟨A1, c1, A2, c2, A3, c3, A4, c4, rfl, _⟩ := rdProject_t hv
  clear hv
  have HQ := Lib.hid hs
  obtain ⟨E1, f1, E2, f2, rfl, q1, q2⟩ := rdSchedule_t hs
  obtain ⟨ht1, B8, d8, he, x1⟩ := rdI (rd_flat q1)
  injection he with he _ he2
  subst he he2
  have X1 := Lib.hid x1
  obtain ⟨ht2, B9, d9, he, x2⟩ := rdI (rd_flat q2)
  injection he with he _ he2
  subst he he2
  have X2 := Lib.hid x2
  clear hs q1 q2 x1 x2
  have S0 := Lib.hid ((((Sn.start w).box 157 [.int .i64 (r : Int), .int .i64 (a : Int), .int .i64 (b : Int)]).box 34 [.int .i64 p.dl, .slice A1 p.acts.length c1, .slice A2 p.lks.length c2, .slice A3 p.ress.length c3, .slice A4 p.stk.length c4]).box 41 [.slice E1 s.st.length f1, .slice E2 s.mo.length f2])
  simp only [World.size_alloc] at S0
  go_enter Try.func160, Try.ntmps160
  have HF := Lib.hid hf
  have HM := Lib.hid hm
  have P1 := Lib.hid (@pairF_a p s r a b)
  have P2 := Lib.hid (@pairF_b p s r a b)
  have P3 := Lib.hid (@pairF_1 p s r a b)
  have P4 := Lib.hid (@pairF_2 p s r a b)
  clear hf hm HX
  generalize pairF p s r a b = pf0 at P1 P2 P3 P4 ⊢
  go_wp2_with fail
  refine (usageOf_any p s r a _ _ _ (by exact S0.out.old HV.out) (by exact S0.out.old HQ.out) HF.out hr ha).mono ?_
  rintro e w1 ⟨rfl, b⟩
  have S1 := Lib.hid (S0.out.go b)
  clear S0 b
  generalize usA p s r a = ua at P1 P4 ⊢
  by_cases hua : ua = 0
  · have HP := Lib.hid (P1.out hua)
    subst hua
    go_wp2
    go_ret
    exact ⟨ret_bZ (by rw [HP.out]; rfl), S1.out.1⟩
  have t1 : (ua == 0) = false := by simpa using hua
  have P4' := Lib.hid (P4.out hua)
  obtain ⟨t0, t1, t2, tf⟩ := (S1.out.bk 2 rfl).c3
  obtain ⟨e0, e1, e2, e3, e4, ef⟩ := (S1.out.bk 1 rfl).c5
  obtain ⟨q0, q1, qf⟩ := (S1.out.bk 0 rfl).c2
  clear P4 hua P1
  go_wp2_with fail
  clear t0 t1 t2 tf
  clear e0 e1 e2 e3 e4 ef
  clear q0 q1 qf
  refine (usageOf_any p s r b _ _ _ (by exact S1.out.old HV.out) (by exact S1.out.old HQ.out) HF.out hr hb).mono ?_
  rintro e w2 ⟨rfl, b⟩
  have S2 := Lib.hid (S1.out.go b)
  clear S1 b
  generalize usA p s r b = ub at P2 P4' ⊢
  by_cases hub : ub = 0
  · have HP := Lib.hid (P2.out hub)
    subst hub
    go_wp2
    go_ret
    exact ⟨ret_bZ (by rw [HP.out]; rfl), S2.out.1⟩
  have t2 : (ub == 0) = false := by simpa using hub
  have P5 := Lib.hid (P4'.out hub)
  obtain ⟨t0, t1, t2, tf⟩ := (S2.out.bk 2 rfl).c3
  obtain ⟨e0, e1, e2, e3, e4, ef⟩ := (S2.out.bk 1 rfl).c5
  obtain ⟨q0, q1, qf⟩ := (S2.out.bk 0 rfl).c2
  clear P4' hub P2
  go_wp2_with fail
  clear t0 t1 t2 tf
  clear e0 e1 e2 e3 e4 ef
  clear q0 q1 qf
  refine (isReadyAfter_any p s r a b _ _ _ (by exact S2.out.old HV.out) (by exact S2.out.old HQ.out) HF.out HM.out hr ha hb).mono ?_
  rintro e w3 ⟨rfl, b⟩
  have S3 := Lib.hid (S2.out.go b)
  clear S2 b
  generalize aheadB p s r a b = x1 at P3 P5 ⊢
  rcases x1 with _ | _
  rotate_left
  · have HP := Lib.hid (P3.out rfl)
    go_wp2
    go_ret
    exact ⟨ret_bZ (by rw [HP.out]; rfl), S3.out.1⟩
  have P6 := Lib.hid (P5.out rfl)
  obtain ⟨t0, t1, t2, tf⟩ := (S3.out.bk 2 rfl).c3
  obtain ⟨e0, e1, e2, e3, e4, ef⟩ := (S3.out.bk 1 rfl).c5
  obtain ⟨q0, q1, qf⟩ := (S3.out.bk 0 rfl).c2
  go_wp2_with fail
  clear t0 t1 t2 tf
  clear e0 e1 e2 e3 e4 ef
  clear q0 q1 qf
  refine (isReadyAfter_any p s r b a _ _ _ (by exact S3.out.old HV.out) (by exact S3.out.old HQ.out) HF.out HM.out hr hb ha).mono ?_
  rintro e w4 ⟨rfl, b⟩
  have S4 := Lib.hid (S3.out.go b)
  clear S3 b
  go_wp2
  go_ret
  exact ⟨ret_bZ P6.out.symm, S4.out.1⟩
end Go.Proofs.Ytaglfdkeomjpdab
end

section
namespace Go.Proofs.Ytaglfdkeomjpdab
open Go.RowKit Go.Shelf
set_option linter.unusedVariables false

theorem lnk_eq {p : Pj} {s : Sc} {i : Nat} (hi : i < p.lks.length) {fr to : Nat} (hfr : p.lks[i].fr = (fr : Int)) (hto : p.lks[i].to = (to : Int)) (x : Int) (hx : x = if p.lks[i].fe = true then endA p s fr else stA s fr) : (!failC p s (.lnk (i : Int))) = decide (x + p.lks[i].lag ≤ stA s to) := by
  rw [show failC p s (.lnk (i : Int)) = decide (stA s (lkA p i).to.toNat < frA p s (lkA p i) + (lkA p i).lag) from rfl, not_lt_dec, lkA_at hi, hto, frA, hfr, hx]
  rfl
theorem ge_dec (a b : Int) : decide (a ≤ b) = decide (b ≥ a) := rfl

set_option maxRecDepth 100000 in
set_option maxHeartbeats 8000000 in
theorem met_lnk (p : Pj) (s : Sc) (i : Nat) (v u : Value) (w : World) (hv : (trPj p).rd w v) (hs : (trSc s).rd w u) (hf : Form p s) (hi : i < p.lks.length) :
    Calls Try.prog 140 #[.agg #[.int .i64 (i : Int)], v, u] w fun e w' => e = .returned (.bool (!failC p s (.lnk (i : Int)))) ∧ Below w.heap.size w w' := by
  have HV := Lib.hid hv
  obtain ⟨A1, c1, A2, c2, A3, c3, A4, c4, rfl, r1, r2, r3, r4⟩ := rdProject_t hv
  clear hv
  have HQ := Lib.hid hs
  obtain ⟨E1, f1, E2, f2, rfl, q1, q2⟩ := rdSchedule_t hs
  obtain ⟨ht1, B8, d8, he, x1⟩ := rdI (rd_flat q1)
  injection he with he _ he2
  subst he he2
  have X1 := Lib.hid x1
  obtain ⟨ht2, B9, d9, he, x2⟩ := rdI (rd_flat q2)
  injection he with he _ he2
  subst he he2
  have X2 := Lib.hid x2
  clear hs q1 q2 x1 x2
  have S0 := Lib.hid ((((Sn.start w).box 146 [.int .i64 (i : Int)]).box 34 [.int .i64 p.dl, .slice A1 p.acts.length c1, .slice A2 p.lks.length c2, .slice A3 p.ress.length c3, .slice A4 p.stk.length c4]).box 41 [.slice E1 s.st.length f1, .slice E2 s.mo.length f2])
  simp only [World.size_alloc] at S0
  go_enter Try.func140, Try.ntmps140
  obtain ⟨hl2, B2, d2, he, g2⟩ := rdLinkS_t r2
  injection he with he _ he2
  subst he he2
  obtain ⟨b2, o2, rfl, hb2, hc2⟩ := g2 i hi
  obtain ⟨x0, x1, x2, x3⟩ := hc2 i hi
  have hlk := pok_lk hf.ok hi
  simp only [lokB, Bool.and_eq_true] at hlk
  have hfr := inB_iff.1 hlk.1
  have hto := inB_iff.1 hlk.2.1
  have hlag := inB_iff.1 hlk.2.2.2
  obtain ⟨fr, hfr'⟩ : ∃ k : Nat, p.lks[i].fr = (k : Int) := ⟨p.lks[i].fr.toNat, by omega⟩
  obtain ⟨to, hto'⟩ : ∃ k : Nat, p.lks[i].to = (k : Int) := ⟨p.lks[i].to.toNat, by omega⟩
  have HF := Lib.hid hf
  have HL := Lib.hid (@lnk_eq p s i hi fr to hfr' hto')
  rw [hfr'] at x0 hfr
  rw [hto'] at x1 hto
  have h1 := hf.h1
  have hfl : fr < s.st.length := by omega
  have htl : to < s.st.length := by omega
  have hfl2 : fr < p.acts.length := by omega
  obtain ⟨b8, o8, rfl, hb8, hc8⟩ := X1.out fr hfl
  have y8 := hc8 fr hfl
  have y9 := hc8 to htl
  rw [← stA_at hfl] at y8
  rw [← stA_at htl] at y9
  have hi' : (i : Int) < (p.lks.length : Int) := by omega
  have i0 : (0 : Int) ≤ (i : Int) := by omega
  have fr0 : (0 : Int) ≤ (fr : Int) := by omega
  have fr1 : (fr : Int) < (s.st.length : Int) := by omega
  have t0 : (0 : Int) ≤ (to : Int) := by omega
  have t1 : (to : Int) < (s.st.length : Int) := by omega
  have hen := hf.en hfl2
  have hsf := hf.st fr hfl2
  clear hf r1 r2 r3 r4 g2 hc2 hl2 hlk hfr' hto' X1 X2 hc8 hfr hto h1 hfl htl
  generalize failC p s (.lnk (i : Int)) = fb at HL ⊢
  generalize p.lks[i].lag = lag at x3 HL hlag
  have z0 : World.cell? (World.alloc (World.alloc (World.alloc w (.cells #[.int .i64 (i : Int)] 146)) (.cells #[.int .i64 p.dl, .slice A1 p.acts.length c1, .slice (some ⟨b2, o2, none⟩) p.lks.length c2, .slice A3 p.ress.length c3, .slice A4 p.stk.length c4] 34)) (.cells #[.slice (some ⟨b8, o8, none⟩) s.st.length f1, .slice E2 s.mo.length f2] 41)) ⟨b2, o2 + i * 4, none⟩ = some (.int .i64 (fr : Int)) := (S0.out.1.cell (p := ⟨b2, o2 + i * 4, none⟩) hb2).trans x0
  have z1 : World.cell? (World.alloc (World.alloc (World.alloc w (.cells #[.int .i64 (i : Int)] 146)) (.cells #[.int .i64 p.dl, .slice A1 p.acts.length c1, .slice (some ⟨b2, o2, none⟩) p.lks.length c2, .slice A3 p.ress.length c3, .slice A4 p.stk.length c4] 34)) (.cells #[.slice (some ⟨b8, o8, none⟩) s.st.length f1, .slice E2 s.mo.length f2] 41)) ⟨b2, o2 + i * 4 + 1, none⟩ = some (.int .i64 (to : Int)) := (S0.out.1.cell (p := ⟨b2, o2 + i * 4 + 1, none⟩) hb2).trans x1
  have z2 : World.cell? (World.alloc (World.alloc (World.alloc w (.cells #[.int .i64 (i : Int)] 146)) (.cells #[.int .i64 p.dl, .slice A1 p.acts.length c1, .slice (some ⟨b2, o2, none⟩) p.lks.length c2, .slice A3 p.ress.length c3, .slice A4 p.stk.length c4] 34)) (.cells #[.slice (some ⟨b8, o8, none⟩) s.st.length f1, .slice E2 s.mo.length f2] 41)) ⟨b2, o2 + i * 4 + 2, none⟩ = some (.bool p.lks[i].fe) := (S0.out.1.cell (p := ⟨b2, o2 + i * 4 + 2, none⟩) hb2).trans x2
  have z3 : World.cell? (World.alloc (World.alloc (World.alloc w (.cells #[.int .i64 (i : Int)] 146)) (.cells #[.int .i64 p.dl, .slice A1 p.acts.length c1, .slice (some ⟨b2, o2, none⟩) p.lks.length c2, .slice A3 p.ress.length c3, .slice A4 p.stk.length c4] 34)) (.cells #[.slice (some ⟨b8, o8, none⟩) s.st.length f1, .slice E2 s.mo.length f2] 41)) ⟨b2, o2 + i * 4 + 3, none⟩ = some (.int .i64 lag) := (S0.out.1.cell (p := ⟨b2, o2 + i * 4 + 3, none⟩) hb2).trans x3
  have S1 := Lib.hid (S0.out.box 123 [.int .i64 (fr : Int), .int .i64 (to : Int), .bool p.lks[i].fe, .int .i64 lag])
  simp only [World.size_alloc] at S1
  clear x0 x1 x2 x3
  rcases hfe : p.lks[i].fe with _ | _
  · rw [hfe] at z2 HL S1
    have z8 : World.cell? (World.alloc (World.alloc (World.alloc (World.alloc w (.cells #[.int .i64 (i : Int)] 146)) (.cells #[.int .i64 p.dl, .slice A1 p.acts.length c1, .slice (some ⟨b2, o2, none⟩) p.lks.length c2, .slice A3 p.ress.length c3, .slice A4 p.stk.length c4] 34)) (.cells #[.slice (some ⟨b8, o8, none⟩) s.st.length f1, .slice E2 s.mo.length f2] 41)) (.cells #[.int .i64 (fr : Int), .int .i64 (to : Int), .bool false, .int .i64 lag] 123)) ⟨b8, o8 + fr, none⟩ = some (.int .i64 (stA s fr)) := (S1.out.1.cell (p := ⟨b8, o8 + fr, none⟩) hb8).trans y8
    have z9 : World.cell? (World.alloc (World.alloc (World.alloc (World.alloc w (.cells #[.int .i64 (i : Int)] 146)) (.cells #[.int .i64 p.dl, .slice A1 p.acts.length c1, .slice (some ⟨b2, o2, none⟩) p.lks.length c2, .slice A3 p.ress.length c3, .slice A4 p.stk.length c4] 34)) (.cells #[.slice (some ⟨b8, o8, none⟩) s.st.length f1, .slice E2 s.mo.length f2] 41)) (.cells #[.int .i64 (fr : Int), .int .i64 (to : Int), .bool false, .int .i64 lag] 123)) ⟨b8, o8 + to, none⟩ = some (.int .i64 (stA s to)) := (S1.out.1.cell (p := ⟨b8, o8 + to, none⟩) hb8).trans y9
    have HR := Lib.hid (HL.out (stA s fr) rfl)
    clear y8 y9
    generalize stA s fr = sf at z8 HR hsf
    generalize stA s to = st at z9 HR
    have hw : IntKind.i64.wrap (sf + lag) = sf + lag := by rw [IntKind.wrap_i64]; omega
    go_wp2_with fail
    clear z0 z1 z2 z3
    generalize World.alloc (World.alloc (World.alloc (World.alloc w _) _) _) _ = wv at S1 z8 z9 ⊢
    obtain ⟨e0, e1, e2, e3, ef⟩ := (S1.out.bk 0 rfl).c4
    obtain ⟨q0, q1, qf⟩ := (S1.out.bk 1 rfl).c2
    have hl0 := (S1.out.bk 0 rfl).lt
    have hl1 := (S1.out.bk 1 rfl).lt
    have hsz := S1.out.1.size
    have hb8' : b8 < wv.heap.size := by omega
    have S2 := Lib.hid S1.out.drew1
    have CE := Lib.hid (fun (W : World) (h : Wr [] wv.drew W) => show Hid (Wr [] wv.drew W) ∧ W.cell? ⟨w.heap.size + 1 + 1, 0, none⟩ = some (.slice (some ⟨b8, o8, none⟩) s.st.length f1) ∧ W.cell? ⟨w.heap.size + 1 + 1 + 1, 1, none⟩ = some (.int .i64 (to : Int)) ∧ W.cell? ⟨w.heap.size + 1 + 1 + 1, 3, none⟩ = some (.int .i64 lag) ∧ W.cell? ⟨b8, o8 + to, none⟩ = some (.int .i64 st) from ⟨Lib.hid h, (wr_cell h (p := ⟨w.heap.size + 1 + 1, 0, none⟩) hl1 (by simp)).trans (by exact by simpa using q0), (wr_cell h (p := ⟨w.heap.size + 1 + 1 + 1, 1, none⟩) hl0 (by simp)).trans (by exact by simpa using e1), (wr_cell h (p := ⟨w.heap.size + 1 + 1 + 1, 3, none⟩) hl0 (by simp)).trans (by exact by simpa using e3), (wr_cell h (p := ⟨b8, o8 + to, none⟩) hb8' (by simp)).trans (by exact by simpa using z9)⟩)
    have INIT := Lib.hid (CE.out _ (Wr.refl _ _))
    have KW := Lib.hid (fun (W2 W : World) (hb : Wr [] W W2) (h : Hid (Wr [] wv.drew W) ∧ W.cell? ⟨w.heap.size + 1 + 1, 0, none⟩ = some (.slice (some ⟨b8, o8, none⟩) s.st.length f1) ∧ W.cell? ⟨w.heap.size + 1 + 1 + 1, 1, none⟩ = some (.int .i64 (to : Int)) ∧ W.cell? ⟨w.heap.size + 1 + 1 + 1, 3, none⟩ = some (.int .i64 lag) ∧ W.cell? ⟨b8, o8 + to, none⟩ = some (.int .i64 st)) => CE.out W2 (h.1.out.trans hb))
    clear e0 e1 e2 e3 ef q0 q1 qf z8 z9
    go_region_held3 (fun W => Hid (Wr [] wv.drew W) ∧ W.cell? ⟨w.heap.size + 1 + 1, 0, none⟩ = some (.slice (some ⟨b8, o8, none⟩) s.st.length f1) ∧ W.cell? ⟨w.heap.size + 1 + 1 + 1, 1, none⟩ = some (.int .i64 (to : Int)) ∧ W.cell? ⟨w.heap.size + 1 + 1 + 1, 3, none⟩ = some (.int .i64 lag) ∧ W.cell? ⟨b8, o8 + to, none⟩ = some (.int .i64 st)) (first | exact INIT.out | exact KW.out _ _ (by assumption) (by assumption) | exact KW.out _ _ (Wr.of_below (by assumption) (Nat.le_refl _)) (by assumption) | exact KW.out _ _ (Wr.of_below ((Below.refl _ _).alloc (Nat.le_refl _) _) (Nat.le_refl _)) (by assumption))
      (fail)
    go_wp2
    go_ret
    exact ⟨ret_bZ HR.out.symm, S2.out.1⟩
  · rw [hfe] at z2 HL S1
    have z8 : World.cell? (World.alloc (World.alloc (World.alloc (World.alloc w (.cells #[.int .i64 (i : Int)] 146)) (.cells #[.int .i64 p.dl, .slice A1 p.acts.length c1, .slice (some ⟨b2, o2, none⟩) p.lks.length c2, .slice A3 p.ress.length c3, .slice A4 p.stk.length c4] 34)) (.cells #[.slice (some ⟨b8, o8, none⟩) s.st.length f1, .slice E2 s.mo.length f2] 41)) (.cells #[.int .i64 (fr : Int), .int .i64 (to : Int), .bool true, .int .i64 lag] 123)) ⟨b8, o8 + fr, none⟩ = some (.int .i64 (stA s fr)) := (S1.out.1.cell (p := ⟨b8, o8 + fr, none⟩) hb8).trans y8
    have z9 : World.cell? (World.alloc (World.alloc (World.alloc (World.alloc w (.cells #[.int .i64 (i : Int)] 146)) (.cells #[.int .i64 p.dl, .slice A1 p.acts.length c1, .slice (some ⟨b2, o2, none⟩) p.lks.length c2, .slice A3 p.ress.length c3, .slice A4 p.stk.length c4] 34)) (.cells #[.slice (some ⟨b8, o8, none⟩) s.st.length f1, .slice E2 s.mo.length f2] 41)) (.cells #[.int .i64 (fr : Int), .int .i64 (to : Int), .bool true, .int .i64 lag] 123)) ⟨b8, o8 + to, none⟩ = some (.int .i64 (stA s to)) := (S1.out.1.cell (p := ⟨b8, o8 + to, none⟩) hb8).trans y9
    have HR := Lib.hid (HL.out (endA p s fr) rfl)
    generalize hsg : stA s fr = sf at z8 hsf
    clear hsg
    go_wp2_with fail
    clear z0 z1 z2 z3 z8 z9
    refine (implEnd_any p s fr _ _ _ (by exact S1.out.old HV.out) (by exact S1.out.old HQ.out) HF.out hfl2).mono ?_
    rintro e w2 ⟨rfl, b⟩
    have S2 := Lib.hid (S1.out.go b)
    clear S1 b
    have z9 := (S2.out.1.cell (p := ⟨b8, o8 + to, none⟩) hb8).trans y9
    clear y8 y9
    generalize endA p s fr = en at HR hen ⊢
    generalize stA s to = st at z9 HR
    have hw : IntKind.i64.wrap (en + lag) = en + lag := by rw [IntKind.wrap_i64]; omega
    go_wp2_with fail
    obtain ⟨e0, e1, e2, e3, ef⟩ := (S2.out.bk 0 rfl).c4
    obtain ⟨q0, q1, qf⟩ := (S2.out.bk 1 rfl).c2
    have hl0 := (S2.out.bk 0 rfl).lt
    have hl1 := (S2.out.bk 1 rfl).lt
    have hsz := S2.out.1.size
    have hb8' : b8 < w2.heap.size := by omega
    have S3 := Lib.hid S2.out.drew1
    have CE := Lib.hid (fun (W : World) (h : Wr [] w2.drew W) => show Hid (Wr [] w2.drew W) ∧ W.cell? ⟨w.heap.size + 1 + 1, 0, none⟩ = some (.slice (some ⟨b8, o8, none⟩) s.st.length f1) ∧ W.cell? ⟨w.heap.size + 1 + 1 + 1, 1, none⟩ = some (.int .i64 (to : Int)) ∧ W.cell? ⟨w.heap.size + 1 + 1 + 1, 3, none⟩ = some (.int .i64 lag) ∧ W.cell? ⟨b8, o8 + to, none⟩ = some (.int .i64 st) from ⟨Lib.hid h, (wr_cell h (p := ⟨w.heap.size + 1 + 1, 0, none⟩) hl1 (by simp)).trans (by exact by simpa using q0), (wr_cell h (p := ⟨w.heap.size + 1 + 1 + 1, 1, none⟩) hl0 (by simp)).trans (by exact by simpa using e1), (wr_cell h (p := ⟨w.heap.size + 1 + 1 + 1, 3, none⟩) hl0 (by simp)).trans (by exact by simpa using e3), (wr_cell h (p := ⟨b8, o8 + to, none⟩) hb8' (by simp)).trans (by exact by simpa using z9)⟩)
    have INIT := Lib.hid (CE.out _ (Wr.refl _ _))
    have KW := Lib.hid (fun (W2 W : World) (hb : Wr [] W W2) (h : Hid (Wr [] w2.drew W) ∧ W.cell? ⟨w.heap.size + 1 + 1, 0, none⟩ = some (.slice (some ⟨b8, o8, none⟩) s.st.length f1) ∧ W.cell? ⟨w.heap.size + 1 + 1 + 1, 1, none⟩ = some (.int .i64 (to : Int)) ∧ W.cell? ⟨w.heap.size + 1 + 1 + 1, 3, none⟩ = some (.int .i64 lag) ∧ W.cell? ⟨b8, o8 + to, none⟩ = some (.int .i64 st)) => CE.out W2 (h.1.out.trans hb))
    clear e0 e1 e2 e3 ef q0 q1 qf z9
    go_region_held3 (fun W => Hid (Wr [] w2.drew W) ∧ W.cell? ⟨w.heap.size + 1 + 1, 0, none⟩ = some (.slice (some ⟨b8, o8, none⟩) s.st.length f1) ∧ W.cell? ⟨w.heap.size + 1 + 1 + 1, 1, none⟩ = some (.int .i64 (to : Int)) ∧ W.cell? ⟨w.heap.size + 1 + 1 + 1, 3, none⟩ = some (.int .i64 lag) ∧ W.cell? ⟨b8, o8 + to, none⟩ = some (.int .i64 st)) (first | exact INIT.out | exact KW.out _ _ (by assumption) (by assumption) | exact KW.out _ _ (Wr.of_below (by assumption) (Nat.le_refl _)) (by assumption) | exact KW.out _ _ (Wr.of_below ((Below.refl _ _).alloc (Nat.le_refl _) _) (Nat.le_refl _)) (by assumption))
      (fail)
    go_wp2
    go_ret
    exact ⟨ret_bZ HR.out.symm, S3.out.1⟩

set_option maxRecDepth 100000 in
set_option maxHeartbeats 8000000 in
theorem ex_lnk (p : Pj) (a : Int) (v : Value) (w : World) (hv : (trPj p).rd w v) :
    Calls Try.prog 139 #[.agg #[.int .i64 a], v] w fun e w' => e = .returned (.bool (thereC p (.lnk a))) ∧ Below w.heap.size w w' := by
  obtain ⟨A1, c1, A2, c2, A3, c3, A4, c4, rfl, _⟩ := rdProject_t hv
  have S0 := Lib.hid (((Sn.start w).box 146 [.int .i64 a]).box 34 [.int .i64 p.dl, .slice A1 p.acts.length c1, .slice A2 p.lks.length c2, .slice A3 p.ress.length c3, .slice A4 p.stk.length c4])
  clear hv
  go_enter Try.func139, Try.ntmps139
  go_wp2_with fail
  refine (isBelow_any a (p.lks.length : Int) _).mono ?_
  rintro e w1 ⟨rfl, rfl⟩
  go_wp2
  go_ret
  exact ⟨rfl, S0.out.1⟩
set_option maxRecDepth 100000 in
set_option maxHeartbeats 8000000 in
theorem ex_fin (p : Pj) (a : Int) (v : Value) (w : World) (hv : (trPj p).rd w v) :
    Calls Try.prog 143 #[.agg #[.int .i64 a], v] w fun e w' => e = .returned (.bool (thereC p (.fin a))) ∧ Below w.heap.size w w' := by
  obtain ⟨A1, c1, A2, c2, A3, c3, A4, c4, rfl, _⟩ := rdProject_t hv
  have S0 := Lib.hid (((Sn.start w).box 148 [.int .i64 a]).box 34 [.int .i64 p.dl, .slice A1 p.acts.length c1, .slice A2 p.lks.length c2, .slice A3 p.ress.length c3, .slice A4 p.stk.length c4])
  clear hv
  go_enter Try.func143, Try.ntmps143
  go_wp2_with fail
  refine (isBelow_any a (p.acts.length : Int) _).mono ?_
  rintro e w1 ⟨rfl, rfl⟩
  go_wp2
  go_ret
  exact ⟨rfl, S0.out.1⟩
set_option maxRecDepth 100000 in
set_option maxHeartbeats 8000000 in
theorem ex_stk (p : Pj) (a : Int) (v : Value) (w : World) (hv : (trPj p).rd w v) :
    Calls Try.prog 151 #[.agg #[.int .i64 a], v] w fun e w' => e = .returned (.bool (thereC p (.stk a))) ∧ Below w.heap.size w w' := by
  obtain ⟨A1, c1, A2, c2, A3, c3, A4, c4, rfl, _⟩ := rdProject_t hv
  have S0 := Lib.hid (((Sn.start w).box 153 [.int .i64 a]).box 34 [.int .i64 p.dl, .slice A1 p.acts.length c1, .slice A2 p.lks.length c2, .slice A3 p.ress.length c3, .slice A4 p.stk.length c4])
  clear hv
  go_enter Try.func151, Try.ntmps151
  go_wp2_with fail
  refine (isBelow_any a (p.stk.length : Int) _).mono ?_
  rintro e w1 ⟨rfl, rfl⟩
  go_wp2
  go_ret
  exact ⟨rfl, S0.out.1⟩
set_option maxRecDepth 100000 in
set_option maxHeartbeats 8000000 in
theorem ex_tim (p : Pj) (a b : Int) (v : Value) (w : World) (hv : (trPj p).rd w v) :
    Calls Try.prog 146 #[.agg #[.int .i64 a, .int .i64 b], v] w fun e w' => e = .returned (.bool (thereC p (.tim a b))) ∧ Below w.heap.size w w' := by
  obtain ⟨A1, c1, A2, c2, A3, c3, A4, c4, rfl, _⟩ := rdProject_t hv
  have S0 := Lib.hid (((Sn.start w).box 150 [.int .i64 a, .int .i64 b]).box 34 [.int .i64 p.dl, .slice A1 p.acts.length c1, .slice A2 p.lks.length c2, .slice A3 p.ress.length c3, .slice A4 p.stk.length c4])
  clear hv
  have HR := Lib.hid (show thereC p (.tim a b) = (inB a 0 ((p.ress.length : Int) - 1) && inB b 0 60) from rfl)
  generalize thereC p (.tim a b) = res at HR ⊢
  go_enter Try.func146, Try.ntmps146
  go_wp2_with fail
  refine (isBelow_any a (p.ress.length : Int) _).mono ?_
  rintro e w1 ⟨rfl, rfl⟩
  generalize inB a 0 ((p.ress.length : Int) - 1) = x at HR ⊢
  rcases x with _ | _
  · go_wp2
    go_ret
    exact ⟨ret_bZ (by rw [HR.out]; rfl), S0.out.1⟩
  · go_wp2_with fail
    refine (isTime_any b _).mono ?_
    rintro e w1 ⟨rfl, rfl⟩
    go_wp2
    go_ret
    exact ⟨ret_bZ (by rw [HR.out]; simp), S0.out.1⟩
set_option maxRecDepth 100000 in
set_option maxHeartbeats 8000000 in
theorem ex_wrk (p : Pj) (a b c : Int) (v : Value) (w : World) (hv : (trPj p).rd w v) :
    Calls Try.prog 155 #[.agg #[.int .i64 a, .int .i64 b, .int .i64 c], v] w fun e w' => e = .returned (.bool (thereC p (.wrk a b c))) ∧ Below w.heap.size w w' := by
  obtain ⟨A1, c1, A2, c2, A3, c3, A4, c4, rfl, _⟩ := rdProject_t hv
  have S0 := Lib.hid (((Sn.start w).box 155 [.int .i64 a, .int .i64 b, .int .i64 c]).box 34 [.int .i64 p.dl, .slice A1 p.acts.length c1, .slice A2 p.lks.length c2, .slice A3 p.ress.length c3, .slice A4 p.stk.length c4])
  clear hv
  have HR := Lib.hid (show thereC p (.wrk a b c) = (inB a 0 ((p.ress.length : Int) - 1) && (inB b 0 60 && (inB c 0 60 && decide (b < c)))) from rfl)
  generalize thereC p (.wrk a b c) = res at HR ⊢
  go_enter Try.func155, Try.ntmps155
  go_wp2_with fail
  refine (isBelow_any a (p.ress.length : Int) _).mono ?_
  rintro e w1 ⟨rfl, rfl⟩
  generalize inB a 0 ((p.ress.length : Int) - 1) = x at HR ⊢
  rcases x with _ | _
  · go_wp2
    go_ret
    exact ⟨ret_bZ (by rw [HR.out]; rfl), S0.out.1⟩
  · go_wp2_with fail
    refine (isTime_any b _).mono ?_
    rintro e w1 ⟨rfl, rfl⟩
    generalize inB b 0 60 = y at HR ⊢
    rcases y with _ | _
    · go_wp2
      go_ret
      exact ⟨ret_bZ (by rw [HR.out]; rfl), S0.out.1⟩
    · go_wp2_with fail
      refine (isTime_any c _).mono ?_
      rintro e w1 ⟨rfl, rfl⟩
      generalize inB c 0 60 = z at HR ⊢
      rcases z with _ | _
      · go_wp2
        go_ret
        exact ⟨ret_bZ (by rw [HR.out]; rfl), S0.out.1⟩
      · go_wp2
        go_ret
        exact ⟨ret_bZ (by rw [HR.out]; simp), S0.out.1⟩
set_option maxRecDepth 100000 in
set_option maxHeartbeats 8000000 in
theorem ex_par (p : Pj) (a b c : Int) (v : Value) (w : World) (hv : (trPj p).rd w v) :
    Calls Try.prog 159 #[.agg #[.int .i64 a, .int .i64 b, .int .i64 c], v] w fun e w' => e = .returned (.bool (thereC p (.par a b c))) ∧ Below w.heap.size w w' := by
  have HV := Lib.hid hv
  obtain ⟨A1, c1, A2, c2, A3, c3, A4, c4, rfl, _⟩ := rdProject_t hv
  have S0 := Lib.hid (((Sn.start w).box 157 [.int .i64 a, .int .i64 b, .int .i64 c]).box 34 [.int .i64 p.dl, .slice A1 p.acts.length c1, .slice A2 p.lks.length c2, .slice A3 p.ress.length c3, .slice A4 p.stk.length c4])
  simp only [World.size_alloc] at S0
  clear hv
  have HR := Lib.hid (show thereC p (.par a b c) = (machB p a && (inB b 0 (c - 1) && inB c 0 ((p.acts.length : Int) - 1))) from rfl)
  generalize thereC p (.par a b c) = res at HR ⊢
  go_enter Try.func159, Try.ntmps159
  go_wp2_with fail
  refine (implIsMachine_any p a _ _ (by exact S0.out.old HV.out)).mono ?_
  rintro e w1 ⟨rfl, b⟩
  have S1 := Lib.hid (S0.out.go b)
  clear S0 b
  generalize machB p a = x at HR ⊢
  rcases x with _ | _
  · go_wp2
    go_ret
    exact ⟨ret_bZ (by rw [HR.out]; rfl), S1.out.1⟩
  · obtain ⟨t0, t1, t2, tf⟩ := (S1.out.bk 1 rfl).c3
    obtain ⟨e0, e1, e2, e3, e4, ef⟩ := (S1.out.bk 0 rfl).c5
    go_wp2_with fail
    refine (isBelow_any b c _).mono ?_
    rintro e w1 ⟨rfl, rfl⟩
    generalize inB b 0 (c - 1) = y at HR ⊢
    rcases y with _ | _
    · go_wp2
      go_ret
      exact ⟨ret_bZ (by rw [HR.out]; rfl), S1.out.1⟩
    · go_wp2_with fail
      refine (isBelow_any c (p.acts.length : Int) _).mono ?_
      rintro e w1 ⟨rfl, rfl⟩
      go_wp2
      go_ret
      exact ⟨ret_bZ (by rw [HR.out]; simp), S1.out.1⟩
end Go.Proofs.Ytaglfdkeomjpdab
end

section
namespace Go.Proofs.Ytaglfdkeomjpdab
open Go.RowKit Go.Shelf
set_option linter.unusedVariables false

def exF : Cd → Nat
  | .lnk _ => 139
  | .fin _ => 143
  | .tim _ _ => 146
  | .wrk _ _ _ => 155
  | .par _ _ _ => 159
  | .stk _ => 151
theorem exF_method (c : Cd) (n : Nat) (w : World) : (method (n + 1) c.ty (.agg ⟨c.cs⟩) "loop.example/g00806/impl.exists").run Try.prog w = .ok (exF c, .agg ⟨c.cs⟩) w := by
  cases c <;> kernel_rfl
theorem exF_enter (c : Cd) (args : Array Value) (w : World) : (callFunc (exF c) args).run Try.prog w = .ok (.enter (exF c) args) w := by
  cases c with
  | lnk a => exact enters_of Try.func139 (by kernel_rfl) rfl args w
  | fin a => exact enters_of Try.func143 (by kernel_rfl) rfl args w
  | tim a b => exact enters_of Try.func146 (by kernel_rfl) rfl args w
  | wrk a b c => exact enters_of Try.func155 (by kernel_rfl) rfl args w
  | par a b c => exact enters_of Try.func159 (by kernel_rfl) rfl args w
  | stk a => exact enters_of Try.func151 (by kernel_rfl) rfl args w
def metF : Cd → Nat
  | .lnk _ => 140
  | .fin _ => 144
  | .tim _ _ => 147
  | .wrk _ _ _ => 156
  | .par _ _ _ => 160
  | .stk _ => 152
theorem metF_method (c : Cd) (n : Nat) (w : World) : (method (n + 1) c.ty (.agg ⟨c.cs⟩) "loop.example/g00806/impl.isMet").run Try.prog w = .ok (metF c, .agg ⟨c.cs⟩) w := by
  cases c <;> kernel_rfl
theorem metF_enter (c : Cd) (args : Array Value) (w : World) : (callFunc (metF c) args).run Try.prog w = .ok (.enter (metF c) args) w := by
  cases c with
  | lnk a => exact enters_of Try.func140 (by kernel_rfl) rfl args w
  | fin a => exact enters_of Try.func144 (by kernel_rfl) rfl args w
  | tim a b => exact enters_of Try.func147 (by kernel_rfl) rfl args w
  | wrk a b c => exact enters_of Try.func156 (by kernel_rfl) rfl args w
  | par a b c => exact enters_of Try.func160 (by kernel_rfl) rfl args w
  | stk a => exact enters_of Try.func152 (by kernel_rfl) rfl args w
theorem ex_any (c : Cd) (p : Pj) (v : Value) (w : World) (hv : (trPj p).rd w v) :
    Calls Try.prog (exF c) #[.agg ⟨c.cs⟩, v] w fun e w' => e = .returned (.bool (thereC p c)) ∧ Below w.heap.size w w' := by
  cases c with
  | lnk a => exact ex_lnk p a v w hv
  | fin a => exact ex_fin p a v w hv
  | tim a b => exact ex_tim p a b v w hv
  | wrk a b c => exact ex_wrk p a b c v w hv
  | par a b c => exact ex_par p a b c v w hv
  | stk a => exact ex_stk p a v w hv
theorem in_nat {a : Int} {n : Nat} (h : inB a 0 ((n : Int) - 1) = true) : ∃ k : Nat, a = (k : Int) ∧ k < n := by
  have := inB_iff.1 h
  exact ⟨a.toNat, by omega, by omega⟩
theorem met_any (c : Cd) (p : Pj) (s : Sc) (v u : Value) (w : World) (hv : (trPj p).rd w v) (hk : (trPj p).ok) (hs : (trSc s).rd w u) (hf : formB p s = true) (ht : thereC p c = true) :
    Calls Try.prog (metF c) #[.agg ⟨c.cs⟩, v, u] w fun e w' => e = .returned (.bool (!failC p s c)) ∧ Below w.heap.size w w' := by
  have F := form_of hf
  cases c with
  | lnk a =>
    obtain ⟨k, rfl, hk2⟩ := in_nat ht
    exact met_lnk p s k v u w hv hs F hk2
  | fin a =>
    obtain ⟨k, rfl, hk2⟩ := in_nat ht
    exact met_fin p s k v u w hv hs F hk2
  | tim a b =>
    simp only [thereC, Bool.and_eq_true] at ht
    obtain ⟨k, rfl, hk2⟩ := in_nat ht.1
    exact met_tim p s k b v u w hv hs F hk2 (inB_iff.1 ht.2)
  | wrk a b c =>
    simp only [thereC, Bool.and_eq_true, decide_eq_true_eq] at ht
    obtain ⟨k, rfl, hk2⟩ := in_nat ht.1
    exact met_wrk p s k b c v u w hv hs F hk2 (inB_iff.1 ht.2.1) (inB_iff.1 ht.2.2.1) ht.2.2.2
  | par a b c =>
    simp only [thereC, Bool.and_eq_true] at ht
    obtain ⟨k, rfl, hk2⟩ := machB_in ht.1
    obtain ⟨j, rfl, hj⟩ := in_nat ht.2.2
    have := inB_iff.1 ht.2.1
    obtain ⟨i, rfl⟩ : ∃ i : Nat, b = (i : Int) := ⟨b.toNat, by omega⟩
    exact met_par p s k i j v u w hv hs F ht.1 hk2 (by omega) hj
  | stk a =>
    obtain ⟨k, rfl, hk2⟩ := in_nat ht
    exact met_stk p s k v u w hv hk hs hf hk2
set_option maxRecDepth 100000 in
set_option maxHeartbeats 8000000 in
theorem known_any (p : Pj) (r : Ru) (v : Value) (w : World) (hv : (trPj p).rd w v) (hk : (trPj p).ok) :
    Calls Try.prog 50 #[v, ruV r] w fun e w' => e = (if ruOkB p r = true then optC (condOf r) else optC none) ∧ Below w.heap.size w w' := by
  have HK := Lib.hid hk
  have HV := Lib.hid hv
  obtain ⟨ki, a, b, c⟩ := r
  obtain ⟨A1, c1, A2, c2, A3, c3, A4, c4, rfl, _⟩ := rdProject_t hv
  have S0 := Lib.hid (((Sn.start w).box 34 [.int .i64 p.dl, .slice A1 p.acts.length c1, .slice A2 p.lks.length c2, .slice A3 p.ress.length c3, .slice A4 p.stk.length c4]).box 46 [.int .i64 ki, .int .i64 a, .int .i64 b, .int .i64 c])
  simp only [World.size_alloc] at S0
  clear hv hk
  unfold ruV
  generalize hres : (if ruOkB p ⟨ki, a, b, c⟩ = true then optC (condOf ⟨ki, a, b, c⟩) else optC none) = res
  have RES := Lib.hid hres
  clear hres
  go_enter Try.func50, Try.ntmps50
  go_wp2_with fail
  refine (conditionOf_any ⟨ki, a, b, c⟩ _).mono ?_
  rintro e w1 ⟨rfl, b⟩
  have S1 := Lib.hid (S0.out.go b)
  clear S0 b
  generalize hc : condOf ⟨ki, a, b, c⟩ = co
  have HC := Lib.hid hc
  clear hc
  rcases co with _ | q
  · have HN := Lib.hid (ruOk_none (p := p) HC.out)
    simp only [optC]
    go_wp2
    all_goals
      go_ret2
      exact ⟨by rw [← RES.out, HN.out]; rfl, S1.out.1⟩
  · simp only [optC, Cd.val]
    obtain ⟨e0, e1, e2, e3, e4, ef⟩ := (S1.out.bk 1 rfl).c5
    go_wp2_with fail
    refine (implProjectOk_any p _ _ (by exact S1.out.old HV.out) HK.out).mono ?_
    rintro e w2 ⟨rfl, b⟩
    have S2 := Lib.hid (S1.out.go b)
    clear S1 b
    rcases hp : pokB p with _ | _
    · have HN := Lib.hid (ruOk_pok (r := ⟨ki, a, b, c⟩) hp)
      clear hp
      go_wp2
      all_goals
        go_ret2
        exact ⟨by rw [← RES.out, HN.out]; rfl, S2.out.1⟩
    · have HT := Lib.hid (ruOk_some HC.out hp)
      clear hp
      obtain ⟨e0, e1, e2, e3, e4, ef⟩ := (S2.out.bk 1 rfl).c5
      have hm := exF_method q
      have hn := exF_enter q
      go_wp2_with fail
      refine (ex_any q p _ _ (by exact S2.out.old HV.out)).mono ?_
      rintro e w3 ⟨rfl, b⟩
      have S3 := Lib.hid (S2.out.go b)
      clear S2 b
      generalize thereC p q = x at HT ⊢
      rcases x with _ | _
      · go_wp2
        all_goals
          go_ret2
          exact ⟨by rw [← RES.out, HT.out]; rfl, S3.out.1⟩
      · go_wp2
        all_goals
          go_ret2
          exact ⟨by rw [← RES.out, HT.out, HC.out]; rfl, S3.out.1⟩
set_option maxRecDepth 100000 in
set_option maxHeartbeats 8000000 in
theorem implRuleOk_any (p : Pj) (r : Ru) (v : Value) (w : World) (hv : (trPj p).rd w v) (hk : (trPj p).ok) :
    Calls Try.prog 17 #[v, ruV r] w fun e w' => e = .returned (.bool (ruOkB p r)) ∧ Below w.heap.size w w' := by
  have HK := Lib.hid hk
  have HV := Lib.hid hv
  obtain ⟨ki, a, b, c⟩ := r
  obtain ⟨A1, c1, A2, c2, A3, c3, A4, c4, rfl, _⟩ := rdProject_t hv
  have S0 := Lib.hid (((Sn.start w).box 34 [.int .i64 p.dl, .slice A1 p.acts.length c1, .slice A2 p.lks.length c2, .slice A3 p.ress.length c3, .slice A4 p.stk.length c4]).box 46 [.int .i64 ki, .int .i64 a, .int .i64 b, .int .i64 c])
  simp only [World.size_alloc] at S0
  clear hv hk
  unfold ruV
  have HC := Lib.hid (fun q => @ruOk_none p ⟨ki, a, b, c⟩ q)
  go_enter Try.func17, Try.ntmps17
  go_wp2_with fail
  refine (known_any p ⟨ki, a, b, c⟩ _ _ (by exact S0.out.old HV.out) HK.out).mono ?_
  rintro e w1 ⟨he, b⟩
  have S1 := Lib.hid (S0.out.go b)
  have HE := Lib.hid he
  clear S0 b he
  generalize hx : ruOkB p ⟨ki, a, b, c⟩ = x at HE HC
  have HX := Lib.hid hx
  clear hx
  generalize condOf ⟨ki, a, b, c⟩ = co at HE HC
  rcases x with _ | _
  · obtain rfl : e = Ending.returned (.tuple #[.nilIface, .bool false]) := HE.out
    go_wp2
    go_ret
    exact ⟨ret_bZ HX.out.symm, S1.out.1⟩
  · rcases co with _ | q
    · cases HC.out rfl
    obtain rfl : e = Ending.returned (.tuple #[q.val, .bool true]) := HE.out
    go_wp2
    go_ret
    exact ⟨ret_bZ HX.out.symm, S1.out.1⟩
set_option maxRecDepth 100000 in
set_option maxHeartbeats 8000000 in
theorem implViolates_any (p : Pj) (s : Sc) (r : Ru) (v u : Value) (w : World) (hv : (trPj p).rd w v) (hk : (trPj p).ok) (hs : (trSc s).rd w u) :
    Calls Try.prog 16 #[v, u, ruV r] w fun e w' => e = .returned (.bool (violB p s r)) ∧ Below w.heap.size w w' := by
  have HK := Lib.hid hk
  obtain ⟨ki, a, b, c⟩ := r
  have HV := Lib.hid hv
  obtain ⟨A1, c1, A2, c2, A3, c3, A4, c4, rfl, _⟩ := rdProject_t hv
  have HQ := Lib.hid hs
  obtain ⟨E1, f1, E2, f2, rfl, _⟩ := rdSchedule_t hs
  clear hv hs hk
  have S0 := Lib.hid ((((Sn.start w).box 34 [.int .i64 p.dl, .slice A1 p.acts.length c1, .slice A2 p.lks.length c2, .slice A3 p.ress.length c3, .slice A4 p.stk.length c4]).box 41 [.slice E1 s.st.length f1, .slice E2 s.mo.length f2]).box 46 [.int .i64 ki, .int .i64 a, .int .i64 b, .int .i64 c])
  simp only [World.size_alloc] at S0
  unfold ruV
  generalize hres : violB p s ⟨ki, a, b, c⟩ = res
  have RES := Lib.hid hres
  clear hres
  go_enter Try.func16, Try.ntmps16
  go_wp2_with fail
  refine (conditionOf_any ⟨ki, a, b, c⟩ _).mono ?_
  rintro e w1 ⟨rfl, b⟩
  have S1 := Lib.hid (S0.out.go b)
  clear S0 b
  generalize hc : condOf ⟨ki, a, b, c⟩ = co
  have HC := Lib.hid hc
  clear hc
  rcases co with _ | q
  · have HN := Lib.hid (viol_none (p := p) (s := s) HC.out)
    simp only [optC]
    go_wp2
    all_goals
      go_ret
      exact ⟨ret_bZ (by rw [← RES.out, HN.out]), S1.out.1⟩
  simp only [optC, Cd.val]
  obtain ⟨e0, e1, e2, e3, e4, ef⟩ := (S1.out.bk 2 rfl).c5
  obtain ⟨q0, q1, qf⟩ := (S1.out.bk 1 rfl).c2
  go_wp2_with fail
  clear e0 e1 e2 e3 e4 ef
  clear q0 q1 qf
  refine (implForm_any p s _ _ _ (by exact S1.out.old HV.out) HK.out (by exact S1.out.old HQ.out)).mono ?_
  rintro e w2 ⟨rfl, b⟩
  have S2 := Lib.hid (S1.out.go b)
  clear S1 b
  rcases hf : formB p s with _ | _
  · have HN := Lib.hid (viol_form (r := ⟨ki, a, b, c⟩) hf)
    clear hf
    go_wp2
    all_goals
      go_ret
      exact ⟨ret_bZ (by rw [← RES.out, HN.out]), S2.out.1⟩
  have HF := Lib.hid hf
  clear hf
  obtain ⟨e0, e1, e2, e3, e4, ef⟩ := (S2.out.bk 2 rfl).c5
  have hm := exF_method q
  have hn := exF_enter q
  go_wp2_with fail
  clear e0 e1 e2 e3 e4 ef
  refine (ex_any q p _ _ (by exact S2.out.old HV.out)).mono ?_
  rintro e w3 ⟨rfl, b⟩
  have S3 := Lib.hid (S2.out.go b)
  clear S2 b
  rcases ht : thereC p q with _ | _
  · have HN := Lib.hid (viol_there (s := s) HC.out ht)
    clear ht
    go_wp2
    all_goals
      go_ret
      exact ⟨ret_bZ (by rw [← RES.out, HN.out]), S3.out.1⟩
  have HT := Lib.hid (viol_yes HF.out HC.out ht)
  have HTT := Lib.hid ht
  clear ht hm hn
  obtain ⟨e0, e1, e2, e3, e4, ef⟩ := (S3.out.bk 2 rfl).c5
  obtain ⟨q0, q1, qf⟩ := (S3.out.bk 1 rfl).c2
  have hm := metF_method q
  have hn := metF_enter q
  go_wp2_with fail
  clear e0 e1 e2 e3 e4 ef
  clear q0 q1 qf
  refine (met_any q p s _ _ _ (by exact S3.out.old HV.out) HK.out (by exact S3.out.old HQ.out) HF.out HTT.out).mono ?_
  rintro e w4 ⟨rfl, b⟩
  have S4 := Lib.hid (S3.out.go b)
  clear S3 b
  generalize failC p s q = x at HT ⊢
  go_wp2
  go_ret
  exact ⟨ret_bZ (by rw [← RES.out, HT.out]), S4.out.1⟩
end Go.Proofs.Ytaglfdkeomjpdab
end
