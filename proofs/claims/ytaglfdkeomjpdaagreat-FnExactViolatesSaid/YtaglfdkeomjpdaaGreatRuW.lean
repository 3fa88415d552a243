/- DERIVED. CONTRACTS of chapter 11: what the conditions of the program ask: the work, the setup, each kind's isMet and exists. -/
import Derived.Test.YtaglfdkeomjpdaaGreatRuV
import Derived.Test.YtaglfdkeomjpdaaGreatScC
import Derived.Test.YtaglfdkeomjpdaaGreatStpX
import Derived.Test.YtaglfdkeomjpdaaGreatStpY
import Derived.Lib.MinMax
namespace Go.Proofs.YtaglfdkeomjpdaaGreat
open Go.RowKit Go.Shelf
set_option linter.unusedVariables false

theorem ret_bZ {a b : Bool} (h : a = b) : Ending.returned (.bool a) = Ending.returned (.bool b) := by rw [h]
theorem not_lt_dec (a b : Int) : (!decide (a < b)) = decide (b ≤ a) := by
  rw [Bool.eq_iff_iff]
  simp
theorem cap_in {xs : List Pr} {t : Int} (h : okP xs = true) (ht : 0 ≤ t ∧ t ≤ 60) : capB xs t = atP xs t := by rw [capB, h, inB_yes ht]; rfl
theorem total_in {xs : List Pr} {x y : Int} (h : okP xs = true) (hx : 0 ≤ x ∧ x ≤ 60) (hy : 0 ≤ y ∧ y ≤ 60) : totalB xs x y = sumT xs x y := by rw [totalB, spanB, h, inB_yes hx, inB_yes hy]; rfl
theorem pok_st {p : Pj} (h : pokB p = true) {r : Nat} (hr : r < p.ress.length) : okP p.ress[r].st = true := by
  have := pok_ress h _ (List.getElem_mem hr)
  simp only [rokB, Bool.and_eq_true] at this
  exact this.2.1
theorem pok_lk {p : Pj} (h : pokB p = true) {i : Nat} (hi : i < p.lks.length) : lokB p.acts.length p.lks[i] = true := by
  simp only [pokB, Bool.and_eq_true, List.all_eq_true] at h
  exact h.2.2.2.2.2.2.2.2.2 _ (List.getElem_mem hi)

set_option maxRecDepth 100000 in
set_option maxHeartbeats 8000000 in
theorem usageOf_any (p : Pj) (s : Sc) (r a : Nat) (v u : Value) (w : World) (hv : (trPj p).rd w v) (hs : (trSc s).rd w u) (hf : Form p s) (hr : r < p.ress.length) (ha : a < p.acts.length) :
    Calls Tryz.prog 159 #[v, u, .int .i64 (r : Int), .int .i64 (a : Int)] w fun e w' => e = .returned (.int .i64 (usA p s r a)) ∧ Below w.heap.size w w' := by
  have HV := Lib.hid hv
  obtain ⟨A1, c1, A2, c2, A3, c3, A4, c4, rfl, _⟩ := rdProject_t hv
  clear hv
  have HQ := Lib.hid hs
  obtain ⟨E1, f1, E2, f2, rfl, q1, q2⟩ := rdSchedule_t hs
  obtain ⟨ht1, B8, d8, he, x1⟩ := rdI (rd_flat q1)
  injection he with he _ he2
  subst he he2
  have X1 := Lib.hid x1
  obtain ⟨ht2, B9, d9, he, x2⟩ := rdI (rd_flat q2)
  injection he with he _ he2
  subst he he2
  have X2 := Lib.hid x2
  clear hs q1 q2 x1 x2
  have S0 := Lib.hid (((Sn.start w).box 36 [.int .i64 p.dl, .slice A1 p.acts.length c1, .slice A2 p.lks.length c2, .slice A3 p.ress.length c3, .slice A4 p.stk.length c4]).box 46 [.slice E1 s.st.length f1, .slice E2 s.mo.length f2])
  simp only [World.size_alloc] at S0
  go_enter Tryz.func159, Tryz.ntmps159
  have HF := Lib.hid hf
  have hus := hf.us ha hr
  have hfd := field_mode1
  have r0 : (0 : Int) ≤ (r : Int) := by omega
  clear hf
  go_wp2_with fail
  refine (implMode_at p s a _ _ w _ (by exact S0.out.1) (by exact HV.out) (by exact HQ.out) HF.out ha).mono ?_
  rintro e w3 ⟨M1, m1, M2, m2, rfl, rm, b⟩
  obtain ⟨N1, k1, N2, k2, he, ru, _⟩ := rdMode_t rm
  obtain ⟨rfl, rfl⟩ : M1 = N1 ∧ m1 = k1 := by
    injection he with he
    injection he with he
    simp at he
    exact ⟨he.1.1, he.1.2⟩
  obtain ⟨hlu, N, n, he, gu⟩ := rdI (rd_flat ru)
  injection he with he _ he2
  subst he he2
  obtain ⟨b7, o7, rfl, hb7, hc7⟩ := gu r (by rw [hus.1]; exact hr)
  have S3 := Lib.hid (S0.out.go b)
  have y7 := (S3.out.1.cell (p := ⟨b7, o7 + r, none⟩) hb7).trans (hc7 r (by rw [hus.1]; exact hr))
  have hua : (mdA p s a).us[r]'(by rw [hus.1]; exact hr) = usA p s r a := by simp [usA, List.getD, List.getElem?_eq_getElem (show r < (mdA p s a).us.length by rw [hus.1]; exact hr)]
  rw [hua] at y7
  have hxl : (r : Int) < ((mdA p s a).us.length : Int) := by rw [hus.1]; omega
  generalize hgu : usA p s r a = ua at y7
  have HU := Lib.hid hgu
  generalize (mdA p s a).us.length = nu at hxl ⊢
  clear S0 b rm hc7 hua hus gu ru hgu
  go_wp2
  go_ret
  exact ⟨ret_numZ HU.out.symm, S3.out.1⟩

set_option maxRecDepth 100000 in
set_option maxHeartbeats 8000000 in
theorem workWithin_any (p : Pj) (s : Sc) (r : Nat) (x y : Int) (v u : Value) (w : World) (hv : (trPj p).rd w v) (hs : (trSc s).rd w u) (hf : Form p s) (hr : r < p.ress.length) (hx : 0 ≤ x ∧ x ≤ 61) (hy : 0 ≤ y ∧ y ≤ 61) :
    Calls Tryz.prog 157 #[v, u, .int .i64 (r : Int), .int .i64 x, .int .i64 y] w fun e w' => e = .returned (.int .i64 (wsumK p s r x y p.acts.length)) ∧ Below w.heap.size w w' := by
  have HV := Lib.hid hv
  obtain ⟨A1, c1, A2, c2, A3, c3, A4, c4, rfl, _⟩ := rdProject_t hv
  clear hv
  have HQ := Lib.hid hs
  obtain ⟨E1, f1, E2, f2, rfl, q1, q2⟩ := rdSchedule_t hs
  obtain ⟨ht1, B8, d8, he, x1⟩ := rdI (rd_flat q1)
  injection he with he _ he2
  subst he he2
  have X1 := Lib.hid x1
  obtain ⟨ht2, B9, d9, he, x2⟩ := rdI (rd_flat q2)
  injection he with he _ he2
  subst he he2
  have X2 := Lib.hid x2
  clear hs q1 q2 x1 x2
  have S0 := Lib.hid (((Sn.start w).box 36 [.int .i64 p.dl, .slice A1 p.acts.length c1, .slice A2 p.lks.length c2, .slice A3 p.ress.length c3, .slice A4 p.stk.length c4]).box 46 [.slice E1 s.st.length f1, .slice E2 s.mo.length f2])
  simp only [World.size_alloc] at S0
  go_enter Tryz.func157, Tryz.ntmps157
  have h6 := hf.n6
  have H1 := Lib.hid hf.h1
  have HF := Lib.hid hf
  rw [H1.out] at HQ S0 ⊢
  clear hf
  go_wp2
  go_loopw [11, 18] (fun q i wr => ∃ k : Nat, k ≤ p.acts.length ∧ i = .int .i64 k ∧ q = .int .i64 (wsumK p s r x y k) ∧ Sn w wr [boxI (w.heap.size + 1) 46 [.slice E1 p.acts.length f1, .slice E2 s.mo.length f2], boxI w.heap.size 36 [.int .i64 p.dl, .slice A1 p.acts.length c1, .slice A2 p.lks.length c2, .slice A3 p.ress.length c3, .slice A4 p.stk.length c4]]) (fun _ i _ => p.acts.length - (intOf i).toNat)
  case atStart => exact ⟨0, Nat.zero_le _, rfl, rfl, S0.out⟩
  case round =>
    obtain ⟨k, hkl, rfl, rfl, hS⟩ := hrel
    have S1 := Lib.hid hS
    clear hS S0
    by_cases hlt : k < p.acts.length
    · have hlt' : (k : Int) < (p.acts.length : Int) := by omega
      have k0 : (0 : Int) ≤ (k : Int) := by omega
      obtain ⟨b8, o8, rfl, hb8, hc8⟩ := X1.out k (by rw [H1.out]; exact hlt)
      have y8 := (S1.out.1.cell (p := ⟨b8, o8 + k, none⟩) hb8).trans (hc8 k (by rw [H1.out]; exact hlt))
      rw [← stA_at] at y8
      have hst := HF.out.st k hlt
      have hen := HF.out.en hlt
      have HT := Lib.hid (show wsumK p s r x y (k + 1) = wsumK p s r x y k + lastsA p s x y k * usA p s r k from rfl)
      have hs0 := wsum_hi HF.out hr x y k hkl
      have hl0 := lasts_hi HF.out hlt x y
      have ht0 := term_hi HF.out hr hlt x y
      have HL := Lib.hid (show lastsA p s x y k = max 0 (min (endA p s k) y - max (stA s k) x) from rfl)
      clear hc8
      obtain ⟨e0, e1, e2, e3, e4, ef⟩ := (S1.out.bk 1 rfl).c5
      obtain ⟨q0, q1, qf⟩ := (S1.out.bk 0 rfl).c2
      go_wp2_with fail
      clear e0 e1 e2 e3 e4 ef
      clear q0 q1 qf
      refine (implEnd_any p s k _ _ _ (by exact S1.out.old HV.out) (by exact S1.out.old HQ.out) HF.out hlt).mono ?_
      rintro e w2 ⟨rfl, b⟩
      have S2 := Lib.hid (S1.out.go b)
      clear S1 b
      clear y8
      generalize wsumK p s r x y k = su at HT hs0 ⊢
      generalize endA p s k = en at HL hen ⊢
      generalize stA s k = st at HL hst ⊢
      have hw1 : IntKind.i64.wrap (min en y - max st x) = min en y - max st x := by rw [IntKind.wrap_i64]; omega
      obtain ⟨e0, e1, e2, e3, e4, ef⟩ := (S2.out.bk 1 rfl).c5
      obtain ⟨q0, q1, qf⟩ := (S2.out.bk 0 rfl).c2
      go_wp2_with fail
      clear e0 e1 e2 e3 e4 ef
      clear q0 q1 qf
      refine (usageOf_any p s r k _ _ _ (by exact S2.out.old HV.out) (by exact S2.out.old HQ.out) HF.out hr hlt).mono ?_
      rintro e w3 ⟨rfl, b⟩
      have S3 := Lib.hid (S2.out.go b)
      clear S2 b
      rw [← HL.out]
      generalize lastsA p s x y k = la at HT hl0 ht0 HL ⊢
      generalize usA p s r k = ua at HT ht0 ⊢
      generalize hpr : la * ua = pr at HT ht0
      have hw2 : IntKind.i64.wrap (la * ua) = pr := by rw [hpr, IntKind.wrap_i64]; omega
      have hw3 : IntKind.i64.wrap (su + pr) = su + pr := by rw [IntKind.wrap_i64]; omega
      clear hpr hw1
      go_wp2
      go_roundw
      case rel => exact ⟨k + 1, by omega, by go_num, by rw [HT.out], S3.out⟩
      case measure => simp [intOf]; omega
    · have hge : ¬ (k : Int) < (p.acts.length : Int) := by omega
      obtain rfl : k = p.acts.length := by omega
      go_wp2
      go_ret
      exact ⟨rfl, S1.out.1⟩

set_option maxRecDepth 100000 in
set_option maxHeartbeats 8000000 in
theorem met_fin (p : Pj) (s : Sc) (a : Nat) (v u : Value) (w : World) (hv : (trPj p).rd w v) (hs : (trSc s).rd w u) (hf : Form p s) (ha : a < p.acts.length) :
    Calls Tryz.prog 152 #[.agg #[.int .i64 (a : Int)], v, u] w fun e w' => e = .returned (.bool (!failC p s (.fin (a : Int)))) ∧ Below w.heap.size w w' := by
  have HV := Lib.hid hv
  obtain ⟨A1, c1, A2, c2, A3, c3, A4, c4, rfl, _⟩ := rdProject_t hv
  clear hv
  have HQ := Lib.hid hs
  obtain ⟨E1, f1, E2, f2, rfl, q1, q2⟩ := rdSchedule_t hs
  obtain ⟨ht1, B8, d8, he, x1⟩ := rdI (rd_flat q1)
  injection he with he _ he2
  subst he he2
  have X1 := Lib.hid x1
  obtain ⟨ht2, B9, d9, he, x2⟩ := rdI (rd_flat q2)
  injection he with he _ he2
  subst he he2
  have X2 := Lib.hid x2
  clear hs q1 q2 x1 x2
  have S0 := Lib.hid ((((Sn.start w).box 121 [.int .i64 (a : Int)]).box 36 [.int .i64 p.dl, .slice A1 p.acts.length c1, .slice A2 p.lks.length c2, .slice A3 p.ress.length c3, .slice A4 p.stk.length c4]).box 46 [.slice E1 s.st.length f1, .slice E2 s.mo.length f2])
  simp only [World.size_alloc] at S0
  go_enter Tryz.func152, Tryz.ntmps152
  have HF := Lib.hid hf
  have HR := Lib.hid (show (!failC p s (.fin (a : Int))) = decide (endA p s a ≤ p.dl) from not_lt_dec _ _)
  clear hf
  go_wp2_with fail
  generalize World.alloc (World.alloc (World.alloc w _) _) _ = wv at S0 ⊢
  obtain ⟨e0, ef⟩ := (S0.out.bk 2 rfl).c1
  obtain ⟨p0, p1, p2, p3, p4, pf⟩ := (S0.out.bk 1 rfl).c5
  obtain ⟨q0, q1, qf⟩ := (S0.out.bk 0 rfl).c2
  have hl0 := (S0.out.bk 0 rfl).lt
  have hl1 := (S0.out.bk 1 rfl).lt
  have hl2 := (S0.out.bk 2 rfl).lt
  have S1 := Lib.hid S0.out.drew1
  have CE := Lib.hid (fun (W : World) (h : Wr [] wv.drew W) => show Hid (Wr [] wv.drew W) ∧ W.cell? ⟨w.heap.size, 0, none⟩ = some (.int .i64 (a : Int)) ∧ W.cell? ⟨w.heap.size + 1, 0, none⟩ = some (.int .i64 p.dl) ∧ W.cell? ⟨w.heap.size + 1, 1, none⟩ = some (.slice A1 p.acts.length c1) ∧ W.cell? ⟨w.heap.size + 1, 2, none⟩ = some (.slice A2 p.lks.length c2) ∧ W.cell? ⟨w.heap.size + 1, 3, none⟩ = some (.slice A3 p.ress.length c3) ∧ W.cell? ⟨w.heap.size + 1, 4, none⟩ = some (.slice A4 p.stk.length c4) ∧ W.cell? ⟨w.heap.size + 1 + 1, 0, none⟩ = some (.slice E1 s.st.length f1) ∧ W.cell? ⟨w.heap.size + 1 + 1, 1, none⟩ = some (.slice E2 s.mo.length f2) from ⟨Lib.hid h, (wr_cell h (p := ⟨w.heap.size, 0, none⟩) hl2 (by simp)).trans (by exact by simpa using e0), (wr_cell h (p := ⟨w.heap.size + 1, 0, none⟩) hl1 (by simp)).trans (by exact by simpa using p0), (wr_cell h (p := ⟨w.heap.size + 1, 1, none⟩) hl1 (by simp)).trans (by exact by simpa using p1), (wr_cell h (p := ⟨w.heap.size + 1, 2, none⟩) hl1 (by simp)).trans (by exact by simpa using p2), (wr_cell h (p := ⟨w.heap.size + 1, 3, none⟩) hl1 (by simp)).trans (by exact by simpa using p3), (wr_cell h (p := ⟨w.heap.size + 1, 4, none⟩) hl1 (by simp)).trans (by exact by simpa using p4), (wr_cell h (p := ⟨w.heap.size + 1 + 1, 0, none⟩) hl0 (by simp)).trans (by exact by simpa using q0), (wr_cell h (p := ⟨w.heap.size + 1 + 1, 1, none⟩) hl0 (by simp)).trans (by exact by simpa using q1)⟩)
  have INIT := Lib.hid (CE.out _ (Wr.refl _ _))
  have KW := Lib.hid (fun (W2 W : World) (hb : Wr [] W W2) (h : Hid (Wr [] wv.drew W) ∧ W.cell? ⟨w.heap.size, 0, none⟩ = some (.int .i64 (a : Int)) ∧ W.cell? ⟨w.heap.size + 1, 0, none⟩ = some (.int .i64 p.dl) ∧ W.cell? ⟨w.heap.size + 1, 1, none⟩ = some (.slice A1 p.acts.length c1) ∧ W.cell? ⟨w.heap.size + 1, 2, none⟩ = some (.slice A2 p.lks.length c2) ∧ W.cell? ⟨w.heap.size + 1, 3, none⟩ = some (.slice A3 p.ress.length c3) ∧ W.cell? ⟨w.heap.size + 1, 4, none⟩ = some (.slice A4 p.stk.length c4) ∧ W.cell? ⟨w.heap.size + 1 + 1, 0, none⟩ = some (.slice E1 s.st.length f1) ∧ W.cell? ⟨w.heap.size + 1 + 1, 1, none⟩ = some (.slice E2 s.mo.length f2)) => CE.out W2 (h.1.out.trans hb))
  clear e0 ef p0 p1 p2 p3 p4 pf q0 q1 qf
  go_region_held3 (fun W => Hid (Wr [] wv.drew W) ∧ W.cell? ⟨w.heap.size, 0, none⟩ = some (.int .i64 (a : Int)) ∧ W.cell? ⟨w.heap.size + 1, 0, none⟩ = some (.int .i64 p.dl) ∧ W.cell? ⟨w.heap.size + 1, 1, none⟩ = some (.slice A1 p.acts.length c1) ∧ W.cell? ⟨w.heap.size + 1, 2, none⟩ = some (.slice A2 p.lks.length c2) ∧ W.cell? ⟨w.heap.size + 1, 3, none⟩ = some (.slice A3 p.ress.length c3) ∧ W.cell? ⟨w.heap.size + 1, 4, none⟩ = some (.slice A4 p.stk.length c4) ∧ W.cell? ⟨w.heap.size + 1 + 1, 0, none⟩ = some (.slice E1 s.st.length f1) ∧ W.cell? ⟨w.heap.size + 1 + 1, 1, none⟩ = some (.slice E2 s.mo.length f2)) (first | exact INIT.out | exact KW.out _ _ (by assumption) (by assumption) | exact KW.out _ _ (Wr.of_below (by assumption) (Nat.le_refl _)) (by assumption) | exact KW.out _ _ (Wr.of_below ((Below.refl _ _).alloc (Nat.le_refl _) _) (Nat.le_refl _)) (by assumption))
    ((go_at_call 149; refine (implEnd_any p s a _ _ _ (by exact S1.out.old HV.out) (by exact S1.out.old HQ.out) HF.out ha).mono ?_; rintro e w5 ⟨rfl, b⟩; have S2 := Lib.hid (S1.out.go b)))
  rename_i hHeld
  clear hHeld CE INIT KW S1 b
  go_wp2
  go_ret
  exact ⟨ret_bZ HR.out.symm, S2.out.1⟩

set_option maxRecDepth 100000 in
set_option maxHeartbeats 8000000 in
theorem met_stk (p : Pj) (s : Sc) (a : Nat) (v u : Value) (w : World) (hv : (trPj p).rd w v) (hk : (trPj p).ok) (hs : (trSc s).rd w u) (hf : formB p s = true) (ha : a < p.stk.length) :
    Calls Tryz.prog 172 #[.agg #[.int .i64 (a : Int)], v, u] w fun e w' => e = .returned (.bool (!failC p s (.stk (a : Int)))) ∧ Below w.heap.size w w' := by
  have HK := Lib.hid hk
  have HV := Lib.hid hv
  obtain ⟨A1, c1, A2, c2, A3, c3, A4, c4, rfl, r1, r2, r3, r4⟩ := rdProject_t hv
  clear hv
  have HQ := Lib.hid hs
  obtain ⟨E1, f1, E2, f2, rfl, q1, q2⟩ := rdSchedule_t hs
  obtain ⟨ht1, B8, d8, he, x1⟩ := rdI (rd_flat q1)
  injection he with he _ he2
  subst he he2
  have X1 := Lib.hid x1
  obtain ⟨ht2, B9, d9, he, x2⟩ := rdI (rd_flat q2)
  injection he with he _ he2
  subst he he2
  have X2 := Lib.hid x2
  clear hs q1 q2 x1 x2
  have S0 := Lib.hid ((((Sn.start w).box 129 [.int .i64 (a : Int)]).box 36 [.int .i64 p.dl, .slice A1 p.acts.length c1, .slice A2 p.lks.length c2, .slice A3 p.ress.length c3, .slice A4 p.stk.length c4]).box 46 [.slice E1 s.st.length f1, .slice E2 s.mo.length f2])
  simp only [World.size_alloc] at S0
  go_enter Tryz.func172, Tryz.ntmps172
  obtain ⟨_, U4, u4, he, g4⟩ := rdI (rd_flat r4)
  injection he with he _ he2
  subst he he2
  obtain ⟨b4, o4, rfl, hb4, hc4⟩ := g4 a ha
  have hc4 := hc4 a ha
  rw [← skA_at] at hc4
  have HR := Lib.hid (show (!failC p s (.stk (a : Int))) = decide (conB p s (a : Int) ≤ skA p a) from by rw [con_yes hf ha]; exact not_lt_dec _ _)
  have ha' : (a : Int) < (p.stk.length : Int) := by omega
  have a0 : (0 : Int) ≤ (a : Int) := by omega
  clear hf hk g4 r1 r2 r3 r4
  go_wp2_with fail
  have y4 := (S0.out.1.cell (p := ⟨b4, o4 + a, none⟩) hb4).trans hc4
  generalize World.alloc (World.alloc (World.alloc w _) _) _ = wv at S0 y4 ⊢
  obtain ⟨e0, ef⟩ := (S0.out.bk 2 rfl).c1
  obtain ⟨p0, p1, p2, p3, p4, pf⟩ := (S0.out.bk 1 rfl).c5
  obtain ⟨q0, q1, qf⟩ := (S0.out.bk 0 rfl).c2
  have hl0 := (S0.out.bk 0 rfl).lt
  have hl1 := (S0.out.bk 1 rfl).lt
  have hl2 := (S0.out.bk 2 rfl).lt
  have hsz := S0.out.1.size
  have hb4' : b4 < wv.heap.size := by omega
  have S1 := Lib.hid S0.out.drew1
  generalize skA p a = sk at y4 HR
  have CE := Lib.hid (fun (W : World) (h : Wr [] wv.drew W) => show Hid (Wr [] wv.drew W) ∧ W.cell? ⟨w.heap.size, 0, none⟩ = some (.int .i64 (a : Int)) ∧ W.cell? ⟨w.heap.size + 1, 0, none⟩ = some (.int .i64 p.dl) ∧ W.cell? ⟨w.heap.size + 1, 1, none⟩ = some (.slice A1 p.acts.length c1) ∧ W.cell? ⟨w.heap.size + 1, 2, none⟩ = some (.slice A2 p.lks.length c2) ∧ W.cell? ⟨w.heap.size + 1, 3, none⟩ = some (.slice A3 p.ress.length c3) ∧ W.cell? ⟨w.heap.size + 1, 4, none⟩ = some (.slice (some ⟨b4, o4, none⟩) p.stk.length c4) ∧ W.cell? ⟨w.heap.size + 1 + 1, 0, none⟩ = some (.slice E1 s.st.length f1) ∧ W.cell? ⟨w.heap.size + 1 + 1, 1, none⟩ = some (.slice E2 s.mo.length f2) ∧ W.cell? ⟨b4, o4 + a, none⟩ = some (.int .i64 sk) from ⟨Lib.hid h, (wr_cell h (p := ⟨w.heap.size, 0, none⟩) hl2 (by simp)).trans (by exact by simpa using e0), (wr_cell h (p := ⟨w.heap.size + 1, 0, none⟩) hl1 (by simp)).trans (by exact by simpa using p0), (wr_cell h (p := ⟨w.heap.size + 1, 1, none⟩) hl1 (by simp)).trans (by exact by simpa using p1), (wr_cell h (p := ⟨w.heap.size + 1, 2, none⟩) hl1 (by simp)).trans (by exact by simpa using p2), (wr_cell h (p := ⟨w.heap.size + 1, 3, none⟩) hl1 (by simp)).trans (by exact by simpa using p3), (wr_cell h (p := ⟨w.heap.size + 1, 4, none⟩) hl1 (by simp)).trans (by exact by simpa using p4), (wr_cell h (p := ⟨w.heap.size + 1 + 1, 0, none⟩) hl0 (by simp)).trans (by exact by simpa using q0), (wr_cell h (p := ⟨w.heap.size + 1 + 1, 1, none⟩) hl0 (by simp)).trans (by exact by simpa using q1), (wr_cell h (p := ⟨b4, o4 + a, none⟩) hb4' (by simp)).trans (by exact by simpa using y4)⟩)
  have INIT := Lib.hid (CE.out _ (Wr.refl _ _))
  have KW := Lib.hid (fun (W2 W : World) (hb : Wr [] W W2) (h : Hid (Wr [] wv.drew W) ∧ W.cell? ⟨w.heap.size, 0, none⟩ = some (.int .i64 (a : Int)) ∧ W.cell? ⟨w.heap.size + 1, 0, none⟩ = some (.int .i64 p.dl) ∧ W.cell? ⟨w.heap.size + 1, 1, none⟩ = some (.slice A1 p.acts.length c1) ∧ W.cell? ⟨w.heap.size + 1, 2, none⟩ = some (.slice A2 p.lks.length c2) ∧ W.cell? ⟨w.heap.size + 1, 3, none⟩ = some (.slice A3 p.ress.length c3) ∧ W.cell? ⟨w.heap.size + 1, 4, none⟩ = some (.slice (some ⟨b4, o4, none⟩) p.stk.length c4) ∧ W.cell? ⟨w.heap.size + 1 + 1, 0, none⟩ = some (.slice E1 s.st.length f1) ∧ W.cell? ⟨w.heap.size + 1 + 1, 1, none⟩ = some (.slice E2 s.mo.length f2) ∧ W.cell? ⟨b4, o4 + a, none⟩ = some (.int .i64 sk)) => CE.out W2 (h.1.out.trans hb))
  clear e0 ef p0 p1 p2 p3 p4 pf q0 q1 qf y4 hc4
  go_region_held3 (fun W => Hid (Wr [] wv.drew W) ∧ W.cell? ⟨w.heap.size, 0, none⟩ = some (.int .i64 (a : Int)) ∧ W.cell? ⟨w.heap.size + 1, 0, none⟩ = some (.int .i64 p.dl) ∧ W.cell? ⟨w.heap.size + 1, 1, none⟩ = some (.slice A1 p.acts.length c1) ∧ W.cell? ⟨w.heap.size + 1, 2, none⟩ = some (.slice A2 p.lks.length c2) ∧ W.cell? ⟨w.heap.size + 1, 3, none⟩ = some (.slice A3 p.ress.length c3) ∧ W.cell? ⟨w.heap.size + 1, 4, none⟩ = some (.slice (some ⟨b4, o4, none⟩) p.stk.length c4) ∧ W.cell? ⟨w.heap.size + 1 + 1, 0, none⟩ = some (.slice E1 s.st.length f1) ∧ W.cell? ⟨w.heap.size + 1 + 1, 1, none⟩ = some (.slice E2 s.mo.length f2) ∧ W.cell? ⟨b4, o4 + a, none⟩ = some (.int .i64 sk)) (first | exact INIT.out | exact KW.out _ _ (by assumption) (by assumption) | exact KW.out _ _ (Wr.of_below (by assumption) (Nat.le_refl _)) (by assumption) | exact KW.out _ _ (Wr.of_below ((Below.refl _ _).alloc (Nat.le_refl _) _) (Nat.le_refl _)) (by assumption))
    ((go_at_call 174; refine (implConsumptionOf_any p s (a : Int) _ _ _ (by exact S1.out.old HV.out) HK.out (by exact S1.out.old HQ.out)).mono ?_; rintro e w5 ⟨rfl, b⟩; have S2 := Lib.hid (S1.out.go b)))
  rename_i hHeld
  clear hHeld CE INIT KW S1 b
  go_wp2
  go_ret
  exact ⟨ret_bZ HR.out.symm, S2.out.1⟩

end Go.Proofs.YtaglfdkeomjpdaaGreat
