/- DERIVED. CONTRACTS: SetupTime, of the model and of the program. -/
import Derived.Test.YtaglfdkeomjpdabPrE
import Derived.Test.YtaglfdkeomjpdabRegZ
namespace Go.Proofs.Ytaglfdkeomjpdab
open Go.RowKit Go.Shelf
set_option linter.unusedVariables false

noncomputable def setupT (p : Pj) (r a b : Int) : Int :=
  if pokB p = true ∧ machB p r = true then (match atI p.ress r, atI p.acts a, atI p.acts b with | some x, some y, some z => (x.su.getD y.fa.toNat []).getD z.fa.toNat 0 | _, _, _ => 0) else 0
theorem setupT_ok {p : Pj} {r a b : Int} (h : pokB p = false) : setupT p r a b = 0 := by rw [setupT, if_neg (by rw [h]; simp)]
theorem setupT_mach {p : Pj} {r a b : Int} (h : machB p r = false) : setupT p r a b = 0 := by rw [setupT, if_neg (by rw [h]; simp)]
theorem setupT_a {p : Pj} {r a b : Int} (h : ¬ (0 ≤ a ∧ a < (p.acts.length : Int))) : setupT p r a b = 0 := by
  rw [setupT, atI_no h]
  split
  · cases atI p.ress r <;> rfl
  · rfl
theorem setupT_b {p : Pj} {r a b : Int} (h : ¬ (0 ≤ b ∧ b < (p.acts.length : Int))) : setupT p r a b = 0 := by
  rw [setupT, atI_no h]
  split
  · cases atI p.ress r <;> cases atI p.acts a <;> rfl
  · rfl
theorem machB_in {p : Pj} {r : Int} (h : machB p r = true) : ∃ n : Nat, r = (n : Int) ∧ n < p.ress.length := by
  by_cases hr : 0 ≤ r ∧ r < (p.ress.length : Int)
  · exact ⟨r.toNat, by omega, by omega⟩
  · rw [machB_no hr] at h; cases h
theorem pok_ress {p : Pj} (h : pokB p = true) : ∀ x ∈ p.ress, rokB x = true := by
  simp only [pokB, Bool.and_eq_true, List.all_eq_true] at h
  exact h.2.2.2.2.2.2.2.1
theorem rok_su {x : Rs} (h : rokB x = true) (h0 : 0 < x.su.length) : x.su.length = 4 ∧ ∀ row ∈ x.su, row.length = 4 := by
  simp only [rokB, Bool.and_eq_true, Bool.or_eq_true, List.all_eq_true, decide_eq_true_eq] at h
  refine ⟨by omega, fun row hr => ?_⟩
  have := h.1 row hr
  simp only [rowB, Bool.and_eq_true, decide_eq_true_eq] at this
  omega
/-- The places that a setup time is read at. -/
theorem setupT_at {p : Pj} {n i j : Nat} (hok : pokB p = true) (hm : machB p (n : Int) = true) (hn : n < p.ress.length) (hi : i < p.acts.length) (hj : j < p.acts.length) :
    ∃ f g : Nat, p.acts[i].fa = (f : Int) ∧ p.acts[j].fa = (g : Int) ∧ ∃ (hf : f < p.ress[n].su.length) (hg : g < (p.ress[n].su[f]).length), setupT p (n : Int) (i : Int) (j : Int) = (p.ress[n].su[f])[g] := by
  have ha := (aok_modes ((pok_acts hok).2 _ (List.getElem_mem hi))).2.2
  have hb := (aok_modes ((pok_acts hok).2 _ (List.getElem_mem hj))).2.2
  have ha' := inB_iff.1 ha
  have hb' := inB_iff.1 hb
  have hm' := hm
  rw [machB_yes hn, decide_eq_true_eq] at hm'
  obtain ⟨h4, hrow⟩ := rok_su (pok_ress hok _ (List.getElem_mem hn)) (by omega)
  have hf : p.acts[i].fa.toNat < p.ress[n].su.length := by omega
  have hg : p.acts[j].fa.toNat < (p.ress[n].su[p.acts[i].fa.toNat]).length := by rw [hrow _ (List.getElem_mem hf)]; omega
  refine ⟨p.acts[i].fa.toNat, p.acts[j].fa.toNat, by omega, by omega, hf, hg, ?_⟩
  rw [setupT, if_pos ⟨hok, hm⟩, atI_yes hn, atI_yes hi, atI_yes hj]
  simp only [List.getD_eq_getElem?_getD]
  rw [List.getElem?_eq_getElem hf, Option.getD_some, List.getElem?_eq_getElem hg, Option.getD_some]

set_option maxRecDepth 100000 in
set_option maxHeartbeats 4000000 in
theorem specSetupTime_any (p : Pj) (r a b : Int) (v : Value) (w : World) (hv : (trPj p).rd w v) (hk : (trPj p).ok) :
    Calls Try.prog 6 #[v, .int .i64 r, .int .i64 a, .int .i64 b] w fun e w' => e = .returned (.int .i64 (setupT p r a b)) ∧ Below w.heap.size w w' := by
  have HV := Lib.hid hv
  have HK := Lib.hid hk
  obtain ⟨A1, c1, A2, c2, A3, c3, A4, c4, rfl, r1, r2, r3, r4⟩ := rdProject_t hv
  obtain ⟨hl1, B1, d1, he, g1⟩ := rdActivityS_t r1
  injection he with he _ he2
  subst he he2
  obtain ⟨hl3, B3, d3, he, g3⟩ := rdResourceS_t r3
  injection he with he _ he2
  subst he he2
  have G1 := Lib.hid g1
  have G3 := Lib.hid g3
  have R1 := Lib.hid r1
  clear hv r1 r2 r3 r4 g1 g3 hk
  generalize hres : setupT p r a b = res
  have RES := Lib.hid hres
  clear hres
  have S0 := Lib.hid ((Sn.start w).box 34 [.int .i64 p.dl, .slice A1 p.acts.length c1, .slice A2 p.lks.length c2, .slice A3 p.ress.length c3, .slice A4 p.stk.length c4])
  go_enter Try.func6, Try.ntmps6
  go_wp2_with fail
  refine (specProjectOk_any p _ _ (by exact S0.out.old HV.out) HK.out).mono ?_
  rintro e w1 ⟨rfl, bb⟩
  have S1 := Lib.hid (S0.out.go bb)
  clear S0 bb
  rcases hok : pokB p with _ | _
  · have HS := Lib.hid (setupT_ok (r := r) (a := a) (b := b) hok)
    clear hok
    go_wp2
    go_ret
    exact ⟨ret_numZ (by rw [← RES.out, HS.out]), S1.out.1⟩
  have HOK := Lib.hid hok
  clear hok
  obtain ⟨e0, e1, e2, e3, e4, ef⟩ := (S1.out.bk 0 rfl).c5
  have hbs := (S1.out.bk 0 rfl).lt
  go_wp2_with fail
  clear e0 e1 e2 e3 e4 ef hbs
  refine (specIsMachine_any p r _ _ (by exact S1.out.old HV.out)).mono ?_
  rintro e w2 ⟨rfl, bb⟩
  have S2 := Lib.hid (S1.out.go bb)
  clear S1 bb
  rcases hm : machB p r with _ | _
  · have HS := Lib.hid (setupT_mach (a := a) (b := b) hm)
    clear hm
    go_wp2
    go_ret
    exact ⟨ret_numZ (by rw [← RES.out, HS.out]), S2.out.1⟩
  obtain ⟨n, rfl, hn⟩ := machB_in hm
  have HMM := Lib.hid hm
  clear hm
  go_wp2_with fail
  refine (inD_any _ _ _ _).mono ?_
  rintro e wz ⟨rfl, hw⟩
  subst hw
  by_cases ha : 0 ≤ a ∧ a < (p.acts.length : Int)
  case neg =>
    have HS := Lib.hid (setupT_a (r := (n : Int)) (b := b) ha)
    rw [inB_no (n := a) (lo := 0) (hi := (p.acts.length : Int) - 1) (by omega)]
    clear ha
    go_wp2
    go_ret
    exact ⟨ret_numZ (by rw [← RES.out, HS.out]), S2.out.1⟩
  rw [inB_yes (n := a) (lo := 0) (hi := (p.acts.length : Int) - 1) (by omega)]
  go_wp2_with fail
  refine (inD_any _ _ _ _).mono ?_
  rintro e wz ⟨rfl, hw⟩
  subst hw
  by_cases hb : 0 ≤ b ∧ b < (p.acts.length : Int)
  case neg =>
    have HS := Lib.hid (setupT_b (r := (n : Int)) (a := a) hb)
    rw [inB_no (n := b) (lo := 0) (hi := (p.acts.length : Int) - 1) (by omega)]
    clear hb ha
    go_wp2
    go_ret
    exact ⟨ret_numZ (by rw [← RES.out, HS.out]), S2.out.1⟩
  rw [inB_yes (n := b) (lo := 0) (hi := (p.acts.length : Int) - 1) (by omega)]
  obtain ⟨i, rfl⟩ : ∃ i : Nat, a = (i : Int) := ⟨a.toNat, by omega⟩
  obtain ⟨j, rfl⟩ : ∃ j : Nat, b = (j : Int) := ⟨b.toNat, by omega⟩
  have hi : i < p.acts.length := by omega
  have hj : j < p.acts.length := by omega
  obtain ⟨f, g, hfa, hga, hf, hg, HT0⟩ := setupT_at HOK.out HMM.out hn hi hj
  have HT := Lib.hid HT0
  clear HT0
  obtain ⟨b3, o3, rfl, hb3, hc3⟩ := G3.out n hn
  obtain ⟨_, _, U, cu, _, y1, _, ru⟩ := hc3 n hn
  obtain ⟨hla, U', cu', he, gu⟩ := rdIntSS_t ru
  injection he with he hln he2
  clear hln
  subst he he2
  obtain ⟨b4, o4, rfl, hb4, hc4⟩ := gu f hf
  obtain ⟨R, cr, y2, rr⟩ := hc4 f hf
  obtain ⟨hlb, R', cr', he, gr⟩ := rdI (rd_flat rr)
  injection he with he hln he2
  clear hln
  subst he he2
  obtain ⟨b5, o5, rfl, hb5, hc5⟩ := gr g hg
  have y3 := hc5 g hg
  have z1 := (S2.out.1.cell (p := ⟨b3, o3 + n * 2 + 1, none⟩) hb3).trans y1
  have z2 := (S2.out.1.cell (p := ⟨b4, o4 + f, none⟩) hb4).trans y2
  have z3 := (S2.out.1.cell (p := ⟨b5, o5 + g, none⟩) hb5).trans y3
  have hf' : (f : Int) < (p.ress[n].su.length : Int) := by omega
  have hg' : (g : Int) < ((p.ress[n].su[f]).length : Int) := by omega
  clear ru gu hc4 rr gr hc5 y1 y2 y3 hc3 hla hlb
  obtain ⟨b1, o1, rfl, hb1, hc1⟩ := G1.out i hi
  obtain ⟨_, _, _, q1, _, _⟩ := hc1 i hi
  obtain ⟨_, _, _, q2, _, _⟩ := hc1 j hj
  have z4 := (S2.out.1.cell (p := ⟨b1, o1 + i * 3 + 1, none⟩) hb1).trans q1
  have z5 := (S2.out.1.cell (p := ⟨b1, o1 + j * 3 + 1, none⟩) hb1).trans q2
  rw [hfa] at z4
  rw [hga] at z5
  have hi' : (i : Int) < (p.acts.length : Int) := by omega
  have hj' : (j : Int) < (p.acts.length : Int) := by omega
  have hn' : (n : Int) < (p.ress.length : Int) := by omega
  clear hc1 q1 q2 hfa hga ha hb
  obtain ⟨e0, e1, e2, e3, e4, ef⟩ := (S2.out.bk 0 rfl).c5
  have hbs := (S2.out.bk 0 rfl).lt
  have S2x := S2.out.1
  have BX := Lib.hid S2x
  clear S2x S2
  generalize (p.ress[n].su[f])[g] = ans at z3 HT
  generalize (p.ress[n].su[f]).length = lr at z2 hg'
  generalize p.ress[n].su.length = ls at z1 hf'
  clear hf hg
  go_wp2
  go_quiet (fail)
  go_wp2
  go_ret
  exact ⟨ret_numZ (by rw [← RES.out, HT.out]), below_drewN BX.out _⟩

set_option maxRecDepth 100000 in
set_option maxHeartbeats 8000000 in
theorem setupBetween_any (su : List (List Int)) (A0 A1 I1 I2 : Option Addr) (ls a0 a1 k1 c1 k2 c2 : Nat) (n1 n2 : ByteArray) (f g : Nat) (w : World) (hr : (trSu su).rd w (.slice A1 su.length a1)) (hf : f < su.length) (hg : g < (su[f]).length) :
    Calls Try.prog 35 #[.agg #[.slice A0 ls a0, .slice A1 su.length a1], .agg #[.string n1, .int .i64 (f : Int), .slice I1 k1 c1], .agg #[.string n2, .int .i64 (g : Int), .slice I2 k2 c2]] w fun e w' => e = .returned (.int .i64 ((su[f])[g])) ∧ Below w.heap.size w w' := by
  obtain ⟨hla, U, cu, he, gu⟩ := rdIntSS_t hr
  injection he with he hln he2
  clear hln
  subst he he2
  obtain ⟨b4, o4, rfl, hb4, hc4⟩ := gu f hf
  obtain ⟨R, cr, y2, rr⟩ := hc4 f hf
  obtain ⟨hlb, R', cr', he, gr⟩ := rdI (rd_flat rr)
  injection he with he hln he2
  clear hln
  subst he he2
  obtain ⟨b5, o5, rfl, hb5, hc5⟩ := gr g hg
  have y3 := hc5 g hg
  have S0 := Lib.hid ((((Sn.start w).box 57 [.slice A0 ls a0, .slice (some ⟨b4, o4, none⟩) su.length a1]).box 68 [.string n1, .int .i64 (f : Int), .slice I1 k1 c1]).box 68 [.string n2, .int .i64 (g : Int), .slice I2 k2 c2])
  simp only [World.size_alloc] at S0
  have z2 := (S0.out.1.cell (p := ⟨b4, o4 + f, none⟩) hb4).trans y2
  have z3 := (S0.out.1.cell (p := ⟨b5, o5 + g, none⟩) hb5).trans y3
  have hf' : (f : Int) < (su.length : Int) := by omega
  have hg' : (g : Int) < ((su[f]).length : Int) := by omega
  have f0 : (0 : Int) ≤ (f : Int) := by omega
  have g0 : (0 : Int) ≤ (g : Int) := by omega
  clear hr gu hc4 rr gr hc5 y2 y3 hla hlb
  generalize (su[f])[g] = ans at z3 ⊢
  generalize (su[f]).length = lr at z2 hg'
  generalize su.length = lsu at S0 z2 z3 hf' ⊢
  clear hf hg
  go_enter Try.func35, Try.ntmps35
  go_wp2_with fail
  generalize World.alloc (World.alloc (World.alloc w _) _) _ = wv at S0 z2 z3 ⊢
  obtain ⟨e0, e1, ef⟩ := (S0.out.bk 2 rfl).c2
  obtain ⟨m0, m1, m2, mf⟩ := (S0.out.bk 1 rfl).c3
  obtain ⟨q0, q1, q2, qf⟩ := (S0.out.bk 0 rfl).c3
  have hl0 := (S0.out.bk 0 rfl).lt
  have hl1 := (S0.out.bk 1 rfl).lt
  have hl2 := (S0.out.bk 2 rfl).lt
  have hsz := S0.out.1.size
  have hb4' : b4 < wv.heap.size := by omega
  have hb5' : b5 < wv.heap.size := by omega
  have S1 := Lib.hid S0.out.drew1
  have CE := Lib.hid (fun (W : World) (h : Wr [] wv.drew W) => show Hid (Wr [] wv.drew W) ∧ W.cell? ⟨w.heap.size, 1, none⟩ = some (.slice (some ⟨b4, o4, none⟩) lsu a1) ∧ W.cell? ⟨w.heap.size + 1, 1, none⟩ = some (.int .i64 (f : Int)) ∧ W.cell? ⟨w.heap.size + 1 + 1, 1, none⟩ = some (.int .i64 (g : Int)) ∧ W.cell? ⟨b4, o4 + f, none⟩ = some (.slice (some ⟨b5, o5, none⟩) lr cr) ∧ W.cell? ⟨b5, o5 + g, none⟩ = some (.int .i64 ans) from ⟨Lib.hid h, (wr_cell h (p := ⟨w.heap.size, 1, none⟩) hl2 (by simp)).trans (by exact by simpa using e1), (wr_cell h (p := ⟨w.heap.size + 1, 1, none⟩) hl1 (by simp)).trans (by exact by simpa using m1), (wr_cell h (p := ⟨w.heap.size + 1 + 1, 1, none⟩) hl0 (by simp)).trans (by exact by simpa using q1), (wr_cell h (p := ⟨b4, o4 + f, none⟩) hb4' (by simp)).trans (by exact by simpa using z2), (wr_cell h (p := ⟨b5, o5 + g, none⟩) hb5' (by simp)).trans (by exact by simpa using z3)⟩)
  have INIT := Lib.hid (CE.out _ (Wr.refl _ _))
  have KW := Lib.hid (fun (W2 W : World) (hb : Wr [] W W2) (h : Hid (Wr [] wv.drew W) ∧ W.cell? ⟨w.heap.size, 1, none⟩ = some (.slice (some ⟨b4, o4, none⟩) lsu a1) ∧ W.cell? ⟨w.heap.size + 1, 1, none⟩ = some (.int .i64 (f : Int)) ∧ W.cell? ⟨w.heap.size + 1 + 1, 1, none⟩ = some (.int .i64 (g : Int)) ∧ W.cell? ⟨b4, o4 + f, none⟩ = some (.slice (some ⟨b5, o5, none⟩) lr cr) ∧ W.cell? ⟨b5, o5 + g, none⟩ = some (.int .i64 ans)) => CE.out W2 (h.1.out.trans hb))
  clear e0 e1 ef m0 m1 m2 mf q0 q1 q2 qf z2 z3
  go_region_held3 (fun W => Hid (Wr [] wv.drew W) ∧ W.cell? ⟨w.heap.size, 1, none⟩ = some (.slice (some ⟨b4, o4, none⟩) lsu a1) ∧ W.cell? ⟨w.heap.size + 1, 1, none⟩ = some (.int .i64 (f : Int)) ∧ W.cell? ⟨w.heap.size + 1 + 1, 1, none⟩ = some (.int .i64 (g : Int)) ∧ W.cell? ⟨b4, o4 + f, none⟩ = some (.slice (some ⟨b5, o5, none⟩) lr cr) ∧ W.cell? ⟨b5, o5 + g, none⟩ = some (.int .i64 ans)) (first | exact INIT.out | exact KW.out _ _ (by assumption) (by assumption) | exact KW.out _ _ (Wr.of_below (by assumption) (Nat.le_refl _)) (by assumption) | exact KW.out _ _ (Wr.of_below ((Below.refl _ _).alloc (Nat.le_refl _) _) (Nat.le_refl _)) (by assumption))
    (fail)
  go_wp2
  go_ret
  exact ⟨rfl, S1.out.1⟩

set_option maxRecDepth 100000 in
set_option maxHeartbeats 4000000 in
theorem implSetupTime_any (p : Pj) (r a b : Int) (v : Value) (w : World) (hv : (trPj p).rd w v) (hk : (trPj p).ok) :
    Calls Try.prog 8 #[v, .int .i64 r, .int .i64 a, .int .i64 b] w fun e w' => e = .returned (.int .i64 (setupT p r a b)) ∧ Below w.heap.size w w' := by
  have HV := Lib.hid hv
  have HK := Lib.hid hk
  obtain ⟨A1, c1, A2, c2, A3, c3, A4, c4, rfl, r1, r2, r3, r4⟩ := rdProject_t hv
  obtain ⟨hl1, B1, d1, he, g1⟩ := rdActivityS_t r1
  injection he with he _ he2
  subst he he2
  obtain ⟨hl3, B3, d3, he, g3⟩ := rdResourceS_t r3
  injection he with he _ he2
  subst he he2
  have G1 := Lib.hid g1
  have G3 := Lib.hid g3
  have R1 := Lib.hid r1
  clear hv r1 r2 r3 r4 g1 g3 hk
  generalize hres : setupT p r a b = res
  have RES := Lib.hid hres
  clear hres
  have S0 := Lib.hid ((Sn.start w).box 34 [.int .i64 p.dl, .slice A1 p.acts.length c1, .slice A2 p.lks.length c2, .slice A3 p.ress.length c3, .slice A4 p.stk.length c4])
  go_enter Try.func8, Try.ntmps8
  go_wp2_with fail
  refine (implIsMachine_any p r _ _ (by exact S0.out.old HV.out)).mono ?_
  rintro e w1 ⟨rfl, bb⟩
  have S1 := Lib.hid (S0.out.go bb)
  clear S0 bb
  rcases hm : machB p r with _ | _
  · have HS := Lib.hid (setupT_mach (a := a) (b := b) hm)
    clear hm
    go_wp2
    go_ret
    exact ⟨ret_numZ (by rw [← RES.out, HS.out]), S1.out.1⟩
  obtain ⟨n, rfl, hn⟩ := machB_in hm
  have HMM := Lib.hid hm
  clear hm
  obtain ⟨e0, e1, e2, e3, e4, ef⟩ := (S1.out.bk 0 rfl).c5
  have hbs := (S1.out.bk 0 rfl).lt
  go_wp2_with fail
  clear e0 e1 e2 e3 e4 ef hbs
  refine (implProjectOk_any p _ _ (by exact S1.out.old HV.out) HK.out).mono ?_
  rintro e w2 ⟨rfl, bb⟩
  have S2 := Lib.hid (S1.out.go bb)
  clear S1 bb
  rcases hok : pokB p with _ | _
  · have HS := Lib.hid (setupT_ok (r := (n : Int)) (a := a) (b := b) hok)
    clear hok
    go_wp2
    go_ret
    exact ⟨ret_numZ (by rw [← RES.out, HS.out]), S2.out.1⟩
  have HOK := Lib.hid hok
  clear hok
  obtain ⟨e0, e1, e2, e3, e4, ef⟩ := (S2.out.bk 0 rfl).c5
  have hbs := (S2.out.bk 0 rfl).lt
  by_cases ha : 0 ≤ a ∧ a < (p.acts.length : Int)
  case neg =>
    have HS := Lib.hid (setupT_a (r := (n : Int)) (b := b) ha)
    have HA := Lib.hid ha
    clear ha
    go_wp2_with fail
    clear e0 e1 e2 e3 e4 ef hbs
    refine (elemActivity_no p.acts a _ _ (by exact S2.out.old R1.out) HA.out).mono ?_
    rintro e w3 ⟨rfl, bb⟩
    have S3 := Lib.hid ((S2.out.go bb).box 68 [.string ⟨#[]⟩, .int .i64 0, .slice none 0 0])
    clear S2 bb
    obtain ⟨e0, e1, e2, e3, e4, ef⟩ := (S3.out.bk 1 rfl).c5
    have hbs := (S3.out.bk 1 rfl).lt
    by_cases hb : 0 ≤ b ∧ b < (p.acts.length : Int)
    · obtain ⟨j, rfl⟩ : ∃ j : Nat, b = (j : Int) := ⟨b.toNat, by omega⟩
      have hj : j < p.acts.length := by omega
      clear hb
      go_wp2_with fail
      clear e0 e1 e2 e3 e4 ef hbs
      refine (elemActivity_yes p.acts j hj _ _ (by exact S3.out.old R1.out)).mono ?_
      rintro e w4 ⟨_, _, rfl, _, bb⟩
      have HB := Lib.hid (S3.out.go bb).1
      clear S3 bb
      go_wp2
      go_ret
      exact ⟨ret_numZ (by rw [← RES.out, HS.out]), HB.out.alloc HB.out.size _⟩
    · have HB2 := Lib.hid hb
      clear hb
      go_wp2_with fail
      clear e0 e1 e2 e3 e4 ef hbs
      refine (elemActivity_no p.acts b _ _ (by exact S3.out.old R1.out) HB2.out).mono ?_
      rintro e w4 ⟨rfl, bb⟩
      have HB := Lib.hid (S3.out.go bb).1
      clear S3 bb
      go_wp2
      go_ret
      exact ⟨ret_numZ (by rw [← RES.out, HS.out]), HB.out.alloc HB.out.size _⟩
  obtain ⟨i, rfl⟩ : ∃ i : Nat, a = (i : Int) := ⟨a.toNat, by omega⟩
  have hi : i < p.acts.length := by omega
  clear ha
  go_wp2_with fail
  clear e0 e1 e2 e3 e4 ef hbs
  refine (elemActivity_yes p.acts i hi _ _ (by exact S2.out.old R1.out)).mono ?_
  rintro e w3 ⟨I2, i2, rfl, _, bb⟩
  have S3 := Lib.hid ((S2.out.go bb).box 68 [.string p.acts[i].nm, .int .i64 p.acts[i].fa, .slice I2 p.acts[i].ms.length i2])
  clear S2 bb
  obtain ⟨e0, e1, e2, e3, e4, ef⟩ := (S3.out.bk 1 rfl).c5
  have hbs := (S3.out.bk 1 rfl).lt
  by_cases hb : 0 ≤ b ∧ b < (p.acts.length : Int)
  case neg =>
    have HS := Lib.hid (setupT_b (r := (n : Int)) (a := (i : Int)) hb)
    have HB2 := Lib.hid hb
    clear hb
    go_wp2_with fail
    clear e0 e1 e2 e3 e4 ef hbs
    refine (elemActivity_no p.acts b _ _ (by exact S3.out.old R1.out) HB2.out).mono ?_
    rintro e w4 ⟨rfl, bb⟩
    have HB := Lib.hid (S3.out.go bb).1
    clear S3 bb
    go_wp2
    go_ret
    exact ⟨ret_numZ (by rw [← RES.out, HS.out]), HB.out.alloc HB.out.size _⟩
  obtain ⟨j, rfl⟩ : ∃ j : Nat, b = (j : Int) := ⟨b.toNat, by omega⟩
  have hj : j < p.acts.length := by omega
  clear hb
  go_wp2_with fail
  clear e0 e1 e2 e3 e4 ef hbs
  refine (elemActivity_yes p.acts j hj _ _ (by exact S3.out.old R1.out)).mono ?_
  rintro e w4 ⟨J2, j2, rfl, _, bb⟩
  have S4 := Lib.hid ((S3.out.go bb).box 68 [.string p.acts[j].nm, .int .i64 p.acts[j].fa, .slice J2 p.acts[j].ms.length j2])
  clear S3 bb
  go_wp2_with fail
  generalize w4.alloc _ = w5 at S4 ⊢
  obtain ⟨f, g, hfa, hga, hf, hg, HT0⟩ := setupT_at HOK.out HMM.out hn hi hj
  have HT := Lib.hid HT0
  clear HT0
  obtain ⟨b3, o3, rfl, hb3, hc3⟩ := G3.out n hn
  obtain ⟨U0, d0, U, cu, y0, y1, _, ru⟩ := hc3 n hn
  have RU := Lib.hid ru
  have z0 := (S4.out.1.cell (p := ⟨b3, o3 + n * 2, none⟩) hb3).trans y0
  have z1 := (S4.out.1.cell (p := ⟨b3, o3 + n * 2 + 1, none⟩) hb3).trans y1
  have hsz := S4.out.1.size
  have hb3' : b3 < w5.heap.size := by omega
  have HFF := Lib.hid hf
  have HGG := Lib.hid hg
  have hn' : (n : Int) < (p.ress.length : Int) := by omega
  obtain ⟨e0, e1, e2, e3, e4, ef⟩ := (S4.out.bk 2 rfl).c5
  obtain ⟨m0, m1, m2, mf⟩ := (S4.out.bk 1 rfl).c3
  obtain ⟨q0, q1, q2, qf⟩ := (S4.out.bk 0 rfl).c3
  have l2 := (S4.out.bk 2 rfl).lt
  have l1 := (S4.out.bk 1 rfl).lt
  have l0 := (S4.out.bk 0 rfl).lt
  rw [hfa] at m1
  rw [hga] at q1
  have S5 := Lib.hid S4.out.drew1
  generalize w3.heap.size = gb1 at S5 m0 m1 m2 l1 ⊢
  generalize w4.heap.size = gb2 at S5 q0 q1 q2 l0 ⊢
  generalize hls : p.ress[n].su.length = ls at z1
  generalize p.ress[n].st.length = lt at z0
  clear S4 hfa hga e0 e1 e2 e4 ru y0 y1 hc3 hb3 mf qf ef
  have CE := Lib.hid (fun (W : World) (h : Wr [] w5.drew W) => show Hid (Wr [] w5.drew W) ∧ W.cell? ⟨w.heap.size, 3, none⟩ = some (.slice (some ⟨b3, o3, none⟩) p.ress.length c3) ∧ W.cell? ⟨b3, o3 + n * 2, none⟩ = some (.slice U0 lt d0) ∧ W.cell? ⟨b3, o3 + n * 2 + 1, none⟩ = some (.slice U ls cu) ∧ W.cell? ⟨gb1, 0, none⟩ = some (.string p.acts[i].nm) ∧ W.cell? ⟨gb1, 1, none⟩ = some (.int .i64 (f : Int)) ∧ W.cell? ⟨gb1, 2, none⟩ = some (.slice I2 p.acts[i].ms.length i2) ∧ W.cell? ⟨gb2, 0, none⟩ = some (.string p.acts[j].nm) ∧ W.cell? ⟨gb2, 1, none⟩ = some (.int .i64 (g : Int)) ∧ W.cell? ⟨gb2, 2, none⟩ = some (.slice J2 p.acts[j].ms.length j2) from ⟨Lib.hid h, (wr_cell h (p := ⟨w.heap.size, 3, none⟩) l2 (by simp)).trans (by exact by simpa using e3), (wr_cell h (p := ⟨b3, o3 + n * 2, none⟩) hb3' (by simp)).trans (by exact by simpa using z0), (wr_cell h (p := ⟨b3, o3 + n * 2 + 1, none⟩) hb3' (by simp)).trans (by exact by simpa using z1), (wr_cell h (p := ⟨gb1, 0, none⟩) l1 (by simp)).trans (by exact by simpa using m0), (wr_cell h (p := ⟨gb1, 1, none⟩) l1 (by simp)).trans (by exact by simpa using m1), (wr_cell h (p := ⟨gb1, 2, none⟩) l1 (by simp)).trans (by exact by simpa using m2), (wr_cell h (p := ⟨gb2, 0, none⟩) l0 (by simp)).trans (by exact by simpa using q0), (wr_cell h (p := ⟨gb2, 1, none⟩) l0 (by simp)).trans (by exact by simpa using q1), (wr_cell h (p := ⟨gb2, 2, none⟩) l0 (by simp)).trans (by exact by simpa using q2)⟩)
  have INIT := Lib.hid (CE.out _ (Wr.refl _ _))
  have KW := Lib.hid (fun (W2 W : World) (hb : Wr [] W W2) (h : Hid (Wr [] w5.drew W) ∧ W.cell? ⟨w.heap.size, 3, none⟩ = some (.slice (some ⟨b3, o3, none⟩) p.ress.length c3) ∧ W.cell? ⟨b3, o3 + n * 2, none⟩ = some (.slice U0 lt d0) ∧ W.cell? ⟨b3, o3 + n * 2 + 1, none⟩ = some (.slice U ls cu) ∧ W.cell? ⟨gb1, 0, none⟩ = some (.string p.acts[i].nm) ∧ W.cell? ⟨gb1, 1, none⟩ = some (.int .i64 (f : Int)) ∧ W.cell? ⟨gb1, 2, none⟩ = some (.slice I2 p.acts[i].ms.length i2) ∧ W.cell? ⟨gb2, 0, none⟩ = some (.string p.acts[j].nm) ∧ W.cell? ⟨gb2, 1, none⟩ = some (.int .i64 (g : Int)) ∧ W.cell? ⟨gb2, 2, none⟩ = some (.slice J2 p.acts[j].ms.length j2)) => CE.out W2 (h.1.out.trans hb))
  clear e3 z0 z1 m0 m1 m2 q0 q1 q2 l0 l1 l2 hsz hb3'
  go_region_held3 (fun W => Hid (Wr [] w5.drew W) ∧ W.cell? ⟨w.heap.size, 3, none⟩ = some (.slice (some ⟨b3, o3, none⟩) p.ress.length c3) ∧ W.cell? ⟨b3, o3 + n * 2, none⟩ = some (.slice U0 lt d0) ∧ W.cell? ⟨b3, o3 + n * 2 + 1, none⟩ = some (.slice U ls cu) ∧ W.cell? ⟨gb1, 0, none⟩ = some (.string p.acts[i].nm) ∧ W.cell? ⟨gb1, 1, none⟩ = some (.int .i64 (f : Int)) ∧ W.cell? ⟨gb1, 2, none⟩ = some (.slice I2 p.acts[i].ms.length i2) ∧ W.cell? ⟨gb2, 0, none⟩ = some (.string p.acts[j].nm) ∧ W.cell? ⟨gb2, 1, none⟩ = some (.int .i64 (g : Int)) ∧ W.cell? ⟨gb2, 2, none⟩ = some (.slice J2 p.acts[j].ms.length j2)) (first | exact INIT.out | exact KW.out _ _ (by assumption) (by assumption) | exact KW.out _ _ (Wr.of_below (by assumption) (Nat.le_refl _)) (by assumption) | exact KW.out _ _ (Wr.of_below ((Below.refl _ _).alloc (Nat.le_refl _) _) (Nat.le_refl _)) (by assumption))
    ((go_at_call 35; subst hls; refine (setupBetween_any p.ress[n].su _ _ _ _ _ _ _ _ _ _ _ _ _ f g _ (by exact S5.out.old RU.out) HFF.out HGG.out).mono ?_; rintro e w6 ⟨rfl, bb⟩; have S6 := Lib.hid (S5.out.go bb)))
  rename_i hHeld
  clear hHeld CE INIT KW bb
  go_wp2
  go_ret
  exact ⟨ret_numZ (by rw [← RES.out, HT.out]), S6.out.1⟩
end Go.Proofs.Ytaglfdkeomjpdab
