/- DERIVED. CONTRACTS: SetupTime, of the model and of the program. -/
import Derived.Test.YtaglfdkeomjpdaaGreatPrE
import Derived.Test.YtaglfdkeomjpdaaGreatRegZ
namespace Go.Proofs.YtaglfdkeomjpdaaGreat
open Go.RowKit Go.Shelf
set_option linter.unusedVariables false

noncomputable def setupT (p : Pj) (r a b : Int) : Int :=
  if pokB p = true ∧ machB p r = true then (match atI p.ress r, atI p.acts a, atI p.acts b with | some x, some y, some z => (x.su.getD y.fa.toNat []).getD z.fa.toNat 0 | _, _, _ => 0) else 0
theorem setupT_ok {p : Pj} {r a b : Int} (h : pokB p = false) : setupT p r a b = 0 := by rw [setupT, if_neg (by rw [h]; simp)]
theorem setupT_mach {p : Pj} {r a b : Int} (h : machB p r = false) : setupT p r a b = 0 := by rw [setupT, if_neg (by rw [h]; simp)]
theorem setupT_a {p : Pj} {r a b : Int} (h : ¬ (0 ≤ a ∧ a < (p.acts.length : Int))) : setupT p r a b = 0 := by
  rw [setupT, atI_no h]
  split
  · cases atI p.ress r <;> rfl
  · rfl
theorem setupT_b {p : Pj} {r a b : Int} (h : ¬ (0 ≤ b ∧ b < (p.acts.length : Int))) : setupT p r a b = 0 := by
  rw [setupT, atI_no h]
  split
  · cases atI p.ress r <;> cases atI p.acts a <;> rfl
  · rfl
theorem machB_in {p : Pj} {r : Int} (h : machB p r = true) : ∃ n : Nat, r = (n : Int) ∧ n < p.ress.length := by
  by_cases hr : 0 ≤ r ∧ r < (p.ress.length : Int)
  · exact ⟨r.toNat, by omega, by omega⟩
  · rw [machB_no hr] at h; cases h
theorem pok_ress {p : Pj} (h : pokB p = true) : ∀ x ∈ p.ress, rokB x = true := by
  simp only [pokB, Bool.and_eq_true, List.all_eq_true] at h
  exact h.2.2.2.2.2.2.2.1
theorem rok_su {x : Rs} (h : rokB x = true) (h0 : 0 < x.su.length) : x.su.length = 4 ∧ ∀ row ∈ x.su, row.length = 4 := by
  simp only [rokB, Bool.and_eq_true, Bool.or_eq_true, List.all_eq_true, decide_eq_true_eq] at h
  refine ⟨by omega, fun row hr => ?_⟩
  have := h.1 row hr
  simp only [rowB, Bool.and_eq_true, decide_eq_true_eq] at this
  omega
/-- The places that a setup time is read at. -/
theorem setupT_at {p : Pj} {n i j : Nat} (hok : pokB p = true) (hm : machB p (n : Int) = true) (hn : n < p.ress.length) (hi : i < p.acts.length) (hj : j < p.acts.length) :
    ∃ f g : Nat, p.acts[i].fa = (f : Int) ∧ p.acts[j].fa = (g : Int) ∧ ∃ (hf : f < p.ress[n].su.length) (hg : g < (p.ress[n].su[f]).length), setupT p (n : Int) (i : Int) (j : Int) = (p.ress[n].su[f])[g] := by
  have ha := (aok_modes ((pok_acts hok).2 _ (List.getElem_mem hi))).2.2
  have hb := (aok_modes ((pok_acts hok).2 _ (List.getElem_mem hj))).2.2
  have ha' := inB_iff.1 ha
  have hb' := inB_iff.1 hb
  have hm' := hm
  rw [machB_yes hn, decide_eq_true_eq] at hm'
  obtain ⟨h4, hrow⟩ := rok_su (pok_ress hok _ (List.getElem_mem hn)) (by omega)
  have hf : p.acts[i].fa.toNat < p.ress[n].su.length := by omega
  have hg : p.acts[j].fa.toNat < (p.ress[n].su[p.acts[i].fa.toNat]).length := by rw [hrow _ (List.getElem_mem hf)]; omega
  refine ⟨p.acts[i].fa.toNat, p.acts[j].fa.toNat, by omega, by omega, hf, hg, ?_⟩
  rw [setupT, if_pos ⟨hok, hm⟩, atI_yes hn, atI_yes hi, atI_yes hj]
  simp only [List.getD_eq_getElem?_getD]
  rw [List.getElem?_eq_getElem hf, Option.getD_some, List.getElem?_eq_getElem hg, Option.getD_some]

set_option maxRecDepth 100000 in
set_option maxHeartbeats 8000000 in
theorem setupBetween_any (su : List (List Int)) (A0 A1 I1 I2 : Option Addr) (ls a0 a1 k1 c1 k2 c2 : Nat) (n1 n2 : ByteArray) (f g : Nat) (w : World) (hr : (trSu su).rd w (.slice A1 su.length a1)) (hf : f < su.length) (hg : g < (su[f]).length) :
    Calls Tryz.prog 170 #[.agg #[.slice A0 ls a0, .slice A1 su.length a1], .agg #[.string n1, .int .i64 (f : Int), .slice I1 k1 c1], .agg #[.string n2, .int .i64 (g : Int), .slice I2 k2 c2]] w fun e w' => e = .returned (.int .i64 ((su[f])[g])) ∧ Below w.heap.size w w' := by
  obtain ⟨hla, U, cu, he, gu⟩ := rdIntSS_t hr
  injection he with he hln he2
  clear hln
  subst he he2
  obtain ⟨b4, o4, rfl, hb4, hc4⟩ := gu f hf
  obtain ⟨R, cr, y2, rr⟩ := hc4 f hf
  obtain ⟨hlb, R', cr', he, gr⟩ := rdI (rd_flat rr)
  injection he with he hln he2
  clear hln
  subst he he2
  obtain ⟨b5, o5, rfl, hb5, hc5⟩ := gr g hg
  have y3 := hc5 g hg
  have S0 := Lib.hid ((((Sn.start w).box 103 [.slice A0 ls a0, .slice (some ⟨b4, o4, none⟩) su.length a1]).box 98 [.string n1, .int .i64 (f : Int), .slice I1 k1 c1]).box 98 [.string n2, .int .i64 (g : Int), .slice I2 k2 c2])
  simp only [World.size_alloc] at S0
  have z2 := (S0.out.1.cell (p := ⟨b4, o4 + f, none⟩) hb4).trans y2
  have z3 := (S0.out.1.cell (p := ⟨b5, o5 + g, none⟩) hb5).trans y3
  have hf' : (f : Int) < (su.length : Int) := by omega
  have hg' : (g : Int) < ((su[f]).length : Int) := by omega
  have f0 : (0 : Int) ≤ (f : Int) := by omega
  have g0 : (0 : Int) ≤ (g : Int) := by omega
  clear hr gu hc4 rr gr hc5 y2 y3 hla hlb
  generalize (su[f])[g] = ans at z3 ⊢
  generalize (su[f]).length = lr at z2 hg'
  generalize su.length = lsu at S0 z2 z3 hf' ⊢
  clear hf hg
  go_enter Tryz.func170, Tryz.ntmps170
  go_wp2_with fail
  generalize World.alloc (World.alloc (World.alloc w _) _) _ = wv at S0 z2 z3 ⊢
  obtain ⟨e0, e1, ef⟩ := (S0.out.bk 2 rfl).c2
  obtain ⟨m0, m1, m2, mf⟩ := (S0.out.bk 1 rfl).c3
  obtain ⟨q0, q1, q2, qf⟩ := (S0.out.bk 0 rfl).c3
  have hl0 := (S0.out.bk 0 rfl).lt
  have hl1 := (S0.out.bk 1 rfl).lt
  have hl2 := (S0.out.bk 2 rfl).lt
  have hsz := S0.out.1.size
  have hb4' : b4 < wv.heap.size := by omega
  have hb5' : b5 < wv.heap.size := by omega
  have S1 := Lib.hid S0.out.drew1
  have CE := Lib.hid (fun (W : World) (h : Wr [] wv.drew W) => show Hid (Wr [] wv.drew W) ∧ W.cell? ⟨w.heap.size, 1, none⟩ = some (.slice (some ⟨b4, o4, none⟩) lsu a1) ∧ W.cell? ⟨w.heap.size + 1, 1, none⟩ = some (.int .i64 (f : Int)) ∧ W.cell? ⟨w.heap.size + 1 + 1, 1, none⟩ = some (.int .i64 (g : Int)) ∧ W.cell? ⟨b4, o4 + f, none⟩ = some (.slice (some ⟨b5, o5, none⟩) lr cr) ∧ W.cell? ⟨b5, o5 + g, none⟩ = some (.int .i64 ans) from ⟨Lib.hid h, (wr_cell h (p := ⟨w.heap.size, 1, none⟩) hl2 (by simp)).trans (by exact by simpa using e1), (wr_cell h (p := ⟨w.heap.size + 1, 1, none⟩) hl1 (by simp)).trans (by exact by simpa using m1), (wr_cell h (p := ⟨w.heap.size + 1 + 1, 1, none⟩) hl0 (by simp)).trans (by exact by simpa using q1), (wr_cell h (p := ⟨b4, o4 + f, none⟩) hb4' (by simp)).trans (by exact by simpa using z2), (wr_cell h (p := ⟨b5, o5 + g, none⟩) hb5' (by simp)).trans (by exact by simpa using z3)⟩)
  have INIT := Lib.hid (CE.out _ (Wr.refl _ _))
  have KW := Lib.hid (fun (W2 W : World) (hb : Wr [] W W2) (h : Hid (Wr [] wv.drew W) ∧ W.cell? ⟨w.heap.size, 1, none⟩ = some (.slice (some ⟨b4, o4, none⟩) lsu a1) ∧ W.cell? ⟨w.heap.size + 1, 1, none⟩ = some (.int .i64 (f : Int)) ∧ W.cell? ⟨w.heap.size + 1 + 1, 1, none⟩ = some (.int .i64 (g : Int)) ∧ W.cell? ⟨b4, o4 + f, none⟩ = some (.slice (some ⟨b5, o5, none⟩) lr cr) ∧ W.cell? ⟨b5, o5 + g, none⟩ = some (.int .i64 ans)) => CE.out W2 (h.1.out.trans hb))
  clear e0 e1 ef m0 m1 m2 mf q0 q1 q2 qf z2 z3
  go_region_held3 (fun W => Hid (Wr [] wv.drew W) ∧ W.cell? ⟨w.heap.size, 1, none⟩ = some (.slice (some ⟨b4, o4, none⟩) lsu a1) ∧ W.cell? ⟨w.heap.size + 1, 1, none⟩ = some (.int .i64 (f : Int)) ∧ W.cell? ⟨w.heap.size + 1 + 1, 1, none⟩ = some (.int .i64 (g : Int)) ∧ W.cell? ⟨b4, o4 + f, none⟩ = some (.slice (some ⟨b5, o5, none⟩) lr cr) ∧ W.cell? ⟨b5, o5 + g, none⟩ = some (.int .i64 ans)) (first | exact INIT.out | exact KW.out _ _ (by assumption) (by assumption) | exact KW.out _ _ (Wr.of_below (by assumption) (Nat.le_refl _)) (by assumption) | exact KW.out _ _ (Wr.of_below ((Below.refl _ _).alloc (Nat.le_refl _) _) (Nat.le_refl _)) (by assumption))
    (fail)
  go_wp2
  go_ret
  exact ⟨rfl, S1.out.1⟩

end Go.Proofs.YtaglfdkeomjpdaaGreat
