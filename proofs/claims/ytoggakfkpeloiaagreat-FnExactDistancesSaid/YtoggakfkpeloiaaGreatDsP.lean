/- DERIVED. CONTRACTS of the model: Distances, l08Short, EarliestStarts, PathBound. -/
import Derived.Test.YtoggakfkpeloiaaGreatDsS
import Derived.Test.YtoggakfkpeloiaaGreatLkPt
import Derived.Test.YtoggakfkpeloiaaGreatPrD
namespace Go.Proofs.YtoggakfkpeloiaaGreat
open Go.RowKit Go.Shelf
set_option linter.unusedVariables false

theorem dist_yes {p : Pj} (h : okD p = true) : distL p = tabL p.acts.length (distT p) := by rw [distL, if_pos h]
theorem dist_no {p : Pj} (h : okD p = false) : distL p = [] := by rw [distL, h]; rfl

set_option maxRecDepth 100000 in
set_option maxHeartbeats 8000000 in
theorem specDistances_any (p : Pj) (v : Value) (w : World) (hv : (trPj p).rd w v) (hk : (trPj p).ok) :
    Calls Tryz.prog 11 #[v] w fun e w' => ∃ u F, e = .returned u ∧ (trSu (distL p)).own w' w.heap.size u F ∧ F.Nodup ∧ Below w.heap.size w w' := by
  have HV := Lib.hid hv
  obtain ⟨A1, c1, A2, c2, A3, c3, A4, c4, rfl, r1, r2, r3, r4⟩ := rdProject_t hv
  clear hv r1 r2 r3 r4
  have HK := Lib.hid hk
  clear hk
  have S0 := Lib.hid ((Sn.start w).box 35 [.int .i64 p.dl, .slice A1 p.acts.length c1, .slice A2 p.lks.length c2, .slice A3 p.ress.length c3, .slice A4 p.stk.length c4])
  go_enter Tryz.func11, Tryz.ntmps11
  obtain ⟨e0, e1, e2, e3, e4, ef⟩ := (S0.out.bk 0 rfl).c5
  go_wp2_with fail
  clear e0 e1 e2 e3 e4 ef
  refine (specProjectOk_any p _ _ (by exact S0.out.old HV.out) HK.out).mono ?_
  rintro e w1 ⟨rfl, b⟩
  have S1 := Lib.hid (S0.out.go b)
  clear S0 b
  rcases hok : pokB p with _ | _
  · have HS := Lib.hid (dist_no (okD_bad hok))
    clear hok
    go_wp2
    go_ret
    have hnil : ∀ W : World, (trSu (distL p)).own W w.heap.size (.slice none 0 0) [] := fun W => by rw [HS.out]; exact ⟨[], [], ⟨rfl, .inl ⟨rfl, rfl⟩⟩, ⟨rfl, rfl⟩, rfl⟩
    first
      | exact ⟨[], hnil _, List.nodup_nil, S1.out.1⟩
      | exact ⟨.slice none 0 0, [], rfl, hnil _, List.nodup_nil, S1.out.1⟩
      | exact ⟨.slice none 0 0, rfl, [], hnil _, List.nodup_nil, S1.out.1⟩
  obtain ⟨e0, e1, e2, e3, e4, ef⟩ := (S1.out.bk 0 rfl).c5
  have HOK := Lib.hid hok
  clear hok
  go_wp2_with fail
  clear e0 e1 e2 e3 e4 ef
  refine (specPositive_any p _ _ (by exact S1.out.old HV.out) HK.out).mono ?_
  rintro e w2 ⟨u, F, rfl, ou, hnu, b⟩
  obtain ⟨U, cu, rfl⟩ := slice_ints (Tr.own_rd _ _ _ ou)
  have S2 := Lib.hid (S1.out.go b)
  clear S1 b ou hnu
  by_cases hpo : posB p = []
  · have OKD := Lib.hid (dist_yes (okD_yes HOK.out hpo))
    rw [hpo]
    clear hpo
    have hlen0 : (([] : List Int).length : Int) = 0 := rfl
    obtain ⟨e0, e1, e2, e3, e4, ef⟩ := (S2.out.bk 0 rfl).c5
    go_wp2_with fail
    clear e0 e1 e2 e3 e4 ef
    refine (specDist_any p _ _ (by exact S2.out.old HV.out) HOK.out).mono ?_
    rintro e w5 ⟨u5, F5, rfl, o5, hn5, b5⟩
    have S5 := Lib.hid (S2.out.new o5 hn5 b5)
    clear o5 hn5 b5 S2
    go_wp2
    go_ret
    first
      | exact ⟨_, rfl, _, by rw [OKD.out]; exact (S5.out.own 0 rfl).1, (S5.out.own 0 rfl).2, S5.out.1⟩
      | exact ⟨_, _, rfl, by rw [OKD.out]; exact (S5.out.own 0 rfl).1, (S5.out.own 0 rfl).2, S5.out.1⟩
      | exact ⟨_, by rw [OKD.out]; exact (S5.out.own 0 rfl).1, (S5.out.own 0 rfl).2, S5.out.1⟩
  · have HS := Lib.hid (dist_no (okD_ring hpo))
    have hpl : (posB p).length ≠ 0 := fun e => hpo (List.length_eq_zero_iff.1 e)
    have hpl' : (0 : Int) < ((posB p).length : Int) := by omega
    generalize (posB p).length = np at hpl' ⊢
    clear hpo hpl
    go_wp2
    go_ret
    have hnil : ∀ W : World, (trSu (distL p)).own W w.heap.size (.slice none 0 0) [] := fun W => by rw [HS.out]; exact ⟨[], [], ⟨rfl, .inl ⟨rfl, rfl⟩⟩, ⟨rfl, rfl⟩, rfl⟩
    first
      | exact ⟨[], hnil _, List.nodup_nil, S2.out.1⟩
      | exact ⟨.slice none 0 0, [], rfl, hnil _, List.nodup_nil, S2.out.1⟩
      | exact ⟨.slice none 0 0, rfl, [], hnil _, List.nodup_nil, S2.out.1⟩

set_option maxRecDepth 100000 in
set_option maxHeartbeats 8000000 in
theorem specShort_any (p : Pj) (k : Nat) (v : Value) (w : World) (hv : (trPj p).rd w v) (hlt : k < p.acts.length) :
    Calls Tryz.prog 56 #[v, .int .i64 (k : Int)] w fun e w' => e = .returned (.int .i64 (shortA p k)) ∧ Below w.heap.size w w' := by
  have HV := Lib.hid hv
  obtain ⟨A1, c1, A2, c2, A3, c3, A4, c4, rfl, r1, r2, r3, r4⟩ := rdProject_t hv
  obtain ⟨hl2, B2, d2, he, g2⟩ := rdLinkS_t r2
  injection he with he _ he2
  subst he he2
  have G2 := Lib.hid g2
  obtain ⟨hl1, B1, d1, he, g1⟩ := rdActivityS_t r1
  injection he with he _ he2
  subst he he2
  have G1 := Lib.hid g1
  clear hv r1 r2 r3 r4 g1 g2
  have S0 := Lib.hid ((Sn.start w).box 35 [.int .i64 p.dl, .slice A1 p.acts.length c1, .slice A2 p.lks.length c2, .slice A3 p.ress.length c3, .slice A4 p.stk.length c4])
  obtain ⟨b1, o1, rfl, hb1, hc1⟩ := G1.out k hlt
  obtain ⟨M, cm, x0, x1, x2, rm⟩ := hc1 k hlt
  have RA := Lib.hid (mk_rdActivity_t (d := p.acts[k]) rm)
  have hlt' : (k : Int) < (p.acts.length : Int) := by omega
  have hk0 : (0 : Int) ≤ (k : Int) := by omega
  have z0 := (S0.out.1.cell (p := ⟨b1, o1 + k * 3, none⟩) hb1).trans x0
  have z1 := (S0.out.1.cell (p := ⟨b1, o1 + k * 3 + 1, none⟩) hb1).trans x1
  have z2 := (S0.out.1.cell (p := ⟨b1, o1 + k * 3 + 2, none⟩) hb1).trans x2
  have DE := Lib.hid (shortA_at (p := p) (i := k) hlt)
  clear hc1 rm x0 x1 x2
  go_enter Tryz.func56, Tryz.ntmps56
  obtain ⟨e0, e1, e2, e3, e4, ef⟩ := (S0.out.bk 0 rfl).c5
  go_wp2_with fail
  generalize World.alloc w _ = wv at S0 e0 e1 e2 e3 e4 ef z0 z1 z2 ⊢
  have hl := (S0.out.bk 0 rfl).lt
  have hb1v := Nat.lt_of_lt_of_le hb1 S0.out.1.size
  have CE := Lib.hid (fun (W : World) (h : Below wv.heap.size wv W) => show Hid (Below wv.heap.size wv W) ∧ W.cell? ⟨w.heap.size, 1, none⟩ = some (.slice (some ⟨b1, o1, none⟩) p.acts.length c1) ∧ W.cell? ⟨b1, o1 + k * 3, none⟩ = some (.string p.acts[k].nm) ∧ W.cell? ⟨b1, o1 + k * 3 + 1, none⟩ = some (.int .i64 p.acts[k].fa) ∧ W.cell? ⟨b1, o1 + k * 3 + 2, none⟩ = some (.slice M p.acts[k].ms.length cm) from ⟨Lib.hid h, (h.cell (p := ⟨w.heap.size, 1, none⟩) hl).trans e1, (h.cell (p := ⟨b1, o1 + k * 3, none⟩) hb1v).trans z0, (h.cell (p := ⟨b1, o1 + k * 3 + 1, none⟩) hb1v).trans z1, (h.cell (p := ⟨b1, o1 + k * 3 + 2, none⟩) hb1v).trans z2⟩)
  have INIT := Lib.hid (CE.out _ (Below.refl _ _).drew)
  have KEEP := Lib.hid (fun (W2 W : World) (hb2 : Below W.heap.size W W2) (h : Hid (Below wv.heap.size wv W) ∧ W.cell? ⟨w.heap.size, 1, none⟩ = some (.slice (some ⟨b1, o1, none⟩) p.acts.length c1) ∧ W.cell? ⟨b1, o1 + k * 3, none⟩ = some (.string p.acts[k].nm) ∧ W.cell? ⟨b1, o1 + k * 3 + 1, none⟩ = some (.int .i64 p.acts[k].fa) ∧ W.cell? ⟨b1, o1 + k * 3 + 2, none⟩ = some (.slice M p.acts[k].ms.length cm)) => CE.out W2 (h.1.out.trans (hb2.mono h.1.out.size)))
  have S1 := Lib.hid S0.out.drew1
  clear S0 e0 e1 e2 e3 e4 ef z0 z1 z2 hl hb1v
  go_region_held3 (fun W => Hid (Below wv.heap.size wv W) ∧ W.cell? ⟨w.heap.size, 1, none⟩ = some (.slice (some ⟨b1, o1, none⟩) p.acts.length c1) ∧ W.cell? ⟨b1, o1 + k * 3, none⟩ = some (.string p.acts[k].nm) ∧ W.cell? ⟨b1, o1 + k * 3 + 1, none⟩ = some (.int .i64 p.acts[k].fa) ∧ W.cell? ⟨b1, o1 + k * 3 + 2, none⟩ = some (.slice M p.acts[k].ms.length cm)) (first | exact INIT.out | exact KEEP.out _ _ (by assumption) (by assumption))
    (first
      | (go_at_call 89; refine (specModeIndexes_any p.acts[k] _ _ (by exact S1.out.old RA.out)).mono ?_; rintro e w5 ⟨v5, rfl, o5, b5⟩; have S5 := Lib.hid (S1.out.new (flat_own (by simpa using o5)).1 (flat_own (by simpa using o5)).2 b5); clear o5)
      | (go_at_call 88; refine (specMinDuration_any p.acts[k] (rangeB (p.acts[k].ms.length : Int)) _ _ _ (by exact S5.out.old RA.out) (by exact rd_flat (S5.out.rd 0 rfl))).mono ?_; rintro e w6 ⟨rfl, b6⟩; rw [← DE.out]; have S6 := Lib.hid (S5.out.go b6)))
  clear CE INIT KEEP S1 S5
  go_wp2
  go_ret
  exact ⟨rfl, S6.out.1⟩

end Go.Proofs.YtoggakfkpeloiaaGreat
