/- DERIVED. CONTRACTS: the gap of a link, of the model and of the program. -/
import Derived.Test.YtoggakfkpeloiaaGreatLkG
namespace Go.Proofs.YtoggakfkpeloiaaGreat
open Go.RowKit Go.Shelf
set_option linter.unusedVariables false

set_option maxRecDepth 100000 in
set_option maxHeartbeats 4000000 in
theorem specAll_any (p : Pj) (k : Nat) (v : Value) (w : World) (hv : (trPj p).rd w v) (hok : pokB p = true) (hlt : k < p.lks.length) :
    Calls Tryz.prog 71 #[v, .int .i64 (k : Int)] w fun e w' => e = .returned (.int .i64 (gapA p p.lks[k])) ∧ Below w.heap.size w w' := by
  have HV := Lib.hid hv
  obtain ⟨A1, c1, A2, c2, A3, c3, A4, c4, rfl, r1, r2, r3, r4⟩ := rdProject_t hv
  obtain ⟨hl2, B2, d2, he, g2⟩ := rdLinkS_t r2
  injection he with he _ he2
  subst he he2
  have G2 := Lib.hid g2
  obtain ⟨hl1, B1, d1, he, g1⟩ := rdActivityS_t r1
  injection he with he _ he2
  subst he he2
  have G1 := Lib.hid g1
  clear hv r1 r2 r3 r4 g1 g2
  have hlt' : (k : Int) < (p.lks.length : Int) := by omega
  obtain ⟨b, o, rfl, hb, hc⟩ := G2.out k hlt
  obtain ⟨y0, y1, y2, y3⟩ := hc k hlt
  have LOK := (pok_lks hok).2 _ (List.getElem_mem hlt)
  obtain ⟨n, hn⟩ : ∃ n : Nat, p.lks[k].fr = (n : Int) := ⟨p.lks[k].fr.toNat, by have := LOK.1; omega⟩
  have hn2 : n < p.acts.length := by have := LOK.1; omega
  have hn2' : (n : Int) < (p.acts.length : Int) := by omega
  have HG := Lib.hid (show gapA p p.lks[k] = gapB p p.lks[k] (rangeB (p.acts[n].ms.length : Int)) by rw [gapA, hn, msAt_yes hn2])
  rw [hn] at y0
  obtain ⟨b1, o1, rfl, hb1, hc1⟩ := G1.out n hn2
  obtain ⟨M, cm, x0, x1, x2, rm⟩ := hc1 n hn2
  have RA := Lib.hid (mk_rdActivity_t (d := p.acts[n]) rm)
  clear hc1 rm hc LOK hn
  have HOK := Lib.hid hok
  clear hok
  have S1 := Lib.hid ((Sn.start w).box 35 [.int .i64 p.dl, .slice (some ⟨b1, o1, none⟩) p.acts.length c1, .slice (some ⟨b, o, none⟩) p.lks.length c2, .slice A3 p.ress.length c3, .slice A4 p.stk.length c4])
  go_enter Tryz.func71, Tryz.ntmps71
  go_wp2_with fail
  generalize World.alloc w _ = wv at S1 ⊢
  obtain ⟨e0, e1, e2, e3, e4, ef⟩ := (S1.out.bk 0 rfl).c5
  have z0 := (S1.out.1.cell (p := ⟨b1, o1 + n * 3, none⟩) hb1).trans x0
  have z1 := (S1.out.1.cell (p := ⟨b1, o1 + n * 3 + 1, none⟩) hb1).trans x1
  have z2 := (S1.out.1.cell (p := ⟨b1, o1 + n * 3 + 2, none⟩) hb1).trans x2
  have hx0 := (S1.out.1.cell (p := ⟨b, o + k * 4, none⟩) hb).trans y0
  have S2 := Lib.hid S1.out.drew1
  clear S1
  go_region_with (first
    | (go_at_call 89; refine (specModeIndexes_any p.acts[n] _ _ (by exact S2.out.old RA.out)).mono ?_; rintro e w5 ⟨v5, rfl, o5, b5⟩; have S5 := Lib.hid (S2.out.new (flat_own (by simpa using o5)).1 (flat_own (by simpa using o5)).2 b5); obtain ⟨g0, g1, g2, g3, g4, gf⟩ := (S5.out.bk 1 rfl).c5; clear o5 b5)
    | (go_at_call 96; refine (specGap_any p k (rangeB (p.acts[n].ms.length : Int)) _ _ _ (by exact S5.out.old HV.out) (by exact rd_flat (S5.out.rd 0 rfl)) HOK.out hlt).mono ?_; rintro e w6 ⟨rfl, b6⟩; have S6 := Lib.hid (S5.out.go b6); clear b6))
  all_goals
    clear e0 e1 e2 e3 e4 ef z0 z1 z2 hx0
    go_wp2
    go_ret
    refine ⟨?_, S6.out.1⟩
    rw [HG.out]
    first | rfl | go_simp

end Go.Proofs.YtoggakfkpeloiaaGreat
