/- DERIVED. CONTRACTS: the gap of a link, of the model and of the program. -/
import Derived.Test.YtoggakfkpeloiaaGreatLkG
namespace Go.Proofs.YtoggakfkpeloiaaGreat
open Go.RowKit Go.Shelf
set_option linter.unusedVariables false

set_option maxRecDepth 100000 in
set_option maxHeartbeats 4000000 in
theorem implGap_any (p : Pj) (m : Lk) (S : List Int) (v u : Value) (w : World) (hv : (trPj p).rd w v) (hu : Rd w u (S.map (.int .i64))) (hf0 : 0 ≤ m.fr ∧ m.fr < (p.acts.length : Int)) :
    Calls Tryz.prog 116 #[v, .agg #[.int .i64 m.fr, .int .i64 m.to, .bool m.fe, .int .i64 m.lag], u] w fun e w' => e = .returned (.int .i64 (gapB p m S)) ∧ Below w.heap.size w w' := by
  have HV := Lib.hid hv
  obtain ⟨A1, c1, A2, c2, A3, c3, A4, c4, rfl, r1, r2, r3, r4⟩ := rdProject_t hv
  obtain ⟨hl2, B2, d2, he, g2⟩ := rdLinkS_t r2
  injection he with he _ he2
  subst he he2
  have G2 := Lib.hid g2
  obtain ⟨hl1, B1, d1, he, g1⟩ := rdActivityS_t r1
  injection he with he _ he2
  subst he he2
  have G1 := Lib.hid g1
  clear hv r1 r2 r3 r4 g1 g2
  have HU := Lib.hid hu
  clear hu

  obtain ⟨n, hn⟩ : ∃ n : Nat, m.fr = (n : Int) := ⟨m.fr.toNat, by have := hf0; omega⟩
  have hn2 : n < p.acts.length := by have := hf0; omega
  have hn2' : (n : Int) < (p.acts.length : Int) := by omega
  clear hf0
  obtain ⟨b1, o1, rfl, hb1, hc1⟩ := G1.out n hn2
  obtain ⟨M, cm, x0, x1, x2, rm⟩ := hc1 n hn2
  have RA := Lib.hid (mk_rdActivity_t (d := p.acts[n]) rm)
  clear hc1 rm

  have S0 := Lib.hid (((Sn.start w).box 35 [.int .i64 p.dl, .slice (some ⟨b1, o1, none⟩) p.acts.length c1, .slice A2 p.lks.length c2, .slice A3 p.ress.length c3, .slice A4 p.stk.length c4]).box 92 [.int .i64 m.fr, .int .i64 m.to, .bool m.fe, .int .i64 m.lag])
  simp only [World.size_alloc] at S0
  rcases hfe : m.fe with _ | _
  · have HG := Lib.hid (gap_lag (p := p) (l := m) (S := S) hfe)
    rw [hfe] at S0
    have HN := Lib.hid hn
    clear hfe hn
    obtain ⟨q0, q1, q2, q3, qf⟩ := (S0.out.bk 0 rfl).c4
    go_enter Tryz.func116, Tryz.ntmps116
    go_wp2
    go_ret
    exact ⟨by rw [HG.out]; try rfl, S0.out.1⟩
  have HG := Lib.hid (gap_end (p := p) (l := m) (S := S) hn2 hn hfe)
  have S1 := Lib.hid S0.out
  rw [hfe, hn] at S1
  rw [hn]
  clear hfe hn S0
  obtain ⟨q0, q1, q2, q3, qf⟩ := (S1.out.bk 0 rfl).c4
  go_enter Tryz.func116, Tryz.ntmps116
  go_wp2_with fail
  clear q0 q1 q2 q3 qf
  generalize World.alloc (World.alloc w _) _ = wv at S1 ⊢

  obtain ⟨q0, q1, q2, q3, qf⟩ := (S1.out.bk 0 rfl).c4
  obtain ⟨e0, e1, e2, e3, e4, ef⟩ := (S1.out.bk 1 rfl).c5
  have z0 := (S1.out.1.cell (p := ⟨b1, o1 + n * 3, none⟩) hb1).trans x0
  have z1 := (S1.out.1.cell (p := ⟨b1, o1 + n * 3 + 1, none⟩) hb1).trans x1
  have z2 := (S1.out.1.cell (p := ⟨b1, o1 + n * 3 + 2, none⟩) hb1).trans x2
  have S2 := Lib.hid S1.out.drew1
  clear S1
  go_region_with (go_at_call 77; refine (implMinDuration_any p.acts[n] S _ _ _ (by exact S2.out.old RA.out) (by exact HU.out.below S2.out.1 (Nat.le_refl _))).mono ?_; rintro e w5 ⟨rfl, b5⟩; have S5 := Lib.hid (S2.out.go b5); obtain ⟨g0, g1, g2, g3, gf⟩ := (S5.out.bk 0 rfl).c4)
  all_goals
    clear q0 q1 q2 q3 qf e0 e1 e2 e3 e4 ef z0 z1 z2
    go_wp2
    go_ret
    refine ⟨?_, S5.out.1⟩
    rw [HG.out]
    go_simp
    first | exact i64_left _ | exact IntWalk.i64_left _ | (rw [IntKind.wrap_i64]; rfl)

end Go.Proofs.YtoggakfkpeloiaaGreat
