/- DERIVED. CONTRACTS: the gap of a link, of the model and of the program; the gaps of all links. -/
import Derived.Test.YtoggakfkpeloiaaGreatLkM
import Derived.Test.YtoggakfkpeloiaaGreatLkC
import Derived.Test.YtoggakfkpeloiaaGreatPrC
import Derived.Test.YtoggakfkpeloiaaGreatPrD
import Derived.Test.YtoggakfkpeloiaaGreatDats
import Derived.Test.YtoggakfkpeloiaaGreatActE
import Derived.Test.YtoggakfkpeloiaaGreatActF
import Derived.Deep.RegionWith
namespace Go.Proofs.YtoggakfkpeloiaaGreat
open Go.RowKit Go.Shelf
set_option linter.unusedVariables false

theorem Sn.setI {w0 W : World} {L : List Item} {us : List Int} {g c : Nat} {F : List Nat} (h : Sn w0 W (⟨trI us, .slice (some ⟨g, 0, none⟩) us.length c, F⟩ :: L)) (i : Nat) (y : Int) :
    Sn w0 (W.setCell ⟨g, i, none⟩ (.int .i64 y)) (⟨trI (us.set i y), .slice (some ⟨g, 0, none⟩) us.length c, F⟩ :: L) := by
  have ho := h.ownRI
  have hF : F = [g] := (own_flat h.2.1).2
  have hs := (ho.stored i (.int .i64 y)).1
  rw [← List.map_set] at hs
  have hf := flat_own (by simpa using hs : (W.setCell ⟨g, i, none⟩ (.int .i64 y)).ownsRow w0.heap.size 3 1 (.slice (some ⟨g, 0, none⟩) us.length c) ((us.set i y).map (Value.int .i64)).length ((us.set i y).map (Value.int .i64)))
  subst hF
  exact h.turn (t' := trI (us.set i y)) hf.1 hf.2 (fun k hk => .inl hk) (Wr.setCell W ⟨g, i, none⟩ (by simp) _)
theorem Sn.cellI {w0 W : World} {L : List Item} {us : List Int} {g c : Nat} {F : List Nat} (h : Sn w0 W (⟨trI us, .slice (some ⟨g, 0, none⟩) us.length c, F⟩ :: L)) {i : Nat} (hi : i < us.length) :
    W.cell? ⟨g, i, none⟩ = some (.int .i64 us[i]) ∧ W.frozen? ⟨g, i, none⟩ = false := by
  refine ⟨?_, h.ownRI.frozenAt i⟩
  rw [h.ownRI.cellAt i (by omega), List.getElem?_map, List.getElem?_eq_getElem hi]; rfl
noncomputable def gapsL (p : Pj) : List Int := p.lks.map (gapA p)
theorem gapsL_len (p : Pj) : (gapsL p).length = p.lks.length := by simp [gapsL]
theorem gapsL_at {p : Pj} {k : Nat} (h : k < p.lks.length) : (gapsL p)[k]'(by rw [gapsL_len]; exact h) = gapA p p.lks[k] := by simp [gapsL]
def mixG (G : List Int) (k : Nat) : List Int := G.take k ++ List.replicate (G.length - k) 0
theorem mixG_len {G : List Int} {k : Nat} (h : k ≤ G.length) : (mixG G k).length = G.length := by simp [mixG]; omega
theorem mixG_set {G : List Int} {k : Nat} (h : k < G.length) : (mixG G k).set k G[k] = mixG G (k + 1) := by
  have h1 : (G.take k).length = k := by simp; omega
  rw [mixG, mixG, List.set_append_right k G[k] (by omega), h1, Nat.sub_self, show G.length - k = (G.length - (k + 1)) + 1 by omega, List.replicate_succ, List.set_cons_zero, List.take_succ_eq_append_getElem h, List.append_assoc]
  rfl

set_option maxRecDepth 100000 in
set_option maxHeartbeats 4000000 in
theorem specGap_any (p : Pj) (k : Nat) (S : List Int) (v u : Value) (w : World) (hv : (trPj p).rd w v) (hu : Rd w u (S.map (.int .i64))) (hok : pokB p = true) (hlt : k < p.lks.length) :
    Calls Tryz.prog 96 #[v, .int .i64 (k : Int), u] w fun e w' => e = .returned (.int .i64 (gapB p p.lks[k] S)) ∧ Below w.heap.size w w' := by
  have HV := Lib.hid hv
  obtain ⟨A1, c1, A2, c2, A3, c3, A4, c4, rfl, r1, r2, r3, r4⟩ := rdProject_t hv
  obtain ⟨hl2, B2, d2, he, g2⟩ := rdLinkS_t r2
  injection he with he _ he2
  subst he he2
  have G2 := Lib.hid g2
  obtain ⟨hl1, B1, d1, he, g1⟩ := rdActivityS_t r1
  injection he with he _ he2
  subst he he2
  have G1 := Lib.hid g1
  clear hv r1 r2 r3 r4 g1 g2
  have HU := Lib.hid hu
  clear hu
  have hlt' : (k : Int) < (p.lks.length : Int) := by omega
  obtain ⟨b, o, rfl, hb, hc⟩ := G2.out k hlt
  obtain ⟨y0, y1, y2, y3⟩ := hc k hlt
  have LOK := (pok_lks hok).2 _ (List.getElem_mem hlt)
  clear hc hok
  generalize p.lks[k] = m at y0 y1 y2 y3 LOK ⊢

  obtain ⟨n, hn⟩ : ∃ n : Nat, m.fr = (n : Int) := ⟨m.fr.toNat, by have := LOK.1; omega⟩
  have hn2 : n < p.acts.length := by have := LOK.1; omega
  have hn2' : (n : Int) < (p.acts.length : Int) := by omega
  clear LOK
  obtain ⟨b1, o1, rfl, hb1, hc1⟩ := G1.out n hn2
  obtain ⟨M, cm, x0, x1, x2, rm⟩ := hc1 n hn2
  have RA := Lib.hid (mk_rdActivity_t (d := p.acts[n]) rm)
  clear hc1 rm

  have S0 := Lib.hid ((Sn.start w).box 35 [.int .i64 p.dl, .slice (some ⟨b1, o1, none⟩) p.acts.length c1, .slice (some ⟨b, o, none⟩) p.lks.length c2, .slice A3 p.ress.length c3, .slice A4 p.stk.length c4])
  rcases hfe : m.fe with _ | _
  · have HG := Lib.hid (gap_lag (p := p) (l := m) (S := S) hfe)
    have S1 := Lib.hid (S0.out.box 92 [.int .i64 m.fr, .int .i64 m.to, .bool m.fe, .int .i64 m.lag])
    rw [hfe] at y2 S1
    have HN := Lib.hid hn
    clear hfe hn
    obtain ⟨e0, e1, e2, e3, e4, ef⟩ := (S0.out.bk 0 rfl).c5
    clear S0
    go_enter Tryz.func96, Tryz.ntmps96
    go_wp2
    go_ret
    exact ⟨by rw [HG.out]; try rfl, S1.out.1⟩
  have HG := Lib.hid (gap_end (p := p) (l := m) (S := S) hn2 hn hfe)
  have HN := Lib.hid hn
  have S1 := Lib.hid (S0.out.box 92 [.int .i64 m.fr, .int .i64 m.to, .bool m.fe, .int .i64 m.lag])
  simp only [World.size_alloc] at S1
  rw [hn] at y0 S1
  rw [hfe] at y2 S1
  clear hfe hn
  obtain ⟨e0, e1, e2, e3, e4, ef⟩ := (S0.out.bk 0 rfl).c5
  clear S0
  go_enter Tryz.func96, Tryz.ntmps96
  go_wp2_with fail
  clear e0 e1 e2 e3 e4 ef
  generalize World.alloc (World.alloc w _) _ = wv at S1 ⊢

  obtain ⟨q0, q1, q2, q3, qf⟩ := (S1.out.bk 0 rfl).c4
  obtain ⟨e0, e1, e2, e3, e4, ef⟩ := (S1.out.bk 1 rfl).c5
  have z0 := (S1.out.1.cell (p := ⟨b1, o1 + n * 3, none⟩) hb1).trans x0
  have z1 := (S1.out.1.cell (p := ⟨b1, o1 + n * 3 + 1, none⟩) hb1).trans x1
  have z2 := (S1.out.1.cell (p := ⟨b1, o1 + n * 3 + 2, none⟩) hb1).trans x2
  have S2 := Lib.hid S1.out.drew1
  clear S1
  go_region_with (go_at_call 88; refine (specMinDuration_any p.acts[n] S _ _ _ (by exact S2.out.old RA.out) (by exact HU.out.below S2.out.1 (Nat.le_refl _))).mono ?_; rintro e w5 ⟨rfl, b5⟩; have S5 := Lib.hid (S2.out.go b5); obtain ⟨g0, g1, g2, g3, gf⟩ := (S5.out.bk 0 rfl).c4)
  all_goals
    clear q0 q1 q2 q3 qf e0 e1 e2 e3 e4 ef z0 z1 z2
    go_wp2
    go_ret
    refine ⟨?_, S5.out.1⟩
    rw [HG.out]
    go_simp
    first | exact i64_left _ | exact IntWalk.i64_left _ | (rw [IntKind.wrap_i64]; rfl)

end Go.Proofs.YtoggakfkpeloiaaGreat
