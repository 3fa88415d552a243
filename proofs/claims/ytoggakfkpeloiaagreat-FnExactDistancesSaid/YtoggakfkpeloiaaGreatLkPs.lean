/- DERIVED. CONTRACTS: the model's search for a positive cycle. -/
import Derived.Test.YtoggakfkpeloiaaGreatLkD
import Derived.Test.YtoggakfkpeloiaaGreatLkGa
import Derived.BigQuiet
import Derived.Deep.RegionLaw
import Derived.Deep.AppendLies
namespace Go.Proofs.YtoggakfkpeloiaaGreat
open Go.RowKit Go.Shelf
set_option linter.unusedVariables false

theorem rdUpS {w : World} {v : Value} {C : List Nat} (h : Rd w v ((up C).map (.int .i64))) :
    C.length ≤ maxLen ∧ ∃ A c, v = .slice A C.length c ∧ ∀ k, k < C.length → ∃ b o, A = some ⟨b, o, none⟩ ∧ b < w.heap.size ∧ ∀ j, (h : j < C.length) → w.cell? ⟨b, o + j, none⟩ = some (.int .i64 (C[j] : Int)) := by
  obtain ⟨hl, A, c, he, g⟩ := rdI h
  rw [up_len] at hl he
  refine ⟨hl, A, c, he, fun k hk => ?_⟩
  obtain ⟨b, o, hA, hb, hc⟩ := g k (by rw [up_len]; exact hk)
  refine ⟨b, o, hA, hb, fun j hj => ?_⟩
  rw [hc j (by rw [up_len]; exact hj), up_at hj]
theorem own_nil0 (W : World) (B : Nat) : (trI []).own W B (.slice none 0 0) [] := ⟨[], [], ⟨rfl, .inl ⟨rfl, rfl⟩⟩, ⟨rfl, rfl⟩, rfl⟩
theorem own_cap {w : World} {B n c : Nat} {e : TypeId} {ad : Addr} {xs : List Value} {F : List Nat} (h : (flat e xs).own w B (.slice (some ad) n c) F) : n ≤ c := by
  obtain ⟨_, h⟩ := (own_flat h).1
  rcases h with ⟨h, _⟩ | ⟨g, cap, cur, h, _, _, hle, _⟩
  · cases h
  · injection h with h1 h2 h3
    omega
theorem rd_news {w W : World} {ad : Addr} {n c : Nat} {xs : List Value} (h : Rd w (.slice (some ad) n c) xs) (hb : Below w.heap.size w W) : ∀ j u, xs[j]? = some u → W.cell? (ad.add j) = some u := by
  intro j u hj
  obtain ⟨_, A, d, he, h⟩ := h
  injection he with he _ _
  subst he
  have hjl := (List.getElem?_eq_some_iff.1 hj).1
  rcases h with h | ⟨b, o, he, hlt, hc⟩
  · rw [h] at hjl; simp at hjl
  · injection he with he
    subst he
    have hadd : (⟨b, o, none⟩ : Addr).add j = ⟨b, o + j, none⟩ := by unfold Addr.add; split <;> simp_all
    rw [hadd, (hb.cell (p := ⟨b, o + j, none⟩) hlt), hc j hjl, ← hj, List.getElem?_eq_getElem hjl]
theorem ring_len {ls : List Lk} {G : List Int} : ∀ (f : Nat) (way r : List Nat), ringS ls G f way = some r → r.length = way.length + f
  | 0, way, r, h => by
    rw [ringS] at h
    split at h
    · split at h
      · injection h with h; rw [← h]; rfl
      · cases h
    · cases h
  | f + 1, way, r, h => by
    rw [ringS] at h
    split at h
    · cases h
    · split at h
      · cases h
      · obtain ⟨k, _, hk⟩ := List.exists_of_findSome?_eq_some h
        split at hk
        · have := ring_len f _ _ hk
          rw [this, List.length_append, List.length_singleton]; omega
        · cases hk
theorem ring0_yes {ls : List Lk} {G : List Int} {way : List Nat} {x : Int} (h1 : toA ls (way.getLastD 0) = x) (h2 : frA ls (way.headD 0) = x) (hs : 0 < sumG G way) : ringS ls G 0 way = some way := by rw [ringS, if_pos (h1.trans h2.symm), if_pos hs]
theorem ring0_poor {ls : List Lk} {G : List Int} {way : List Nat} {x : Int} (h1 : toA ls (way.getLastD 0) = x) (h2 : frA ls (way.headD 0) = x) (hs : ¬ 0 < sumG G way) : ringS ls G 0 way = none := by rw [ringS, if_pos (h1.trans h2.symm), if_neg hs]
theorem ring0_no {ls : List Lk} {G : List Int} {way : List Nat} {x y : Int} (h1 : toA ls (way.getLastD 0) = x) (h2 : frA ls (way.headD 0) = y) (hs : ¬ x = y) : ringS ls G 0 way = none := by rw [ringS, if_neg (by rw [h1, h2]; exact hs)]
theorem ringS_shut {ls : List Lk} {G : List Int} {f : Nat} {way : List Nat} {x : Int} (h1 : toA ls (way.getLastD 0) = x) (h2 : frA ls (way.headD 0) = x) : ringS ls G (f + 1) way = none := by rw [ringS, if_pos (h1.trans h2.symm)]
theorem ringS_back {ls : List Lk} {G : List Int} {f j : Nat} {way : List Nat} {x : Int} (h1 : toA ls (way.getLastD 0) = x) (hj : j < way.length - 1) (he : toA ls (way[j]'(by omega)) = x) : ringS ls G (f + 1) way = none := by
  rw [ringS]
  split
  · rfl
  · rw [if_pos]
    rw [List.any_eq_true]
    refine ⟨way[j]'(by omega), ?_, by rw [h1]; exact decide_eq_true he⟩
    rw [List.mem_iff_getElem]
    exact ⟨j, by simpa using hj, by rw [List.getElem_dropLast]⟩
def stepF (ls : List Lk) (G : List Int) (f : Nat) (way : List Nat) (x : Int) (x0 k : Nat) : Option (List Nat) := if frA ls k = x ∧ x0 < k then ringS ls G f (way ++ [k]) else none
theorem ringS_go {ls : List Lk} {G : List Int} {f x0 : Nat} {way : List Nat} {x y : Int} (h1 : toA ls (way.getLastD 0) = x) (h2 : frA ls (way.headD 0) = y) (h3 : way.headD 0 = x0) (hne : ¬ x = y) (hb : ∀ j, (hj : j < way.length) → j < way.length - 1 → toA ls way[j] ≠ x) : ringS ls G (f + 1) way = (List.range ls.length).findSome? (stepF ls G f way x x0) := by
  rw [ringS, if_neg (by rw [h1, h2]; exact hne), if_neg ?_]
  · rw [h1, h3]; rfl
  · intro h
    obtain ⟨z, hz, he⟩ := List.any_eq_true.1 h
    obtain ⟨j, hj, rfl⟩ := List.getElem_of_mem hz
    rw [List.length_dropLast] at hj
    have := of_decide_eq_true he
    rw [List.getElem_dropLast, h1] at this
    exact hb j (by omega) hj this
theorem below_sn {w0 w w' : World} {L : List Item} (h : Sn w0 w L) (hb : Below w.heap.size w w') : Below w0.heap.size w0 w' := (h.go hb).1


set_option maxRecDepth 100000 in
set_option maxHeartbeats 16000000 in
theorem specRing_any (p : Pj) (c : Nat) (hok : pokB p = true) (hc6 : c ≤ 6) : ∀ (f : Nat) (way : List Nat) (B : Nat) (v vw : Value) (F : List Nat) (w : World), (trPj p).rd w v → way.length + f = c → Lnk p.lks way → (∀ x ∈ way, x < p.lks.length) → (trI (up way)).own w B vw F → F.Nodup → B ≤ w.heap.size →
    Calls Tryz.prog 70 #[v, vw, .int .i64 (c : Int)] w fun e w' => ∃ u F', e = .returned u ∧ (trI (up ((ringS p.lks (gapsL p) f way).getD []))).own w' B u F' ∧ F'.Nodup ∧ Below w.heap.size w w' := by
  have HOK := Lib.hid hok
  have h12 := (pok_lks hok).1
  clear hok
  intro f
  induction f with
  | zero =>
    intro way B v vw F w hv hlen hl hC ho hnd hB
    have HV := Lib.hid hv
    obtain ⟨A1, c1, A2, c2, A3, c3, A4, c4, rfl, r1, r2, r3, r4⟩ := rdProject_t hv
    obtain ⟨hl2, B2, d2, he, g2⟩ := rdLinkS_t r2
    injection he with he _ he2
    subst he he2
    have G2 := Lib.hid g2
    clear hv r1 r2 r3 r4 g2
    have HL := Lib.hid hl
    have HC := Lib.hid hC
    have HO := Lib.hid ho
    have HN := Lib.hid hnd
    have h0 : 0 < way.length := List.length_pos_iff.2 (lnk_ne hl)
    obtain ⟨hul, AC, cC, hce, gc⟩ := rdUpS (rd_flat (Tr.own_rd _ _ _ ho))
    subst hce
    have HR := Lib.hid (rd_flat (Tr.own_rd _ _ _ ho))
    obtain ⟨b1, o1, rfl, hb1, hc1⟩ := gc 0 h0
    have GW := Lib.hid hc1
    have hz0 := hc1 0 h0
    have hz1 := hc1 (way.length - 1) (by omega)
    rw [Nat.add_zero] at hz0
    have hx0 := hC _ (List.getElem_mem (l := way) (n := 0) h0)
    have hx1 := hC _ (List.getElem_mem (l := way) (n := way.length - 1) (by omega))
    have HD := Lib.hid (headD_at h0)
    have LD := Lib.hid (getLastD_at h0)
    clear hl hC ho hnd gc hc1 hul
    generalize way[0] = x0 at hz0 hx0 HD
    generalize way[way.length - 1]'(by omega) = x1 at hz1 hx1 LD
    obtain ⟨b, o, rfl, hb, hc⟩ := G2.out x0 hx0
    have hy0 := (hc x0 hx0).1
    have hy1 := (hc x1 hx1).2.1
    rw [← frA_yes hx0] at hy0
    rw [← toA_yes hx1] at hy1
    have hx0' : (x0 : Int) < (p.lks.length : Int) := by omega
    have hx1' : (x1 : Int) < (p.lks.length : Int) := by omega
    clear hc hx0 hx1
    have LD' := Lib.hid (show toA p.lks (way.getLastD 0) = toA p.lks x1 by rw [LD.out])
    have HD' := Lib.hid (show frA p.lks (way.headD 0) = frA p.lks x0 by rw [HD.out])
    generalize frA p.lks x0 = first at hy0 HD'
    generalize toA p.lks x1 = last at hy1 LD'
    obtain ⟨m, hm⟩ : ∃ m, way.length = m + 1 := ⟨way.length - 1, by omega⟩
    have HM := Lib.hid hm
    rw [hm] at hz1 HO ⊢
    simp only [Nat.add_sub_cancel] at hz1
    have hmc : m + 1 + 0 = c := by omega
    have HMC := Lib.hid hmc
    have hmc6 : m + 1 ≤ 6 := by omega
    have hcap : m + 1 ≤ cC := own_cap HO.out
    have hcap' : (m : Int) ≤ (cC : Int) := by omega
    clear hm h0 hlen hmc
    have S0 := Lib.hid ((Sn.start w).box 35 [.int .i64 p.dl, .slice A1 p.acts.length c1, .slice (some ⟨b, o, none⟩) p.lks.length c2, .slice A3 p.ress.length c3, .slice A4 p.stk.length c4])
    go_enter Tryz.func70, Tryz.ntmps70
    go_wp2_with fail
    generalize World.alloc w _ = wv at S0 ⊢
    obtain ⟨e0, e1, e2, e3, e4, ef⟩ := (S0.out.bk 0 rfl).c5
    have vz0 := (S0.out.1.cell (p := ⟨b1, o1, none⟩) hb1).trans hz0
    have vz1 := (S0.out.1.cell (p := ⟨b1, o1 + m, none⟩) hb1).trans hz1
    have vy0 := (S0.out.1.cell (p := ⟨b, o + x0 * 4, none⟩) hb).trans hy0
    have vy1 := (S0.out.1.cell (p := ⟨b, o + x1 * 4 + 1, none⟩) hb).trans hy1
    have hm6 : (m : Int) < 6 := by omega
    have hm0 : (0 : Int) ≤ (m : Int) := by omega
    have hwm : IntKind.i64.wrap (m : Int) = (m : Int) := by rw [IntWalk.i64_left]; unfold wrap64; omega
    clear hz0 hz1 hy0 hy1
    go_quiet (fail)
    go_wp2_with fail
    go_quiet (fail)
    generalize hwx : World.drewN (World.drewN wv _) _ = wx
    have S1 := Lib.hid (show Sn w wx [boxI w.heap.size 35 [.int .i64 p.dl, .slice A1 p.acts.length c1, .slice (some ⟨b, o, none⟩) p.lks.length c2, .slice A3 p.ress.length c3, .slice A4 p.stk.length c4]] by rw [← hwx]; exact (S0.out.drew _).drew _)
    clear hwx S0 vz0 vz1 vy0 vy1 e0 e1 e2 e3 e4 ef
    by_cases hfl : last = first
    · subst hfl
      go_wp2
      go_loopw [9, 41] (fun s i wr => ∃ j : Nat, j ≤ m + 1 ∧ i = .int .i64 j ∧ s = .int .i64 (sumG (gapsL p) (way.take j)) ∧ Sn w wr [boxI w.heap.size 35 [.int .i64 p.dl, .slice A1 p.acts.length c1, .slice (some ⟨b, o, none⟩) p.lks.length c2, .slice A3 p.ress.length c3, .slice A4 p.stk.length c4]]) (fun _ i _ => m + 1 - (intOf i).toNat)
      case atStart => exact ⟨0, Nat.zero_le _, rfl, rfl, S1.out⟩
      case round =>
        obtain ⟨j, hjl, rfl, rfl, hS⟩ := hrel
        have S2 := Lib.hid hS
        clear hS S1
        by_cases hlt : j < m + 1
        · have hlt' : (j : Int) < ((m + 1 : Nat) : Int) := by omega
          have vw0 := (S2.out.1.cell (p := ⟨b1, o1 + j, none⟩) hb1).trans (GW.out j (by rw [HM.out]; omega))
          have hx := HC.out _ (List.getElem_mem (l := way) (n := j) (by rw [HM.out]; omega))
          have NX := Lib.hid (sumG_take (G := gapsL p) (chain := way) (j := j) (by rw [HM.out]; omega))
          generalize way[j]'(by rw [HM.out]; omega) = x at vw0 hx NX
          have NX2 := Lib.hid (NX.out.trans (by rw [gapsL_getD hx] : _ = wrap64 (sumG (gapsL p) (way.take j) + gapA p (p.lks[x]'hx))))
          clear NX
          obtain ⟨e0, e1, e2, e3, e4, ef⟩ := (S2.out.bk 0 rfl).c5
          generalize sumG (gapsL p) (way.take j) = s0 at NX2 ⊢
          go_wp2_with fail
          clear e0 e1 e2 e3 e4 ef vw0
          refine (specAll_any p x _ _ (by exact S2.out.old HV.out) HOK.out hx).mono ?_
          rintro e w5 ⟨rfl, b5⟩
          have S3 := Lib.hid (S2.out.go b5)
          clear b5 S2
          generalize gapA p (p.lks[x]'hx) = gp at NX2 ⊢
          go_wp2
          go_roundw
          case rel => exact ⟨j + 1, by omega, by go_num, by rw [NX2.out], S3.out⟩
          case measure => simp [intOf]; omega
        · have hge : ¬ (j : Int) < ((m + 1 : Nat) : Int) := by omega
          obtain rfl : j = m + 1 := by omega
          have HT := Lib.hid (show sumG (gapsL p) (way.take (m + 1)) = sumG (gapsL p) way by rw [← HM.out, List.take_length])
          rw [HT.out]
          have hcm : c = m + 1 := by have := HMC.out; omega
          subst hcm
          by_cases hs : 0 < sumG (gapsL p) way
          · have HS := Lib.hid (ring0_yes LD'.out HD'.out hs)
            generalize sumG (gapsL p) way = s0 at hs ⊢
            go_wp2
            go_ret
            first
              | exact ⟨_, rfl, _, by rw [HS.out]; exact Tr.own_below HO.out S2.out.1 (Nat.le_refl _), HN.out, S2.out.1⟩
              | exact ⟨_, _, rfl, by rw [HS.out]; exact Tr.own_below HO.out S2.out.1 (Nat.le_refl _), HN.out, S2.out.1⟩
              | exact ⟨_, by rw [HS.out]; exact Tr.own_below HO.out S2.out.1 (Nat.le_refl _), HN.out, S2.out.1⟩
          · have HS := Lib.hid (ring0_poor LD'.out HD'.out hs)
            generalize sumG (gapsL p) way = s0 at hs ⊢
            go_wp2
            go_ret
            first
              | exact ⟨_, rfl, _, by rw [HS.out]; exact own_nil0 _ _, List.nodup_nil, S2.out.1⟩
              | exact ⟨_, _, rfl, by rw [HS.out]; exact own_nil0 _ _, List.nodup_nil, S2.out.1⟩
              | exact ⟨_, by rw [HS.out]; exact own_nil0 _ _, List.nodup_nil, S2.out.1⟩
    · have HS := Lib.hid (ring0_no (G := gapsL p) LD'.out HD'.out hfl)
      have hcm : c = m + 1 := by have := HMC.out; omega
      subst hcm
      go_wp2
      go_ret
      first
        | exact ⟨_, rfl, _, by rw [HS.out]; exact own_nil0 _ _, List.nodup_nil, S1.out.1⟩
        | exact ⟨_, _, rfl, by rw [HS.out]; exact own_nil0 _ _, List.nodup_nil, S1.out.1⟩
        | exact ⟨_, by rw [HS.out]; exact own_nil0 _ _, List.nodup_nil, S1.out.1⟩
  | succ f ih =>
    intro way B v vw F w hv hlen hl hC ho hnd hB
    have HV := Lib.hid hv
    obtain ⟨A1, c1, A2, c2, A3, c3, A4, c4, rfl, r1, r2, r3, r4⟩ := rdProject_t hv
    obtain ⟨hl2, B2, d2, he, g2⟩ := rdLinkS_t r2
    injection he with he _ he2
    subst he he2
    have G2 := Lib.hid g2
    clear hv r1 r2 r3 r4 g2
    have HL := Lib.hid hl
    have HC := Lib.hid hC
    have HO := Lib.hid ho
    have HN := Lib.hid hnd
    have h0 : 0 < way.length := List.length_pos_iff.2 (lnk_ne hl)
    obtain ⟨hul, AC, cC, hce, gc⟩ := rdUpS (rd_flat (Tr.own_rd _ _ _ ho))
    subst hce
    have HR := Lib.hid (rd_flat (Tr.own_rd _ _ _ ho))
    obtain ⟨b1, o1, rfl, hb1, hc1⟩ := gc 0 h0
    have GW := Lib.hid hc1
    have hz0 := hc1 0 h0
    have hz1 := hc1 (way.length - 1) (by omega)
    rw [Nat.add_zero] at hz0
    have hx0 := hC _ (List.getElem_mem (l := way) (n := 0) h0)
    have hx1 := hC _ (List.getElem_mem (l := way) (n := way.length - 1) (by omega))
    have HD := Lib.hid (headD_at h0)
    have LD := Lib.hid (getLastD_at h0)
    clear hl hC ho hnd gc hc1 hul
    generalize way[0] = x0 at hz0 hx0 HD
    generalize way[way.length - 1]'(by omega) = x1 at hz1 hx1 LD
    obtain ⟨b, o, rfl, hb, hc⟩ := G2.out x0 hx0
    have hy0 := (hc x0 hx0).1
    have hy1 := (hc x1 hx1).2.1
    rw [← frA_yes hx0] at hy0
    rw [← toA_yes hx1] at hy1
    have hx0' : (x0 : Int) < (p.lks.length : Int) := by omega
    have hx1' : (x1 : Int) < (p.lks.length : Int) := by omega
    clear hc hx0 hx1
    have LD' := Lib.hid (show toA p.lks (way.getLastD 0) = toA p.lks x1 by rw [LD.out])
    have HD' := Lib.hid (show frA p.lks (way.headD 0) = frA p.lks x0 by rw [HD.out])
    generalize frA p.lks x0 = first at hy0 HD'
    generalize toA p.lks x1 = last at hy1 LD'
    obtain ⟨m, hm⟩ : ∃ m, way.length = m + 1 := ⟨way.length - 1, by omega⟩
    have HM := Lib.hid hm
    rw [hm] at hz1 HO ⊢
    simp only [Nat.add_sub_cancel] at hz1
    have hmc : m + 1 + (f + 1) = c := by omega
    have HMC := Lib.hid hmc
    have hmc6 : m + 1 ≤ 6 := by omega
    have hcap : m + 1 ≤ cC := own_cap HO.out
    have hcap' : (m : Int) ≤ (cC : Int) := by omega
    clear hm h0 hlen hmc
    have S0 := Lib.hid ((Sn.start w).box 35 [.int .i64 p.dl, .slice A1 p.acts.length c1, .slice (some ⟨b, o, none⟩) p.lks.length c2, .slice A3 p.ress.length c3, .slice A4 p.stk.length c4])
    go_enter Tryz.func70, Tryz.ntmps70
    go_wp2_with fail
    generalize World.alloc w _ = wv at S0 ⊢
    obtain ⟨e0, e1, e2, e3, e4, ef⟩ := (S0.out.bk 0 rfl).c5
    have vz0 := (S0.out.1.cell (p := ⟨b1, o1, none⟩) hb1).trans hz0
    have vz1 := (S0.out.1.cell (p := ⟨b1, o1 + m, none⟩) hb1).trans hz1
    have vy0 := (S0.out.1.cell (p := ⟨b, o + x0 * 4, none⟩) hb).trans hy0
    have vy1 := (S0.out.1.cell (p := ⟨b, o + x1 * 4 + 1, none⟩) hb).trans hy1
    have hm6 : (m : Int) < 6 := by omega
    have hm0 : (0 : Int) ≤ (m : Int) := by omega
    have hwm : IntKind.i64.wrap (m : Int) = (m : Int) := by rw [IntWalk.i64_left]; unfold wrap64; omega
    clear hz0 hz1 hy0 hy1
    go_quiet (fail)
    go_wp2_with fail
    go_quiet (fail)
    generalize hwx : World.drewN (World.drewN wv _) _ = wx
    have S1 := Lib.hid (show Sn w wx [boxI w.heap.size 35 [.int .i64 p.dl, .slice A1 p.acts.length c1, .slice (some ⟨b, o, none⟩) p.lks.length c2, .slice A3 p.ress.length c3, .slice A4 p.stk.length c4]] by rw [← hwx]; exact (S0.out.drew _).drew _)
    clear hwx S0 vz0 vz1 vy0 vy1 e0 e1 e2 e3 e4 ef
    by_cases hfl : last = first
    · subst hfl
      go_wp2
      go_loopw [9, 41] (fun s i wr => ∃ j : Nat, j ≤ m + 1 ∧ i = .int .i64 j ∧ s = .int .i64 (sumG (gapsL p) (way.take j)) ∧ Sn w wr [boxI w.heap.size 35 [.int .i64 p.dl, .slice A1 p.acts.length c1, .slice (some ⟨b, o, none⟩) p.lks.length c2, .slice A3 p.ress.length c3, .slice A4 p.stk.length c4]]) (fun _ i _ => m + 1 - (intOf i).toNat)
      case atStart => exact ⟨0, Nat.zero_le _, rfl, rfl, S1.out⟩
      case round =>
        obtain ⟨j, hjl, rfl, rfl, hS⟩ := hrel
        have S2 := Lib.hid hS
        clear hS S1
        by_cases hlt : j < m + 1
        · have hlt' : (j : Int) < ((m + 1 : Nat) : Int) := by omega
          have vw0 := (S2.out.1.cell (p := ⟨b1, o1 + j, none⟩) hb1).trans (GW.out j (by rw [HM.out]; omega))
          have hx := HC.out _ (List.getElem_mem (l := way) (n := j) (by rw [HM.out]; omega))
          have NX := Lib.hid (sumG_take (G := gapsL p) (chain := way) (j := j) (by rw [HM.out]; omega))
          generalize way[j]'(by rw [HM.out]; omega) = x at vw0 hx NX
          have NX2 := Lib.hid (NX.out.trans (by rw [gapsL_getD hx] : _ = wrap64 (sumG (gapsL p) (way.take j) + gapA p (p.lks[x]'hx))))
          clear NX
          obtain ⟨e0, e1, e2, e3, e4, ef⟩ := (S2.out.bk 0 rfl).c5
          generalize sumG (gapsL p) (way.take j) = s0 at NX2 ⊢
          go_wp2_with fail
          clear e0 e1 e2 e3 e4 ef vw0
          refine (specAll_any p x _ _ (by exact S2.out.old HV.out) HOK.out hx).mono ?_
          rintro e w5 ⟨rfl, b5⟩
          have S3 := Lib.hid (S2.out.go b5)
          clear b5 S2
          generalize gapA p (p.lks[x]'hx) = gp at NX2 ⊢
          go_wp2
          go_roundw
          case rel => exact ⟨j + 1, by omega, by go_num, by rw [NX2.out], S3.out⟩
          case measure => simp [intOf]; omega
        · have hge : ¬ (j : Int) < ((m + 1 : Nat) : Int) := by omega
          obtain rfl : j = m + 1 := by omega
          have HT := Lib.hid (show sumG (gapsL p) (way.take (m + 1)) = sumG (gapsL p) way by rw [← HM.out, List.take_length])
          rw [HT.out]
          have hcm : ¬ ((m : Int) + 1 = (c : Int)) := by have := HMC.out; omega
          have HS := Lib.hid (ringS_shut (G := gapsL p) (f := f) LD'.out HD'.out)
          by_cases hs : 0 < sumG (gapsL p) way
          · generalize sumG (gapsL p) way = s0 at hs ⊢
            go_wp2
            go_ret
            first
              | exact ⟨_, rfl, _, by rw [HS.out]; exact own_nil0 _ _, List.nodup_nil, S2.out.1⟩
              | exact ⟨_, _, rfl, by rw [HS.out]; exact own_nil0 _ _, List.nodup_nil, S2.out.1⟩
              | exact ⟨_, by rw [HS.out]; exact own_nil0 _ _, List.nodup_nil, S2.out.1⟩
          · generalize sumG (gapsL p) way = s0 at hs ⊢
            go_wp2
            go_ret
            first
              | exact ⟨_, rfl, _, by rw [HS.out]; exact own_nil0 _ _, List.nodup_nil, S2.out.1⟩
              | exact ⟨_, _, rfl, by rw [HS.out]; exact own_nil0 _ _, List.nodup_nil, S2.out.1⟩
              | exact ⟨_, by rw [HS.out]; exact own_nil0 _ _, List.nodup_nil, S2.out.1⟩
    have hcm : ¬ ((m : Int) + 1 = (c : Int)) := by have := HMC.out; omega
    have hcm2 : (((m : Int) + 1) == (c : Int)) = false := by simpa using hcm
    have hcm3 : ¬ (((m + 1 : Nat) : Int) = (c : Int)) := by omega
    have HFL := Lib.hid hfl
    have BACK := Lib.hid (fun j => ringS_back (G := gapsL p) (f := f) (j := j) LD'.out)
    have GO := Lib.hid (ringS_go (G := gapsL p) (f := f) LD'.out HD'.out HD.out hfl)
    go_wp2
    go_loopw [70] (fun i wr => ∃ j : Nat, j ≤ m ∧ i = .int .i64 j ∧ (∀ t, (ht : t < way.length) → t < j → toA p.lks way[t] ≠ last) ∧ Sn w wr [boxI w.heap.size 35 [.int .i64 p.dl, .slice A1 p.acts.length c1, .slice (some ⟨b, o, none⟩) p.lks.length c2, .slice A3 p.ress.length c3, .slice A4 p.stk.length c4]]) (fun i _ => m - (intOf i).toNat)
    case atStart => exact ⟨0, Nat.zero_le _, rfl, fun t _ h => absurd h (by omega), S1.out⟩
    case round =>
      obtain ⟨j, hjl, rfl, hall, hS⟩ := hrel
      have S2 := Lib.hid hS
      have HALL := Lib.hid hall
      clear hS S1 hall
      by_cases hlt : j < m
      · have hlt' : (j : Int) < (m : Int) := by omega
        have vw0 := (S2.out.1.cell (p := ⟨b1, o1 + j, none⟩) hb1).trans (GW.out j (by rw [HM.out]; omega))
        have hx := HC.out _ (List.getElem_mem (l := way) (n := j) (by rw [HM.out]; omega))
        have BJ := Lib.hid (BACK.out j (by rw [HM.out]; omega))
        have NJ := Lib.hid (fun (h : toA p.lks (way[j]'(by rw [HM.out]; omega)) ≠ last) t (ht : t < way.length) (htj : t < j + 1) => (if e : t < j then HALL.out t ht e else by obtain rfl : t = j := (by omega); exact h : toA p.lks way[t] ≠ last))
        generalize way[j]'(by rw [HM.out]; omega) = x at vw0 hx BJ NJ
        have hx' : (x : Int) < (p.lks.length : Int) := by omega
        obtain ⟨b2, o2, he2, hb2, hc2⟩ := G2.out x hx
        injection he2 with he2
        injection he2 with he2 he3
        subst he2 he3
        have hy := (S2.out.1.cell (p := ⟨b, o + x * 4 + 1, none⟩) hb).trans (hc2 x hx).2.1
        rw [← toA_yes hx] at hy
        clear hc2 hx
        generalize toA p.lks x = z at hy BJ NJ
        obtain ⟨e0, e1, e2, e3, e4, ef⟩ := (S2.out.bk 0 rfl).c5
        by_cases hz : z = last
        · have HS := Lib.hid (BJ.out hz)
          clear BJ NJ
          subst hz
          go_wp2
          go_ret
          first
            | exact ⟨_, rfl, _, by rw [HS.out]; exact own_nil0 _ _, List.nodup_nil, S2.out.1⟩
            | exact ⟨_, _, rfl, by rw [HS.out]; exact own_nil0 _ _, List.nodup_nil, S2.out.1⟩
            | exact ⟨_, by rw [HS.out]; exact own_nil0 _ _, List.nodup_nil, S2.out.1⟩
        · have HN2 := Lib.hid (NJ.out hz)
          clear BJ NJ
          go_wp2
          clear e0 e1 e2 e3 e4 ef
          go_roundw
          case rel => exact ⟨j + 1, by omega, by go_num, HN2.out, S2.out⟩
          case measure => simp [intOf]; omega
      · have hge : ¬ (j : Int) < (m : Int) := by omega
        obtain rfl : m = j := by omega
        have GO2 := Lib.hid (GO.out (fun t ht htl => HALL.out t ht (by rw [HM.out] at htl; omega)))
        clear GO HALL
        obtain ⟨e0, e1, e2, e3, e4, ef⟩ := (S2.out.bk 0 rfl).c5
        obtain ⟨i0, hi0, hz0, hz1, hz2⟩ := info_parts infoInt
        go_wp2
        clear e0 e1 e2 e3 e4 ef
        go_loopw [86] (fun i wr => ∃ k : Nat, k ≤ p.lks.length ∧ i = .int .i64 k ∧ (∀ t, t < k → stepF p.lks (gapsL p) f way last x0 t = none) ∧ Sn w wr [boxI w.heap.size 35 [.int .i64 p.dl, .slice A1 p.acts.length c1, .slice (some ⟨b, o, none⟩) p.lks.length c2, .slice A3 p.ress.length c3, .slice A4 p.stk.length c4]]) (fun i _ => p.lks.length - (intOf i).toNat)
        case atStart => exact ⟨0, Nat.zero_le _, rfl, fun t h => absurd h (by omega), S2.out⟩
        case round =>
          obtain ⟨k, hkl, rfl, hall, hS⟩ := hrel
          have S3 := Lib.hid hS
          have HALL := Lib.hid hall
          clear hS S2 hall
          by_cases hlt : k < p.lks.length
          · have hlt' : (k : Int) < (p.lks.length : Int) := by omega
            obtain ⟨b2, o2, he2, hb2, hc2⟩ := G2.out k hlt
            injection he2 with he2
            injection he2 with he2 he3
            subst he2 he3
            obtain ⟨y0, y1, y2, y3⟩ := hc2 k hlt
            have hx0 := (S3.out.1.cell (p := ⟨b, o + k * 4, none⟩) hb).trans y0
            have hx1 := (S3.out.1.cell (p := ⟨b, o + k * 4 + 1, none⟩) hb).trans y1
            have hx2 := (S3.out.1.cell (p := ⟨b, o + k * 4 + 2, none⟩) hb).trans y2
            have hx3 := (S3.out.1.cell (p := ⟨b, o + k * 4 + 3, none⟩) hb).trans y3
            clear hc2 y0 y1 y2 y3
            have FR := Lib.hid (frA_yes hlt)
            have NONE := Lib.hid (fun (h : stepF p.lks (gapsL p) f way last x0 k = none) t (ht : t < k + 1) => (if e : t < k then HALL.out t e else by obtain rfl : t = k := (by omega); exact h : stepF p.lks (gapsL p) f way last x0 t = none))
            generalize p.lks[k] = l at hx0 hx1 hx2 hx3 FR
            have vw1 : ∀ ob, (World.alloc wr ob).cell? ⟨b1, o1, none⟩ = some (.int .i64 (x0 : Int)) := fun ob => by
              have h := ((Below.refl wr.heap.size wr).alloc (Nat.le_refl _) ob).cell (p := ⟨b1, o1, none⟩) (Nat.lt_of_lt_of_le hb1 S3.out.1.size)
              rw [h, (S3.out.1.cell (p := ⟨b1, o1, none⟩) hb1)]
              have h2 := GW.out 0 (by rw [HM.out]; omega)
              rw [Nat.add_zero] at h2
              rw [h2]
              have h3 := headD_at (C := way) (by rw [HM.out]; omega)
              rw [HD.out] at h3
              rw [← h3]
            have hb1w : b1 < wr.heap.size := Nat.lt_of_lt_of_le hb1 S3.out.1.size
            have S4 := Lib.hid (S3.out.box 92 [.int .i64 l.fr, .int .i64 l.to, .bool l.fe, .int .i64 l.lag])
            by_cases hfr : l.fr = last
            case neg =>
              have HN2 := Lib.hid (NONE.out (by rw [stepF, if_neg (fun h => hfr (FR.out.symm.trans h.1))]))
              have S5 := Lib.hid (S4.out.drop 0)
              clear S4 NONE
              go_wp2
              go_roundw
              case rel => exact ⟨k + 1, by omega, by go_num, HN2.out, S5.out⟩
              case measure => simp [intOf]; omega
            have HFR := Lib.hid hfr
            have LN := Lib.hid (Lnk.more HL.out (FR.out.trans (hfr.trans LD'.out.symm)))
            have HFK := Lib.hid (FR.out.trans hfr)
            rw [hfr] at S4 hx0
            clear hfr FR
            by_cases hk : x0 < k
            case neg =>
              have hk' : (k : Int) ≤ (x0 : Int) := by omega
              have HN2 := Lib.hid (NONE.out (by rw [stepF, if_neg (fun h => hk h.2)]))
              have S5 := Lib.hid (S4.out.drop 0)
              clear S4 NONE
              go_wp2
              go_roundw
              case rel => exact ⟨k + 1, by omega, by go_num, HN2.out, S5.out⟩
              case measure => simp [intOf]; omega
            have hk' : ¬ (k : Int) ≤ (x0 : Int) := by omega
            have HST := Lib.hid (show stepF p.lks (gapsL p) f way last x0 k = ringS p.lks (gapsL p) f (way ++ [k]) by rw [stepF, if_pos ⟨HFK.out, hk⟩])
            have IH := Lib.hid ih
            have S5 := Lib.hid (S4.out.drop 0)
            clear S4
            go_wp2_with fail
            clear vw1 hx0 hx1 hx2 hx3
            generalize World.alloc wr _ = wq at S5 ⊢
            obtain ⟨e0, e1, e2, e3, e4, ef⟩ := (S5.out.bk 0 rfl).c5
            have S6 := Lib.hid S5.out.drew1
            have hql := (S5.out.bk 0 rfl).lt
            have hbq : b1 < wq.heap.size := Nat.lt_of_lt_of_le hb1 S5.out.1.size
            have RQ := HR.out.below (show Below w.heap.size w wq.drew from S6.out.1) (Nat.le_refl _)
            rw [HM.out] at RQ
            have RA : (wq.drew.alloc (.cells #[] 3)).ownsRow wq.heap.size 3 1 (.slice (some ⟨wq.heap.size, 0, none⟩) 0 0) 0 [] := World.ownsRow_made wq.drew #[] 0 (Nat.le_refl _) (by decide) rfl
            have RC0 := World.ownsRow_made (e := 3) (size := 1) (base := wq.heap.size) (wq.drew.alloc (.cells #[.int .i64 (k : Int)] 3)) #[] 0 (by simp) (by decide) rfl
            have RC : ((wq.drew.alloc (.cells #[.int .i64 (k : Int)] 3)).alloc (.cells #[] 3)).ownsRow wq.heap.size 3 1 (.slice (some ⟨wq.heap.size + 1, 0, none⟩) 0 0) 0 [] := by simpa using RC0
            have BA : Below wq.drew.heap.size wq.drew (wq.drew.alloc (.cells #[] 3)) := (Below.refl _ _).alloc (Nat.le_refl _) _
            have BB : Below wq.drew.heap.size wq.drew ((wq.drew.alloc (.cells #[] 3)).alloc (.cells #[.int .i64 (k : Int)] 3)) := BA.alloc (by simp) _
            have BC : Below wq.drew.heap.size wq.drew ((wq.drew.alloc (.cells #[.int .i64 (k : Int)] 3)).alloc (.cells #[] 3)) := ((Below.refl _ _).alloc (Nat.le_refl _) _).alloc (by simp) _
            have NA := rd_news RQ BA
            have NB := rd_news RQ BB
            have NC := rd_news RQ BC
            have HRA := Lib.hid RA
            have HRC := Lib.hid RC
            have HNA := Lib.hid NA
            have HNB := Lib.hid NB
            have HNC := Lib.hid NC
            have HBA := Lib.hid BA
            have HBB := Lib.hid BB
            have HBC := Lib.hid BC
            have HKB := Lib.hid (show ((wq.drew.alloc (.cells #[] 3)).alloc (.cells #[.int .i64 (k : Int)] 3)).heap[wq.heap.size + 1]? = some (.cells #[.int .i64 (k : Int)] 3 (0, 0)) by simpa using heap_alloc_new (wq.drew.alloc (.cells #[] 3)) (.cells #[.int .i64 (k : Int)] 3))
            have HKC := Lib.hid (show ((wq.drew.alloc (.cells #[.int .i64 (k : Int)] 3)).alloc (.cells #[] 3)).heap[wq.heap.size]? = some (.cells #[.int .i64 (k : Int)] 3 (0, 0)) from (Below.heap_alloc _ _ _ (by simp)).trans (heap_alloc_new wq.drew _))
            have HUP := Lib.hid (show (up way).map (Value.int .i64) ++ [.int .i64 (k : Int)] = (up (way ++ [k])).map (.int .i64) by rw [up_snoc, List.map_append]; rfl)
            clear RQ RA RC0 RC BA BB BC NA NB NC
            go_region_law (first
              | (refine step_append_lies _ (by rfl) (.tmp 103) (.tmp 104) 25 (by rfl) wq.heap.size 3 i0 (.int .i64 0) 1 8 Tryz.underlying25 hi0 hz0 hz1 hz2 rfl (by decide) (.slice (some ⟨wq.heap.size, 0, none⟩) 0 0) 0 [] (by rfl) (by exact HRA.out) ⟨b1, o1, none⟩ (m + 1) cC ((up way).map (.int .i64)) (by rfl) (by rw [List.length_map, up_len, HM.out, Nat.mul_one]) (by exact HNA.out) (fun u hu => by obtain ⟨x, _, rfl⟩ := List.mem_map.1 hu; rfl) (by omega) (by unfold maxLen; omega) (by omega) (by first | (simp; done) | (simp; omega)) _ rfl ?_; intro g9 c9 w9 hown9 hg9 hat9 hlt9; rw [Nat.zero_add, List.nil_append] at hown9; have HB9 := Lib.hid (HBA.out.grown hg9 (by first | (simp; done) | (simp; omega)) (fun i hi => by simp [Value.ownBlock] at hi; simp; omega)); have HO9 := Lib.hid hown9; have S9 := Lib.hid (S6.out.go HB9.out); obtain ⟨f0, f1, f2, f3, f4, ff⟩ := (S9.out.bk 0 rfl).c5; have hpl9 := (S9.out.bk 0 rfl).lt; have HG9 := Lib.hid hg9; have hw9 : wq.heap.size ≤ w9.heap.size := HB9.out.size; have hg9l : wq.heap.size ≤ g9 := (HO9.out.lt g9 rfl).1; clear hown9 hat9 hg9)
              | (refine step_append_lies _ (by rfl) (.tmp 103) (.tmp 104) 25 (by rfl) wq.heap.size 3 i0 (.int .i64 0) 1 8 Tryz.underlying25 hi0 hz0 hz1 hz2 rfl (by decide) (.slice (some ⟨wq.heap.size, 0, none⟩) 0 0) 0 [] (by rfl) (by exact HRA.out.alloc _) ⟨b1, o1, none⟩ (m + 1) cC ((up way).map (.int .i64)) (by rfl) (by rw [List.length_map, up_len, HM.out, Nat.mul_one]) (by exact HNB.out) (fun u hu => by obtain ⟨x, _, rfl⟩ := List.mem_map.1 hu; rfl) (by omega) (by unfold maxLen; omega) (by omega) (by first | (simp; done) | (simp; omega)) _ rfl ?_; intro g9 c9 w9 hown9 hg9 hat9 hlt9; rw [Nat.zero_add, List.nil_append] at hown9; have HB9 := Lib.hid (HBB.out.grown hg9 (by first | (simp; done) | (simp; omega)) (fun i hi => by simp [Value.ownBlock] at hi; simp; omega)); have HO9 := Lib.hid hown9; have S9 := Lib.hid (S6.out.go HB9.out); obtain ⟨f0, f1, f2, f3, f4, ff⟩ := (S9.out.bk 0 rfl).c5; have hpl9 := (S9.out.bk 0 rfl).lt; have HG9 := Lib.hid hg9; have hw9 : wq.heap.size ≤ w9.heap.size := HB9.out.size; have hg9l : wq.heap.size ≤ g9 := (HO9.out.lt g9 rfl).1; have K9 := Lib.hid (World.news_of_block ((hg9.block (wq.heap.size + 1) (by simp) (by simp [Value.ownBlock])).trans HKB.out)); clear hown9 hat9 hg9)
              | (refine step_append_lies _ (by rfl) (.tmp 103) (.tmp 104) 25 (by rfl) wq.heap.size 3 i0 (.int .i64 0) 1 8 Tryz.underlying25 hi0 hz0 hz1 hz2 rfl (by decide) (.slice (some ⟨wq.heap.size + 1, 0, none⟩) 0 0) 0 [] (by rfl) (by exact HRC.out) ⟨b1, o1, none⟩ (m + 1) cC ((up way).map (.int .i64)) (by rfl) (by rw [List.length_map, up_len, HM.out, Nat.mul_one]) (by exact HNC.out) (fun u hu => by obtain ⟨x, _, rfl⟩ := List.mem_map.1 hu; rfl) (by omega) (by unfold maxLen; omega) (by omega) (by first | (simp; done) | (simp; omega)) _ rfl ?_; intro g9 c9 w9 hown9 hg9 hat9 hlt9; rw [Nat.zero_add, List.nil_append] at hown9; have HB9 := Lib.hid (HBC.out.grown hg9 (by first | (simp; done) | (simp; omega)) (fun i hi => by simp [Value.ownBlock] at hi; simp; omega)); have HO9 := Lib.hid hown9; have S9 := Lib.hid (S6.out.go HB9.out); obtain ⟨f0, f1, f2, f3, f4, ff⟩ := (S9.out.bk 0 rfl).c5; have hpl9 := (S9.out.bk 0 rfl).lt; have HG9 := Lib.hid hg9; have hw9 : wq.heap.size ≤ w9.heap.size := HB9.out.size; have hg9l : wq.heap.size ≤ g9 := (HO9.out.lt g9 rfl).1; have K9 := Lib.hid (World.news_of_block ((hg9.block wq.heap.size (by simp; omega) (by simp [Value.ownBlock])).trans HKC.out)); clear hown9 hat9 hg9)
              | (refine step_append_lies _ (by rfl) (.tmp 105) (.tmp 107) 25 (by rfl) wq.heap.size 3 i0 (.int .i64 0) 1 8 Tryz.underlying25 hi0 hz0 hz1 hz2 rfl (by decide) (.slice (some ⟨g9, 0, none⟩) (m + 1) c9) (m + 1) ((up way).map (.int .i64)) (by rfl) (by exact HO9.out.alloc _) ⟨w9.heap.size, 0, none⟩ 1 1 [.int .i64 (k : Int)] (by rfl) (by rfl) (by exact one_cell _ _ _) (by simp [Value.oneCell']) (by decide) (by unfold maxLen; omega) (by omega) (by have := hw9; simp; omega) _ rfl ?_; intro g10 c10 w10 hown10 hg10 hat10 hlt10; rw [HUP.out] at hown10; have HB10 : Below wq.drew.heap.size wq.drew w10 := (HB9.out.alloc hw9 _).grown hg10 (by have := hw9; simp; omega) (fun i hi => by simp [Value.ownBlock] at hi; simp; omega); have S10 := Lib.hid (S6.out.new (flat_own hown10).1 (flat_own hown10).2 HB10); obtain ⟨d0, d1, d2, d3, d4, df⟩ := (S10.out.bk 1 rfl).c5; clear hown10 hg10 hat10 HB10)
              | (refine step_append_lies _ (by rfl) (.tmp 105) (.tmp 107) 25 (by rfl) wq.heap.size 3 i0 (.int .i64 0) 1 8 Tryz.underlying25 hi0 hz0 hz1 hz2 rfl (by decide) (.slice (some ⟨g9, 0, none⟩) (m + 1) c9) (m + 1) ((up way).map (.int .i64)) (by rfl) (by exact HO9.out) ⟨wq.heap.size + 1, 0, none⟩ 1 1 [.int .i64 (k : Int)] (by rfl) (by rfl) (by exact K9.out) (by simp [Value.oneCell']) (by decide) (by unfold maxLen; omega) (by omega) (by have := hw9; simp; omega) _ rfl ?_; intro g10 c10 w10 hown10 hg10 hat10 hlt10; rw [HUP.out] at hown10; have HB10 : Below wq.drew.heap.size wq.drew w10 := (HB9.out).grown hg10 (by have := hw9; simp; omega) (fun i hi => by simp [Value.ownBlock] at hi; simp; omega); have S10 := Lib.hid (S6.out.new (flat_own hown10).1 (flat_own hown10).2 HB10); obtain ⟨d0, d1, d2, d3, d4, df⟩ := (S10.out.bk 1 rfl).c5; clear hown10 hg10 hat10 HB10)
              | (refine step_append_lies _ (by rfl) (.tmp 105) (.tmp 107) 25 (by rfl) wq.heap.size 3 i0 (.int .i64 0) 1 8 Tryz.underlying25 hi0 hz0 hz1 hz2 rfl (by decide) (.slice (some ⟨g9, 0, none⟩) (m + 1) c9) (m + 1) ((up way).map (.int .i64)) (by rfl) (by exact HO9.out) ⟨wq.heap.size, 0, none⟩ 1 1 [.int .i64 (k : Int)] (by rfl) (by rfl) (by exact K9.out) (by simp [Value.oneCell']) (by decide) (by unfold maxLen; omega) (by omega) (by have := hw9; simp; omega) _ rfl ?_; intro g10 c10 w10 hown10 hg10 hat10 hlt10; rw [HUP.out] at hown10; have HB10 : Below wq.drew.heap.size wq.drew w10 := (HB9.out).grown hg10 (by have := hw9; simp; omega) (fun i hi => by simp [Value.ownBlock] at hi; simp; omega); have S10 := Lib.hid (S6.out.new (flat_own hown10).1 (flat_own hown10).2 HB10); obtain ⟨d0, d1, d2, d3, d4, df⟩ := (S10.out.bk 1 rfl).c5; clear hown10 hg10 hat10 HB10)
              | (go_simp; go_at_call 70; refine (IH.out (way ++ [k]) w.heap.size _ _ _ _ (by exact S10.out.old HV.out) (by rw [List.length_append, List.length_singleton, HM.out]; have := HMC.out; omega) LN.out (fun x hx => by rcases List.mem_append.1 hx with h | h; exact HC.out x h; rw [List.mem_singleton] at h; omega) (by exact (S10.out.own 0 rfl).1) (S10.out.own 0 rfl).2 (by exact S10.out.1.size)).mono ?_; rintro e w11 ⟨u11, F11, rfl, o11, h11, b11⟩; obtain ⟨U11, c11, rfl⟩ := slice_ints (Tr.own_rd _ _ _ o11); have S11 := Lib.hid ((S10.out.drop 0).go b11); have O11 := Lib.hid o11; have H11 := Lib.hid h11; clear o11 h11 b11))
            all_goals
              clear e0 e1 e2 e3 e4 ef HNA HNB HNC HRA HRC HBA HBB HBC
              have hu0 : (up ([] : List Nat)).length = 0 := rfl
              rcases hr : ringS p.lks (gapsL p) f (way ++ [k]) with _ | r
              · have HN2 := Lib.hid (NONE.out (HST.out.trans hr))
                clear hr NONE
                simp only [Option.getD_none, hu0]
                go_wp2
                go_roundw
                case rel => exact ⟨k + 1, by omega, by go_num, HN2.out, S11.out⟩
                case measure => simp [intOf]; omega
              · have HS := Lib.hid (GO2.out.trans (some_found hlt HALL.out (HST.out.trans hr)))
                have hrl := ring_len _ _ _ hr
                rw [hr] at O11
                have hn : 0 < (up r).length := by rw [up_len, hrl]; simp; omega
                clear hr hrl NONE
                simp only [Option.getD_some] at O11 ⊢
                generalize hnl : (up r).length = n at O11 hn ⊢
                have hn' : (0 : Int) < (n : Int) := by omega
                clear hnl
                go_wp2
                go_ret
                first
                  | exact ⟨_, rfl, _, by rw [HS.out]; exact Tr.own_base hB _ _ _ O11.out, H11.out, S11.out.1⟩
                  | exact ⟨_, _, rfl, by rw [HS.out]; exact Tr.own_base hB _ _ _ O11.out, H11.out, S11.out.1⟩
                  | exact ⟨_, by rw [HS.out]; exact Tr.own_base hB _ _ _ O11.out, H11.out, S11.out.1⟩
          · have hge : ¬ (k : Int) < (p.lks.length : Int) := by omega
            obtain rfl : k = p.lks.length := by omega
            have HS := Lib.hid (GO2.out.trans (some_none HALL.out))
            go_wp2
            go_ret
            first
              | exact ⟨_, rfl, _, by rw [HS.out]; exact own_nil0 _ _, List.nodup_nil, S3.out.1⟩
              | exact ⟨_, _, rfl, by rw [HS.out]; exact own_nil0 _ _, List.nodup_nil, S3.out.1⟩
              | exact ⟨_, by rw [HS.out]; exact own_nil0 _ _, List.nodup_nil, S3.out.1⟩

end Go.Proofs.YtoggakfkpeloiaaGreat
