/- DERIVED. The walk of the law FnActs, by contracts. -/
import Derived.Test.YtnbkiobbacaaiaaGreatDoorMkP
import Derived.Test.YtnbkiobbacaaiaaGreatDoorActLaw
import Derived.Test.YtnbkiobbacaaiaaGreatDoorActE
import Derived.Test.YtnbkiobbacaaiaaGreatDoorActF
import Derived.Test.YtnbkiobbacaaiaaGreatDoorActH
import Derived.Test.YtnbkiobbacaaiaaGreatDoorModF
import Derived.Test.YtnbkiobbacaaiaaGreatDoorModP
import Derived.Test.YtnbkiobbacaaiaaGreatDoorSets
import Derived.Test.YtnbkiobbacaaiaaGreatDoorAny
import Derived.Test.YtnbkiobbacaaiaaGreatDoorBts
import Derived.Test.YtnbkiobbacaaiaaGreatDoorDats
import Derived.Deep.RegionWith
import Derived.Deep.RegionHeld3
import Derived.IntWalk
namespace Go.Proofs.YtnbkiobbacaaiaaGreatDoor
open Go.RowKit
set_option linter.unusedVariables false

theorem fmtMd_size (d : Int) (u c : List Int) (hu : u.length ≤ 100) (hc : c.length ≤ 100) : (fmtMd d u c).size ≤ 10000 := by
  unfold fmtMd
  split
  · have h1 := jn_size [fmtB d, fmtsB u, fmtsB c] slash 3 (by simp)
    have h2 := fmtB_size d
    have h3 := fmts_size u
    have h4 := fmts_size c
    have h5 : slash.size = 1 := rfl
    simp [tot] at h1
    show (jn _ _ 3).size ≤ _
    omega
  · simp [ByteArray.size]
theorem TB.go {w w' : World} {B : Nat} (h : TB w) (hb : Below B w w') (hB : w.heap.size ≤ B) : TB w' := h.below hb hB

set_option maxRecDepth 100000 in
set_option maxHeartbeats 80000000 in
theorem walkFnActs (c0 : Option Addr) (len0 cap0 : Nat) (zs0 : List Int) (w : World) (hz0 : IsBytes w c0 len0 cap0 zs0) (ht : TB w) :
    Calls Tryz.prog 3 #[.slice c0 len0 cap0] w fun e w' => e = .returned (.bool true) ∧ Below w.heap.size w w' := by
  have hlz0 := (isBytes_rd hz0).1
  have hr0 := (isBytes_rd hz0).2
  generalize hxs0 : zs0.take len0 = bs at hr0
  have hlen0 : bs.length = len0 := by rw [← hxs0]; simp; omega
  have hlm0 : bs.length ≤ maxLen := by simpa using hr0.1.1
  unfold maxLen at hlm0
  clear hz0 hxs0
  have HR := Lib.hid hr0
  clear hr0
  subst hlen0
  have HT := Lib.hid ht
  clear ht
  by_cases hbig0 : (1048576 : Int) < bs.length
  · go_enter Tryz.func3, Tryz.ntmps3
    go_wp2
    go_ret
    exact ⟨rfl, Below.refl _ _⟩
  have hl0 : bs.length ≤ 1048576 := by omega
  clear hbig0
  go_enter Tryz.func3, Tryz.ntmps3
  go_wp2_with fail
  refine (makeProject_any c0 _ bs _ HR.out.1 HR.out.2 hl0).mono ?_
  rintro e w1 ⟨vp, p, Fp, rfl, hp, o, h, b1⟩
  obtain ⟨A1, c1, A2, c2, A3, c3, A4, c4, rfl, r1, r2, r3, r4⟩ := rdProject_t (Tr.own_rd _ _ _ o)
  have B1 := Lib.hid b1
  have HR1 := Lib.hid (HR.out.1.below b1 (Nat.le_refl _))
  have HRU := Lib.hid HR.out.2
  have HT1 := Lib.hid (HT.out.below b1 (Nat.le_refl _))
  have h0 : 0 < p.acts.length := by have := hp.acts.1; omega
  have h0' : (0 : Int) < (p.acts.length : Int) := by omega
  obtain ⟨_, A, c, he, ga⟩ := rdActivityS_t r1
  injection he with he hln he2
  subst he he2
  clear hln
  obtain ⟨b, of, rfl, hb, hc⟩ := ga 0 h0
  obtain ⟨M, cm, x0, x1, x2, rm⟩ := hc 0 h0
  simp only [Nat.zero_mul, Nat.add_zero] at x0 x1 x2
  have HA := Lib.hid (mk_rdActivity_t (d := p.acts[0]) rm)
  have RM := Lib.hid rm
  have DA := Lib.hid (hp.acts.2.2 0 h0)
  have hR := hp.ress.1
  have hR2 := hp.ress.2.1
  have hS2 := hp.stk.1
  clear r1 r2 r3 r4 o h hp ga hc rm b1
  generalize p.ress.length = R at *
  generalize p.stk.length = Sk at *
  generalize p.acts[0] = a at x0 x1 x2 HA RM DA
  generalize p.acts.length = na at *
  have hn1 := DA.out.2.2.2.1
  have hn2 := DA.out.2.2.2.2.1
  have AOK := Lib.hid (DA.out.ok (by omega))
  have RL := Lib.hid (range_len (n := a.ms.length) (by omega))
  have T0 := Lib.hid (((Sn.start w1).box 28 [.int .i64 p.dl, .slice (some ⟨b, of, none⟩) na c1, .slice A2 p.lks.length c2, .slice A3 R c3, .slice A4 Sk c4]).box 32 [.string a.nm, .int .i64 a.fa, .slice M a.ms.length cm])
  simp only [World.size_alloc] at T0
  have hnm : a.nm.size ≤ maxLen := by rw [DA.out.1]; exact Nat.le_trans (name_ok 0 (by omega)).2 (by unfold maxLen; omega)
  have HNM := Lib.hid hnm
  generalize p.dl = dl at T0 ⊢
  generalize p.lks.length = nl at T0 ⊢
  clear HR HT hnm
  go_wp2_with fail
  refine (implModeIndexes_any a _ _ (by exact T0.out.old HA.out)).mono ?_
  rintro e w2 ⟨va, rfl, o, b2⟩
  have T1 := Lib.hid (T0.out.newI o b2)
  clear T0 o b2 x0 x1 x2
  go_wp2_with fail
  refine (makeList_any 1 c0 _ bs _ (by exact HR1.out.below T1.out.1 (Nat.le_refl _)) HRU.out hl0).mono ?_
  rintro e w3 ⟨vb, xs, rfl, hfx, o, b2⟩
  have T2 := Lib.hid (T1.out.newI o b2)
  have hlx : xs.length ≤ 5 := hfx.1
  clear T1 o b2 hfx
  have hlr : (rangeB (a.ms.length : Int)).length ≤ 200 := by have := RL.out; omega
  go_wp2_with fail
  refine (implInter_any (rangeB (a.ms.length : Int)) xs _ _ _ (by exact T2.out.rdI 1 rfl) (by exact nilOk_own (T2.out.ownI 1 rfl)) (by exact T2.out.rdI 0 rfl) (by exact nilOk_own (T2.out.ownI 0 rfl)) (by omega) (by omega)).mono ?_
  rintro e w4 ⟨vc, rfl, o, b2⟩
  have T3 := Lib.hid (T2.out.newI o b2)
  clear T2 o b2
  -- the three lists: vc (some), vb, va (all)
  obtain ⟨VC, cc_, hvc, _⟩ := rdI_slice (T3.out.rdI 0 rfl)
  obtain ⟨VA, ca_, hva, _⟩ := rdI_slice (T3.out.rdI 2 rfl)
  subst hvc hva
  have FEW := Lib.hid (fun h => fewer_modes DA.out hR (xs := xs) h)
  have ONE := Lib.hid (fun m (hm : m ∈ a.ms) => one_mode DA.out hR hm)
  generalize hrg : rangeB (a.ms.length : Int) = rg at T3 RL FEW ONE hlr ⊢
  generalize interB rg xs = sm at T3 FEW ⊢
  rw [RL.out] at T3 ⊢
  have HRG := Lib.hid hrg
  clear hrg
  obtain ⟨c0_, c1_, c2_, cf_⟩ := (T3.out.bk 3 rfl).c3
  obtain ⟨p0_, p1_, p2_, p3_, p4_, pf_⟩ := (T3.out.bk 4 rfl).c5
  go_wp2_with fail
  clear c0_ c1_ c2_ cf_ p0_ p1_ p2_ p3_ p4_ pf_
  refine (implActivityOk_any a R Sk _ _ HNM.out (by exact T3.out.old HA.out)).mono ?_
  rintro e w5 ⟨rfl, b2⟩
  have T4 := Lib.hid (T3.out.go b2)
  clear T3 b2
  rw [AOK.out]
  obtain ⟨c0_, c1_, c2_, cf_⟩ := (T4.out.bk 3 rfl).c3
  go_wp2_with fail
  clear c0_ c1_ c2_ cf_
  refine (implActivityEqual_any a a _ _ _ (by exact T4.out.old HA.out) (by exact T4.out.old HA.out)).mono ?_
  rintro e w6 ⟨rfl, b2⟩
  have T5 := Lib.hid (T4.out.go b2)
  clear T4 b2
  rw [decide_eq_true rfl]
  obtain ⟨c0_, c1_, c2_, cf_⟩ := (T5.out.bk 3 rfl).c3
  go_wp2
  clear c0_ c1_ c2_ cf_
  obtain ⟨T, hT⟩ : ∃ T, T = T5 := ⟨_, rfl⟩
  have T6 := Lib.hid T5.out
  clear T hT T5
  generalize hFC : (Value.slice VC sm.length cc_).ownBlock.toList = FC at T6
  generalize hFA : (Value.slice VA a.ms.length ca_).ownBlock.toList = FA at T6
  generalize vb.ownBlock.toList = FB at T6
  generalize hnrg : rg.length = nrg at T6
  have HNRG := Lib.hid (show nrg = a.ms.length from hnrg.symm.trans RL.out)
  clear hFC hFA hnrg
  go_loopw [52] (fun i wr => ∃ k : Nat, k ≤ a.ms.length ∧ i = .int .i64 k ∧ Sn w1 wr [⟨flat 3 (sm.map (.int .i64)), .slice VC sm.length cc_, FC⟩, ⟨flat 3 (xs.map (.int .i64)), vb, FB⟩, ⟨flat 3 (rg.map (.int .i64)), .slice VA a.ms.length ca_, FA⟩, boxI (w1.heap.size + 1) 32 [.string a.nm, .int .i64 a.fa, .slice M a.ms.length cm], boxI w1.heap.size 28 [.int .i64 dl, .slice (some ⟨b, of, none⟩) na c1, .slice A2 nl c2, .slice A3 R c3, .slice A4 Sk c4]]) (fun i _ => a.ms.length - (intOf i).toNat)
  case atStart => exact ⟨0, Nat.zero_le _, rfl, T6.out⟩
  case round =>
    obtain ⟨k, hkl, rfl, hS⟩ := hrel
    have U0 := Lib.hid hS
    clear hS T6
    by_cases hlt : k < a.ms.length
    · have hlt' : (k : Int) < (a.ms.length : Int) := by omega
      obtain ⟨_, M', cm', he, gm⟩ := rdModeS_t RM.out
      injection he with he hln he2
      subst he he2
      clear hln
      obtain ⟨b2, o2, rfl, hb2, hc2⟩ := gm k hlt
      obtain ⟨P, cp, Q, cq, q0, q1, q2, ru, rq⟩ := hc2 k hlt
      have hy0 := (U0.out.1.cell (p := ⟨b2, o2 + k * 3, none⟩) hb2).trans q0
      have hy1 := (U0.out.1.cell (p := ⟨b2, o2 + k * 3 + 1, none⟩) hb2).trans q1
      have hy2 := (U0.out.1.cell (p := ⟨b2, o2 + k * 3 + 2, none⟩) hb2).trans q2
      have HM := Lib.hid (mk_rdMode_t (d := a.ms[k]) ru rq)
      have RUS := Lib.hid ru
      have RCO := Lib.hid rq
      have O := Lib.hid (ONE.out _ (List.getElem_mem hlt))
      have DM := Lib.hid (DA.out.2.2.2.2.2 _ (List.getElem_mem hlt))
      clear gm hc2 q0 q1 q2 ru rq
      generalize a.ms[k] = m at hy0 hy1 hy2 HM RUS RCO O DM
      have hul : m.us.length ≤ 100 := by have := DM.out.2.2.1; omega
      have hcl : m.co.length ≤ 100 := by have := DM.out.2.2.2.1; omega
      have hfs := fmtMd_size m.du m.us m.co hul hcl
      have lim : ∀ us : List Int, DrI us → inR us := fun us hd n hx => by have := hd n hx; omega
      have L1 := Lib.hid (lim _ DM.out.2.2.2.2.1)
      have L2 := Lib.hid (lim _ DM.out.2.2.2.2.2)
      have hd1 := DM.out.1
      have hd2 := DM.out.2.1
      clear lim
      have U1 := Lib.hid (U0.out.box 39 [.int .i64 m.du, .slice P m.us.length cp, .slice Q m.co.length cq])
      clear U0
      go_wp2_with fail
      refine (implFmtMode_any m _ _ (by exact U1.out.old HM.out) (by omega) (by omega) L1.out L2.out (by exact HT1.out.below U1.out.1 (Nat.le_refl _))).mono ?_
      rintro e w7 ⟨rfl, bb⟩
      have U2 := Lib.hid (U1.out.go bb)
      clear U1 bb
      have OT := Lib.hid O.out.txt
      have OB := Lib.hid O.out.back
      generalize fmtMd m.du m.us m.co = txt at OT OB hfs ⊢
      go_wp2_with fail
      refine (implParMode_any txt _ (by omega) (by exact HT1.out.below U2.out.1 (Nat.le_refl _))).mono ?_
      rintro e w8 ⟨vx, FX, rfl, o, h, bb⟩
      obtain ⟨X1, x1_, X2, x2_, rfl, _, _⟩ := rdMode_t (Tr.own_rd _ _ _ o)
      rw [OT.out, OB.out]
      have U3 := Lib.hid ((U2.out.go bb).box 39 [.int .i64 m.du, .slice X1 (parMd txt).us.length x1_, .slice X2 (parMd txt).co.length x2_])
      clear U2 bb o h
      generalize (parMd txt).us.length = lx1 at U3 ⊢
      generalize (parMd txt).co.length = lx2 at U3 ⊢
      obtain ⟨hu0, ou1, ou2, ou3, ou4⟩ := O.out.us
      rw [HRG.out] at ou1 ou2
      obtain ⟨_, P', cp', he, gu⟩ := rdI (rd_flat RUS.out)
      injection he with he hln he2
      subst he he2
      clear hln
      obtain ⟨b3, o3, rfl, hb3, hc3⟩ := gu 0 hu0
      have hux := hc3 0 hu0
      simp only [Nat.add_zero] at hux
      have hu0' : (0 : Int) < (m.us.length : Int) := by omega
      clear gu hc3
      generalize m.us[0] = x at hux ou1 ou2 ou3 ou4
      have ol := O.out.lo
      have oh := O.out.hi
      rw [HRG.out] at ol oh
      have OK1 := Lib.hid O.out.ok
      go_wp2_with fail
      generalize w8.alloc _ = wv at U3 ⊢
      by_cases hco : 0 < m.co.length
      case neg =>
        have hco' : ¬ (0 : Int) < (m.co.length : Int) := by omega
        have hz : m.co.length = 0 := by omega
        generalize m.co.length = lc at *
        subst hz
        have CELLS := Lib.hid (fun (W : World) (h : Sn w1 W [boxI w8.heap.size 39 [.int .i64 m.du, .slice X1 lx1 x1_, .slice X2 lx2 x2_], boxI wr.heap.size 39 [.int .i64 m.du, .slice (some ⟨b3, o3, none⟩) m.us.length cp, .slice Q 0 cq], ⟨flat 3 (sm.map (.int .i64)), .slice VC sm.length cc_, FC⟩, ⟨flat 3 (xs.map (.int .i64)), vb, FB⟩, ⟨flat 3 (rg.map (.int .i64)), .slice VA a.ms.length ca_, FA⟩, boxI (w1.heap.size + 1) 32 [.string a.nm, .int .i64 a.fa, .slice (some ⟨b2, o2, none⟩) a.ms.length cm], boxI w1.heap.size 28 [.int .i64 dl, .slice (some ⟨b, of, none⟩) na c1, .slice A2 nl c2, .slice A3 R c3, .slice A4 Sk c4]]) => show Hid (Sn w1 W [boxI w8.heap.size 39 [.int .i64 m.du, .slice X1 lx1 x1_, .slice X2 lx2 x2_], boxI wr.heap.size 39 [.int .i64 m.du, .slice (some ⟨b3, o3, none⟩) m.us.length cp, .slice Q 0 cq], ⟨flat 3 (sm.map (.int .i64)), .slice VC sm.length cc_, FC⟩, ⟨flat 3 (xs.map (.int .i64)), vb, FB⟩, ⟨flat 3 (rg.map (.int .i64)), .slice VA a.ms.length ca_, FA⟩, boxI (w1.heap.size + 1) 32 [.string a.nm, .int .i64 a.fa, .slice (some ⟨b2, o2, none⟩) a.ms.length cm], boxI w1.heap.size 28 [.int .i64 dl, .slice (some ⟨b, of, none⟩) na c1, .slice A2 nl c2, .slice A3 R c3, .slice A4 Sk c4]]) ∧ W.cell? ⟨w8.heap.size, 0, none⟩ = some (.int .i64 m.du) ∧ W.cell? ⟨wr.heap.size, 0, none⟩ = some (.int .i64 m.du) ∧ W.cell? ⟨wr.heap.size, 1, none⟩ = some (.slice (some ⟨b3, o3, none⟩) m.us.length cp) ∧ W.cell? ⟨wr.heap.size, 2, none⟩ = some (.slice Q 0 cq) ∧ W.cell? ⟨(w1.heap.size + 1), 0, none⟩ = some (.string a.nm) ∧ W.cell? ⟨(w1.heap.size + 1), 1, none⟩ = some (.int .i64 a.fa) ∧ W.cell? ⟨(w1.heap.size + 1), 2, none⟩ = some (.slice (some ⟨b2, o2, none⟩) a.ms.length cm) ∧ W.cell? ⟨w1.heap.size, 3, none⟩ = some (.slice A3 R c3) ∧ W.cell? ⟨w1.heap.size, 4, none⟩ = some (.slice A4 Sk c4) ∧ W.cell? ⟨b3, o3, none⟩ = some (.int .i64 x) from ⟨Lib.hid h, (h.bk 0 rfl).cell 0, (h.bk 1 rfl).cell 0, (h.bk 1 rfl).cell 1, (h.bk 1 rfl).cell 2, (h.bk 5 rfl).cell 0, (h.bk 5 rfl).cell 1, (h.bk 5 rfl).cell 2, (h.bk 6 rfl).cell 3, (h.bk 6 rfl).cell 4, (h.1.cell (p := ⟨b3, o3, none⟩) hb3).trans hux⟩)
        have INIT := Lib.hid (CELLS.out _ U3.out.drew1)
        have KEEP := Lib.hid (fun (W2 W : World) (hb : Below W.heap.size W W2) (h : Hid (Sn w1 W [boxI w8.heap.size 39 [.int .i64 m.du, .slice X1 lx1 x1_, .slice X2 lx2 x2_], boxI wr.heap.size 39 [.int .i64 m.du, .slice (some ⟨b3, o3, none⟩) m.us.length cp, .slice Q 0 cq], ⟨flat 3 (sm.map (.int .i64)), .slice VC sm.length cc_, FC⟩, ⟨flat 3 (xs.map (.int .i64)), vb, FB⟩, ⟨flat 3 (rg.map (.int .i64)), .slice VA a.ms.length ca_, FA⟩, boxI (w1.heap.size + 1) 32 [.string a.nm, .int .i64 a.fa, .slice (some ⟨b2, o2, none⟩) a.ms.length cm], boxI w1.heap.size 28 [.int .i64 dl, .slice (some ⟨b, of, none⟩) na c1, .slice A2 nl c2, .slice A3 R c3, .slice A4 Sk c4]]) ∧ W.cell? ⟨w8.heap.size, 0, none⟩ = some (.int .i64 m.du) ∧ W.cell? ⟨wr.heap.size, 0, none⟩ = some (.int .i64 m.du) ∧ W.cell? ⟨wr.heap.size, 1, none⟩ = some (.slice (some ⟨b3, o3, none⟩) m.us.length cp) ∧ W.cell? ⟨wr.heap.size, 2, none⟩ = some (.slice Q 0 cq) ∧ W.cell? ⟨(w1.heap.size + 1), 0, none⟩ = some (.string a.nm) ∧ W.cell? ⟨(w1.heap.size + 1), 1, none⟩ = some (.int .i64 a.fa) ∧ W.cell? ⟨(w1.heap.size + 1), 2, none⟩ = some (.slice (some ⟨b2, o2, none⟩) a.ms.length cm) ∧ W.cell? ⟨w1.heap.size, 3, none⟩ = some (.slice A3 R c3) ∧ W.cell? ⟨w1.heap.size, 4, none⟩ = some (.slice A4 Sk c4) ∧ W.cell? ⟨b3, o3, none⟩ = some (.int .i64 x)) => CELLS.out W2 (h.1.out.go hb))
        have M1 := Lib.hid (fun (W : World) (h : Hid (Sn w1 W [boxI w8.heap.size 39 [.int .i64 m.du, .slice X1 lx1 x1_, .slice X2 lx2 x2_], boxI wr.heap.size 39 [.int .i64 m.du, .slice (some ⟨b3, o3, none⟩) m.us.length cp, .slice Q 0 cq], ⟨flat 3 (sm.map (.int .i64)), .slice VC sm.length cc_, FC⟩, ⟨flat 3 (xs.map (.int .i64)), vb, FB⟩, ⟨flat 3 (rg.map (.int .i64)), .slice VA a.ms.length ca_, FA⟩, boxI (w1.heap.size + 1) 32 [.string a.nm, .int .i64 a.fa, .slice (some ⟨b2, o2, none⟩) a.ms.length cm], boxI w1.heap.size 28 [.int .i64 dl, .slice (some ⟨b, of, none⟩) na c1, .slice A2 nl c2, .slice A3 R c3, .slice A4 Sk c4]]) ∧ W.cell? ⟨w8.heap.size, 0, none⟩ = some (.int .i64 m.du) ∧ W.cell? ⟨wr.heap.size, 0, none⟩ = some (.int .i64 m.du) ∧ W.cell? ⟨wr.heap.size, 1, none⟩ = some (.slice (some ⟨b3, o3, none⟩) m.us.length cp) ∧ W.cell? ⟨wr.heap.size, 2, none⟩ = some (.slice Q 0 cq) ∧ W.cell? ⟨(w1.heap.size + 1), 0, none⟩ = some (.string a.nm) ∧ W.cell? ⟨(w1.heap.size + 1), 1, none⟩ = some (.int .i64 a.fa) ∧ W.cell? ⟨(w1.heap.size + 1), 2, none⟩ = some (.slice (some ⟨b2, o2, none⟩) a.ms.length cm) ∧ W.cell? ⟨w1.heap.size, 3, none⟩ = some (.slice A3 R c3) ∧ W.cell? ⟨w1.heap.size, 4, none⟩ = some (.slice A4 Sk c4) ∧ W.cell? ⟨b3, o3, none⟩ = some (.int .i64 x)) => implModeOk_any m R Sk _ W (h.1.out.old HM.out))
        have M2 := fun (W : World) (h : Hid (Sn w1 W [boxI w8.heap.size 39 [.int .i64 m.du, .slice X1 lx1 x1_, .slice X2 lx2 x2_], boxI wr.heap.size 39 [.int .i64 m.du, .slice (some ⟨b3, o3, none⟩) m.us.length cp, .slice Q 0 cq], ⟨flat 3 (sm.map (.int .i64)), .slice VC sm.length cc_, FC⟩, ⟨flat 3 (xs.map (.int .i64)), vb, FB⟩, ⟨flat 3 (rg.map (.int .i64)), .slice VA a.ms.length ca_, FA⟩, boxI (w1.heap.size + 1) 32 [.string a.nm, .int .i64 a.fa, .slice (some ⟨b2, o2, none⟩) a.ms.length cm], boxI w1.heap.size 28 [.int .i64 dl, .slice (some ⟨b, of, none⟩) na c1, .slice A2 nl c2, .slice A3 R c3, .slice A4 Sk c4]]) ∧ W.cell? ⟨w8.heap.size, 0, none⟩ = some (.int .i64 m.du) ∧ W.cell? ⟨wr.heap.size, 0, none⟩ = some (.int .i64 m.du) ∧ W.cell? ⟨wr.heap.size, 1, none⟩ = some (.slice (some ⟨b3, o3, none⟩) m.us.length cp) ∧ W.cell? ⟨wr.heap.size, 2, none⟩ = some (.slice Q 0 cq) ∧ W.cell? ⟨(w1.heap.size + 1), 0, none⟩ = some (.string a.nm) ∧ W.cell? ⟨(w1.heap.size + 1), 1, none⟩ = some (.int .i64 a.fa) ∧ W.cell? ⟨(w1.heap.size + 1), 2, none⟩ = some (.slice (some ⟨b2, o2, none⟩) a.ms.length cm) ∧ W.cell? ⟨w1.heap.size, 3, none⟩ = some (.slice A3 R c3) ∧ W.cell? ⟨w1.heap.size, 4, none⟩ = some (.slice A4 Sk c4) ∧ W.cell? ⟨b3, o3, none⟩ = some (.int .i64 x)) => implMinDuration_any a rg _ _ W (h.1.out.old HA.out) (h.1.out.rdI 4 rfl)
        have M3 := fun (W : World) (h : Hid (Sn w1 W [boxI w8.heap.size 39 [.int .i64 m.du, .slice X1 lx1 x1_, .slice X2 lx2 x2_], boxI wr.heap.size 39 [.int .i64 m.du, .slice (some ⟨b3, o3, none⟩) m.us.length cp, .slice Q 0 cq], ⟨flat 3 (sm.map (.int .i64)), .slice VC sm.length cc_, FC⟩, ⟨flat 3 (xs.map (.int .i64)), vb, FB⟩, ⟨flat 3 (rg.map (.int .i64)), .slice VA a.ms.length ca_, FA⟩, boxI (w1.heap.size + 1) 32 [.string a.nm, .int .i64 a.fa, .slice (some ⟨b2, o2, none⟩) a.ms.length cm], boxI w1.heap.size 28 [.int .i64 dl, .slice (some ⟨b, of, none⟩) na c1, .slice A2 nl c2, .slice A3 R c3, .slice A4 Sk c4]]) ∧ W.cell? ⟨w8.heap.size, 0, none⟩ = some (.int .i64 m.du) ∧ W.cell? ⟨wr.heap.size, 0, none⟩ = some (.int .i64 m.du) ∧ W.cell? ⟨wr.heap.size, 1, none⟩ = some (.slice (some ⟨b3, o3, none⟩) m.us.length cp) ∧ W.cell? ⟨wr.heap.size, 2, none⟩ = some (.slice Q 0 cq) ∧ W.cell? ⟨(w1.heap.size + 1), 0, none⟩ = some (.string a.nm) ∧ W.cell? ⟨(w1.heap.size + 1), 1, none⟩ = some (.int .i64 a.fa) ∧ W.cell? ⟨(w1.heap.size + 1), 2, none⟩ = some (.slice (some ⟨b2, o2, none⟩) a.ms.length cm) ∧ W.cell? ⟨w1.heap.size, 3, none⟩ = some (.slice A3 R c3) ∧ W.cell? ⟨w1.heap.size, 4, none⟩ = some (.slice A4 Sk c4) ∧ W.cell? ⟨b3, o3, none⟩ = some (.int .i64 x)) => implMaxDuration_any a rg _ _ W (h.1.out.old HA.out) (h.1.out.rdI 4 rfl)
        have M4 := fun (W : World) (h : Hid (Sn w1 W [boxI w8.heap.size 39 [.int .i64 m.du, .slice X1 lx1 x1_, .slice X2 lx2 x2_], boxI wr.heap.size 39 [.int .i64 m.du, .slice (some ⟨b3, o3, none⟩) m.us.length cp, .slice Q 0 cq], ⟨flat 3 (sm.map (.int .i64)), .slice VC sm.length cc_, FC⟩, ⟨flat 3 (xs.map (.int .i64)), vb, FB⟩, ⟨flat 3 (rg.map (.int .i64)), .slice VA a.ms.length ca_, FA⟩, boxI (w1.heap.size + 1) 32 [.string a.nm, .int .i64 a.fa, .slice (some ⟨b2, o2, none⟩) a.ms.length cm], boxI w1.heap.size 28 [.int .i64 dl, .slice (some ⟨b, of, none⟩) na c1, .slice A2 nl c2, .slice A3 R c3, .slice A4 Sk c4]]) ∧ W.cell? ⟨w8.heap.size, 0, none⟩ = some (.int .i64 m.du) ∧ W.cell? ⟨wr.heap.size, 0, none⟩ = some (.int .i64 m.du) ∧ W.cell? ⟨wr.heap.size, 1, none⟩ = some (.slice (some ⟨b3, o3, none⟩) m.us.length cp) ∧ W.cell? ⟨wr.heap.size, 2, none⟩ = some (.slice Q 0 cq) ∧ W.cell? ⟨(w1.heap.size + 1), 0, none⟩ = some (.string a.nm) ∧ W.cell? ⟨(w1.heap.size + 1), 1, none⟩ = some (.int .i64 a.fa) ∧ W.cell? ⟨(w1.heap.size + 1), 2, none⟩ = some (.slice (some ⟨b2, o2, none⟩) a.ms.length cm) ∧ W.cell? ⟨w1.heap.size, 3, none⟩ = some (.slice A3 R c3) ∧ W.cell? ⟨w1.heap.size, 4, none⟩ = some (.slice A4 Sk c4) ∧ W.cell? ⟨b3, o3, none⟩ = some (.int .i64 x)) => implMinUsage_any a rg 0 _ _ W (h.1.out.old HA.out) (h.1.out.rdI 4 rfl)
        have M5 := fun (W : World) (h : Hid (Sn w1 W [boxI w8.heap.size 39 [.int .i64 m.du, .slice X1 lx1 x1_, .slice X2 lx2 x2_], boxI wr.heap.size 39 [.int .i64 m.du, .slice (some ⟨b3, o3, none⟩) m.us.length cp, .slice Q 0 cq], ⟨flat 3 (sm.map (.int .i64)), .slice VC sm.length cc_, FC⟩, ⟨flat 3 (xs.map (.int .i64)), vb, FB⟩, ⟨flat 3 (rg.map (.int .i64)), .slice VA a.ms.length ca_, FA⟩, boxI (w1.heap.size + 1) 32 [.string a.nm, .int .i64 a.fa, .slice (some ⟨b2, o2, none⟩) a.ms.length cm], boxI w1.heap.size 28 [.int .i64 dl, .slice (some ⟨b, of, none⟩) na c1, .slice A2 nl c2, .slice A3 R c3, .slice A4 Sk c4]]) ∧ W.cell? ⟨w8.heap.size, 0, none⟩ = some (.int .i64 m.du) ∧ W.cell? ⟨wr.heap.size, 0, none⟩ = some (.int .i64 m.du) ∧ W.cell? ⟨wr.heap.size, 1, none⟩ = some (.slice (some ⟨b3, o3, none⟩) m.us.length cp) ∧ W.cell? ⟨wr.heap.size, 2, none⟩ = some (.slice Q 0 cq) ∧ W.cell? ⟨(w1.heap.size + 1), 0, none⟩ = some (.string a.nm) ∧ W.cell? ⟨(w1.heap.size + 1), 1, none⟩ = some (.int .i64 a.fa) ∧ W.cell? ⟨(w1.heap.size + 1), 2, none⟩ = some (.slice (some ⟨b2, o2, none⟩) a.ms.length cm) ∧ W.cell? ⟨w1.heap.size, 3, none⟩ = some (.slice A3 R c3) ∧ W.cell? ⟨w1.heap.size, 4, none⟩ = some (.slice A4 Sk c4) ∧ W.cell? ⟨b3, o3, none⟩ = some (.int .i64 x)) => implMinWork_any a rg 0 _ _ W (h.1.out.old HA.out) (h.1.out.rdI 4 rfl)
        have M1b := M1.out
        rw [OK1.out] at M1b
        have M1 := Lib.hid M1b
        clear M1b
        generalize selB ltB durV a.ms rg = z1 at ol M2
        generalize selB gtB durV a.ms rg = z2 at oh M3
        generalize selB ltB (leastV 0 false false) a.ms rg = z3 at ou1 M4
        generalize selB ltB (leastV 0 false true) a.ms rg = z4 at ou2 M5
        have hd1 : decide (m.du < z1) = false := decide_eq_false (by omega)
        have hd2 : decide (z2 < m.du) = false := decide_eq_false (by omega)
        have hd3 : decide (x < z3) = false := decide_eq_false (by omega)
        have hd4 : decide (m.du * x < z4) = false := decide_eq_false (by omega)
        have hw4 : IntKind.i64.wrap (m.du * x) = m.du * x := IntWalk.i64_in _ (by omega)
        have hd6 : decide ((0 : Int) < ((0 : Nat) : Int)) = false := rfl
        have hd7 : decide ((0 : Nat) < 0) = false := rfl
        have DROP := Lib.hid (fun (W : World) (h : Hid (Sn w1 W [boxI w8.heap.size 39 [.int .i64 m.du, .slice X1 lx1 x1_, .slice X2 lx2 x2_], boxI wr.heap.size 39 [.int .i64 m.du, .slice (some ⟨b3, o3, none⟩) m.us.length cp, .slice Q 0 cq], ⟨flat 3 (sm.map (.int .i64)), .slice VC sm.length cc_, FC⟩, ⟨flat 3 (xs.map (.int .i64)), vb, FB⟩, ⟨flat 3 (rg.map (.int .i64)), .slice VA a.ms.length ca_, FA⟩, boxI (w1.heap.size + 1) 32 [.string a.nm, .int .i64 a.fa, .slice (some ⟨b2, o2, none⟩) a.ms.length cm], boxI w1.heap.size 28 [.int .i64 dl, .slice (some ⟨b, of, none⟩) na c1, .slice A2 nl c2, .slice A3 R c3, .slice A4 Sk c4]]) ∧ W.cell? ⟨w8.heap.size, 0, none⟩ = some (.int .i64 m.du) ∧ W.cell? ⟨wr.heap.size, 0, none⟩ = some (.int .i64 m.du) ∧ W.cell? ⟨wr.heap.size, 1, none⟩ = some (.slice (some ⟨b3, o3, none⟩) m.us.length cp) ∧ W.cell? ⟨wr.heap.size, 2, none⟩ = some (.slice Q 0 cq) ∧ W.cell? ⟨(w1.heap.size + 1), 0, none⟩ = some (.string a.nm) ∧ W.cell? ⟨(w1.heap.size + 1), 1, none⟩ = some (.int .i64 a.fa) ∧ W.cell? ⟨(w1.heap.size + 1), 2, none⟩ = some (.slice (some ⟨b2, o2, none⟩) a.ms.length cm) ∧ W.cell? ⟨w1.heap.size, 3, none⟩ = some (.slice A3 R c3) ∧ W.cell? ⟨w1.heap.size, 4, none⟩ = some (.slice A4 Sk c4) ∧ W.cell? ⟨b3, o3, none⟩ = some (.int .i64 x)) => (h.1.out.drop 0).drop 0)
        have N2 := Lib.hid M2
        clear M2
        have N3 := Lib.hid M3
        clear M3
        have N4 := Lib.hid M4
        clear M4
        have N5 := Lib.hid M5
        clear M5
        have UD := Lib.hid U3.out
        clear U3
        simp only [List.append_eq, List.cons_append, List.nil_append]
        refine wp_region_held_drew (S := fun w' => Hid (Sn w1 w' [boxI w8.heap.size 39 [.int .i64 m.du, .slice X1 lx1 x1_, .slice X2 lx2 x2_], boxI wr.heap.size 39 [.int .i64 m.du, .slice (some ⟨b3, o3, none⟩) m.us.length cp, .slice Q 0 cq], ⟨flat 3 (sm.map (.int .i64)), .slice VC sm.length cc_, FC⟩, ⟨flat 3 (xs.map (.int .i64)), vb, FB⟩, ⟨flat 3 (rg.map (.int .i64)), .slice VA a.ms.length ca_, FA⟩, boxI (w1.heap.size + 1) 32 [.string a.nm, .int .i64 a.fa, .slice (some ⟨b2, o2, none⟩) a.ms.length cm], boxI w1.heap.size 28 [.int .i64 dl, .slice (some ⟨b, of, none⟩) na c1, .slice A2 nl c2, .slice A3 R c3, .slice A4 Sk c4]]) ∧ w'.cell? ⟨w8.heap.size, 0, none⟩ = some (.int .i64 m.du) ∧ w'.cell? ⟨wr.heap.size, 0, none⟩ = some (.int .i64 m.du) ∧ w'.cell? ⟨wr.heap.size, 1, none⟩ = some (.slice (some ⟨b3, o3, none⟩) m.us.length cp) ∧ w'.cell? ⟨wr.heap.size, 2, none⟩ = some (.slice Q 0 cq) ∧ w'.cell? ⟨(w1.heap.size + 1), 0, none⟩ = some (.string a.nm) ∧ w'.cell? ⟨(w1.heap.size + 1), 1, none⟩ = some (.int .i64 a.fa) ∧ w'.cell? ⟨(w1.heap.size + 1), 2, none⟩ = some (.slice (some ⟨b2, o2, none⟩) a.ms.length cm) ∧ w'.cell? ⟨w1.heap.size, 3, none⟩ = some (.slice A3 R c3) ∧ w'.cell? ⟨w1.heap.size, 4, none⟩ = some (.slice A4 Sk c4) ∧ w'.cell? ⟨b3, o3, none⟩ = some (.int .i64 x)) (by kernel_rfl) INIT.out (fun hHeld => ?_)
        refine wpAnyH_take (i := 0) (v := ?_) rfl (by kernel_rfl) (by kernel_rfl) (by kernel_rfl) (fun _ _ _ h => h) (Or.inl ⟨by rfl, ?_⟩) (by assumption) ?_
        rotate_left
        · (intro W hSw; (try dsimp only at hSw); go_simp <;> with_reducible rfl)
        (try simp only [Act.put, List.getElem_toArray, List.getElem_cons_zero, List.setIfInBounds_toArray, List.set_cons_succ, List.set_cons_zero])
        refine wpAnyH_take (i := 1) (v := ?_) rfl (by kernel_rfl) (by kernel_rfl) (by kernel_rfl) (fun _ _ _ h => h) (Or.inl ⟨by rfl, ?_⟩) (by assumption) ?_
        rotate_left
        · (intro W hSw; (try dsimp only at hSw); go_simp <;> with_reducible rfl)
        (try simp only [Act.put, List.getElem_toArray, List.getElem_cons_succ, List.getElem_cons_zero, List.setIfInBounds_toArray, List.set_cons_succ, List.set_cons_zero])
        refine wpAnyH_take (i := 2) (v := ?_) rfl (by kernel_rfl) (by kernel_rfl) (by kernel_rfl) (fun _ _ _ h => h) (Or.inl ⟨by rfl, ?_⟩) (by assumption) ?_
        rotate_left
        · (intro W hSw; (try dsimp only at hSw); go_simp <;> with_reducible rfl)
        (try simp only [Act.put, List.getElem_toArray, List.getElem_cons_succ, List.getElem_cons_zero, List.setIfInBounds_toArray, List.set_cons_succ, List.set_cons_zero])
        refine wpAnyH_take (i := 3) (v := ?_) rfl (by kernel_rfl) (by kernel_rfl) (by kernel_rfl) (fun _ _ _ h => h) (Or.inl ⟨by rfl, ?_⟩) (by assumption) ?_
        rotate_left
        · (intro W hSw; (try dsimp only at hSw); go_simp <;> with_reducible rfl)
        (try simp only [Act.put, List.getElem_toArray, List.getElem_cons_succ, List.getElem_cons_zero, List.setIfInBounds_toArray, List.set_cons_succ, List.set_cons_zero])
        refine wpAnyH_take (i := 4) (v := ?_) rfl (by kernel_rfl) (by kernel_rfl) (by kernel_rfl) (fun _ _ _ h => h) (Or.inl ⟨by rfl, ?_⟩) (by assumption) ?_
        rotate_left
        · (intro W hSw; (try dsimp only at hSw); go_simp <;> with_reducible rfl)
        (try simp only [Act.put, List.getElem_toArray, List.getElem_cons_succ, List.getElem_cons_zero, List.setIfInBounds_toArray, List.set_cons_succ, List.set_cons_zero])
        refine wpAnyH_take (i := 5) (v := ?_) rfl (by kernel_rfl) (by kernel_rfl) (by kernel_rfl) (fun _ _ _ h => h) (Or.inl ⟨by rfl, ?_⟩) (by assumption) ?_
        rotate_left
        · (intro W hSw; (try dsimp only at hSw); go_simp <;> with_reducible rfl)
        (try simp only [Act.put, List.getElem_toArray, List.getElem_cons_succ, List.getElem_cons_zero, List.setIfInBounds_toArray, List.set_cons_succ, List.set_cons_zero])
        refine wpAnyH_take (i := 6) (v := ?_) rfl (by kernel_rfl) (by kernel_rfl) (by kernel_rfl) (fun _ _ _ h => h) (Or.inl ⟨by rfl, ?_⟩) (by assumption) ?_
        rotate_left
        · (intro W hSw; (try dsimp only at hSw); go_simp <;> with_reducible rfl)
        (try simp only [Act.put, List.getElem_toArray, List.getElem_cons_succ, List.getElem_cons_zero, List.setIfInBounds_toArray, List.set_cons_succ, List.set_cons_zero])
        refine wpAnyH_take (i := 7) (v := ?_) rfl (by kernel_rfl) (by kernel_rfl) (by kernel_rfl) (fun _ _ _ h => h) (Or.inl ⟨by rfl, ?_⟩) (by assumption) ?_
        rotate_left
        · (intro W hSw; (try dsimp only at hSw); go_simp <;> with_reducible rfl)
        (try simp only [Act.put, List.getElem_toArray, List.getElem_cons_succ, List.getElem_cons_zero, List.setIfInBounds_toArray, List.set_cons_succ, List.set_cons_zero])
        refine wpAnyH_take (i := 8) (v := ?_) rfl (by kernel_rfl) (by kernel_rfl) (by kernel_rfl) (fun _ _ _ h => h) (Or.inl ⟨by rfl, ?_⟩) (by assumption) ?_
        rotate_left
        · (intro W hSw; (try dsimp only at hSw); go_simp <;> with_reducible rfl)
        (try simp only [Act.put, List.getElem_toArray, List.getElem_cons_succ, List.getElem_cons_zero, List.setIfInBounds_toArray, List.set_cons_succ, List.set_cons_zero])
        refine wpAnyH_take (i := 9) (v := ?_) rfl (by kernel_rfl) (by kernel_rfl) (by kernel_rfl) (fun _ _ _ h => h) (Or.inl ⟨by rfl, ?_⟩) (by assumption) ?_
        rotate_left
        · (intro W hSw; (try dsimp only at hSw); go_simp <;> with_reducible rfl)
        (try simp only [Act.put, List.getElem_toArray, List.getElem_cons_succ, List.getElem_cons_zero, List.setIfInBounds_toArray, List.set_cons_succ, List.set_cons_zero])
        refine wpAnyH_take (i := 10) (v := ?_) rfl (by kernel_rfl) (by kernel_rfl) (by kernel_rfl) (fun _ _ _ h => h) (Or.inl ⟨by rfl, ?_⟩) (by assumption) ?_
        rotate_left
        · (intro W hSw; (try dsimp only at hSw); go_simp <;> with_reducible rfl)
        (try simp only [Act.put, List.getElem_toArray, List.getElem_cons_succ, List.getElem_cons_zero, List.setIfInBounds_toArray, List.set_cons_succ, List.set_cons_zero])
        refine wpAnyH_take (i := 11) (v := ?_) rfl (by kernel_rfl) (by kernel_rfl) (by kernel_rfl) (fun _ _ _ h => h) (Or.inl ⟨by rfl, ?_⟩) (by assumption) ?_
        rotate_left
        · (intro W hSw; (try dsimp only at hSw); go_simp <;> with_reducible rfl)
        (try simp only [Act.put, List.getElem_toArray, List.getElem_cons_succ, List.getElem_cons_zero, List.setIfInBounds_toArray, List.set_cons_succ, List.set_cons_zero])
        refine wpAnyH_take (i := 12) (v := ?_) rfl (by kernel_rfl) (by kernel_rfl) (by kernel_rfl) (fun _ _ _ h => h) (Or.inl ⟨by rfl, ?_⟩) (by assumption) ?_
        rotate_left
        · (intro W hSw; (try dsimp only at hSw); go_simp <;> with_reducible rfl)
        (try simp only [Act.put, List.getElem_toArray, List.getElem_cons_succ, List.getElem_cons_zero, List.setIfInBounds_toArray, List.set_cons_succ, List.set_cons_zero])
        refine wpAnyH_take (i := 13) (v := ?_) rfl (by kernel_rfl) (by kernel_rfl) (by kernel_rfl) (fun _ _ _ h => h) (Or.inl ⟨by rfl, ?_⟩) (by assumption) ?_
        rotate_left
        · (intro W hSw; (try dsimp only at hSw); go_simp <;> with_reducible rfl)
        (try simp only [Act.put, List.getElem_toArray, List.getElem_cons_succ, List.getElem_cons_zero, List.setIfInBounds_toArray, List.set_cons_succ, List.set_cons_zero])
        refine wpAnyH_take (i := 14) (v := ?_) rfl (by kernel_rfl) (by kernel_rfl) (by kernel_rfl) (fun _ _ _ h => h) (Or.inl ⟨by rfl, ?_⟩) (by assumption) ?_
        rotate_left
        · (intro W hSw; (try dsimp only at hSw); go_simp <;> with_reducible rfl)
        (try simp only [Act.put, List.getElem_toArray, List.getElem_cons_succ, List.getElem_cons_zero, List.setIfInBounds_toArray, List.set_cons_succ, List.set_cons_zero])
        refine wpAnyH_take (i := 15) (v := ?_) rfl (by kernel_rfl) (by kernel_rfl) (by kernel_rfl) (fun _ _ _ h => h) (Or.inl ⟨by rfl, ?_⟩) (by assumption) ?_
        rotate_left
        · (intro W hSw; (try dsimp only at hSw); go_simp <;> with_reducible rfl)
        (try simp only [Act.put, List.getElem_toArray, List.getElem_cons_succ, List.getElem_cons_zero, List.setIfInBounds_toArray, List.set_cons_succ, List.set_cons_zero])
        refine wpAnyH_take (i := 16) (v := ?_) rfl (by kernel_rfl) (by kernel_rfl) (by kernel_rfl) (fun _ _ _ h => h) (Or.inl ⟨by rfl, ?_⟩) (by assumption) ?_
        rotate_left
        · (intro W hSw; (try dsimp only at hSw); go_simp <;> with_reducible rfl)
        (try simp only [Act.put, List.getElem_toArray, List.getElem_cons_succ, List.getElem_cons_zero, List.setIfInBounds_toArray, List.set_cons_succ, List.set_cons_zero])
        refine wpAnyH_ready (rs := [17]) (by kernel_rfl) (by simp) ?_
        refine AllReadyH.cons rfl (fun K hK => ?_) AllReadyH.nil
        go_simp
        go_at_call 12
        refine (M1.out _ (by assumption)).mono ?_
        rintro e w17 ⟨rfl, bb⟩
        (first | done | go_wp2_with fail)
        refine hK.out _ _ (KEEP.out _ _ bb (by assumption)) (fun hHeld17 => ?_)
        clear hK K bb
        refine wpAnyH_take (i := 18) (v := ?_) rfl (by kernel_rfl) (by kernel_rfl) (by kernel_rfl) (fun _ _ _ h => h) (Or.inl ⟨by rfl, ?_⟩) (by assumption) ?_
        rotate_left
        · (intro W hSw; (try dsimp only at hSw); go_simp <;> with_reducible rfl)
        (try simp only [Act.put, List.getElem_toArray, List.getElem_cons_succ, List.getElem_cons_zero, List.setIfInBounds_toArray, List.set_cons_succ, List.set_cons_zero])
        refine wpAnyH_take (i := 19) (v := ?_) rfl (by kernel_rfl) (by kernel_rfl) (by kernel_rfl) (fun _ _ _ h => h) (Or.inl ⟨by rfl, ?_⟩) (by assumption) ?_
        rotate_left
        · (intro W hSw; (try dsimp only at hSw); go_simp <;> with_reducible rfl)
        (try simp only [Act.put, List.getElem_toArray, List.getElem_cons_succ, List.getElem_cons_zero, List.setIfInBounds_toArray, List.set_cons_succ, List.set_cons_zero])
        refine wpAnyH_take (i := 20) (v := ?_) rfl (by kernel_rfl) (by kernel_rfl) (by kernel_rfl) (fun _ _ _ h => h) (Or.inl ⟨by rfl, ?_⟩) (by assumption) ?_
        rotate_left
        · (intro W hSw; (try dsimp only at hSw); go_simp <;> with_reducible rfl)
        (try simp only [Act.put, List.getElem_toArray, List.getElem_cons_succ, List.getElem_cons_zero, List.setIfInBounds_toArray, List.set_cons_succ, List.set_cons_zero])
        refine wpAnyH_take (i := 21) (v := ?_) rfl (by kernel_rfl) (by kernel_rfl) (by kernel_rfl) (fun _ _ _ h => h) (Or.inl ⟨by rfl, ?_⟩) (by assumption) ?_
        rotate_left
        · (intro W hSw; (try dsimp only at hSw); go_simp <;> with_reducible rfl)
        (try simp only [Act.put, List.getElem_toArray, List.getElem_cons_succ, List.getElem_cons_zero, List.setIfInBounds_toArray, List.set_cons_succ, List.set_cons_zero])
        refine wpAnyH_take (i := 22) (v := ?_) rfl (by kernel_rfl) (by kernel_rfl) (by kernel_rfl) (fun _ _ _ h => h) (Or.inl ⟨by rfl, ?_⟩) (by assumption) ?_
        rotate_left
        · (intro W hSw; (try dsimp only at hSw); go_simp <;> with_reducible rfl)
        (try simp only [Act.put, List.getElem_toArray, List.getElem_cons_succ, List.getElem_cons_zero, List.setIfInBounds_toArray, List.set_cons_succ, List.set_cons_zero])
        refine wpAnyH_take (i := 23) (v := ?_) rfl (by kernel_rfl) (by kernel_rfl) (by kernel_rfl) (fun _ _ _ h => h) (Or.inl ⟨by rfl, ?_⟩) (by assumption) ?_
        rotate_left
        · (intro W hSw; (try dsimp only at hSw); go_simp <;> with_reducible rfl)
        (try simp only [Act.put, List.getElem_toArray, List.getElem_cons_succ, List.getElem_cons_zero, List.setIfInBounds_toArray, List.set_cons_succ, List.set_cons_zero])
        refine wpAnyH_take (i := 24) (v := ?_) rfl (by kernel_rfl) (by kernel_rfl) (by kernel_rfl) (fun _ _ _ h => h) (Or.inl ⟨by rfl, ?_⟩) (by assumption) ?_
        rotate_left
        · (intro W hSw; (try dsimp only at hSw); go_simp <;> with_reducible rfl)
        (try simp only [Act.put, List.getElem_toArray, List.getElem_cons_succ, List.getElem_cons_zero, List.setIfInBounds_toArray, List.set_cons_succ, List.set_cons_zero])
        refine wpAnyH_ready (rs := [25]) (by kernel_rfl) (by simp) ?_
        refine AllReadyH.cons rfl (fun K hK => ?_) AllReadyH.nil
        go_simp
        go_at_call 13
        refine (N2.out _ (by assumption)).mono ?_
        rintro e w25 ⟨rfl, bb⟩
        (first | done | go_wp2_with fail)
        refine hK.out _ _ (KEEP.out _ _ bb (by assumption)) (fun hHeld25 => ?_)
        clear hK K bb
        refine wpAnyH_take (i := 26) (v := ?_) rfl (by kernel_rfl) (by kernel_rfl) (by kernel_rfl) (fun _ _ _ h => h) (Or.inl ⟨by rfl, ?_⟩) (by assumption) ?_
        rotate_left
        · (intro W hSw; (try dsimp only at hSw); go_simp <;> with_reducible rfl)
        (try simp only [Act.put, List.getElem_toArray, List.getElem_cons_succ, List.getElem_cons_zero, List.setIfInBounds_toArray, List.set_cons_succ, List.set_cons_zero])
        refine wpAnyH_take (i := 27) (v := ?_) rfl (by kernel_rfl) (by kernel_rfl) (by kernel_rfl) (fun _ _ _ h => h) (Or.inl ⟨by rfl, ?_⟩) (by assumption) ?_
        rotate_left
        · (intro W hSw; (try dsimp only at hSw); go_simp <;> with_reducible rfl)
        (try simp only [Act.put, List.getElem_toArray, List.getElem_cons_succ, List.getElem_cons_zero, List.setIfInBounds_toArray, List.set_cons_succ, List.set_cons_zero])
        refine wpAnyH_take (i := 28) (v := ?_) rfl (by kernel_rfl) (by kernel_rfl) (by kernel_rfl) (fun _ _ _ h => h) (Or.inl ⟨by rfl, ?_⟩) (by assumption) ?_
        rotate_left
        · (intro W hSw; (try dsimp only at hSw); go_simp <;> with_reducible rfl)
        (try simp only [Act.put, List.getElem_toArray, List.getElem_cons_succ, List.getElem_cons_zero, List.setIfInBounds_toArray, List.set_cons_succ, List.set_cons_zero])
        refine wpAnyH_take (i := 29) (v := ?_) rfl (by kernel_rfl) (by kernel_rfl) (by kernel_rfl) (fun _ _ _ h => h) (Or.inl ⟨by rfl, ?_⟩) (by assumption) ?_
        rotate_left
        · (intro W hSw; (try dsimp only at hSw); go_simp <;> with_reducible rfl)
        (try simp only [Act.put, List.getElem_toArray, List.getElem_cons_succ, List.getElem_cons_zero, List.setIfInBounds_toArray, List.set_cons_succ, List.set_cons_zero])
        refine wpAnyH_take (i := 30) (v := ?_) rfl (by kernel_rfl) (by kernel_rfl) (by kernel_rfl) (fun _ _ _ h => h) (Or.inl ⟨by rfl, ?_⟩) (by assumption) ?_
        rotate_left
        · (intro W hSw; (try dsimp only at hSw); go_simp <;> with_reducible rfl)
        (try simp only [Act.put, List.getElem_toArray, List.getElem_cons_succ, List.getElem_cons_zero, List.setIfInBounds_toArray, List.set_cons_succ, List.set_cons_zero])
        refine wpAnyH_take (i := 31) (v := ?_) rfl (by kernel_rfl) (by kernel_rfl) (by kernel_rfl) (fun _ _ _ h => h) (Or.inl ⟨by rfl, ?_⟩) (by assumption) ?_
        rotate_left
        · (intro W hSw; (try dsimp only at hSw); go_simp <;> with_reducible rfl)
        (try simp only [Act.put, List.getElem_toArray, List.getElem_cons_succ, List.getElem_cons_zero, List.setIfInBounds_toArray, List.set_cons_succ, List.set_cons_zero])
        refine wpAnyH_take (i := 32) (v := ?_) rfl (by kernel_rfl) (by kernel_rfl) (by kernel_rfl) (fun _ _ _ h => h) (Or.inl ⟨by rfl, ?_⟩) (by assumption) ?_
        rotate_left
        · (intro W hSw; (try dsimp only at hSw); go_simp <;> with_reducible rfl)
        (try simp only [Act.put, List.getElem_toArray, List.getElem_cons_succ, List.getElem_cons_zero, List.setIfInBounds_toArray, List.set_cons_succ, List.set_cons_zero])
        refine wpAnyH_ready (rs := [33]) (by kernel_rfl) (by simp) ?_
        refine AllReadyH.cons rfl (fun K hK => ?_) AllReadyH.nil
        go_simp
        go_at_call 14
        refine (N3.out _ (by assumption)).mono ?_
        rintro e w33 ⟨rfl, bb⟩
        (first | done | go_wp2_with fail)
        refine hK.out _ _ (KEEP.out _ _ bb (by assumption)) (fun hHeld33 => ?_)
        clear hK K bb
        refine wpAnyH_take (i := 34) (v := ?_) rfl (by kernel_rfl) (by kernel_rfl) (by kernel_rfl) (fun _ _ _ h => h) (Or.inl ⟨by rfl, ?_⟩) (by assumption) ?_
        rotate_left
        · (intro W hSw; (try dsimp only at hSw); go_simp <;> with_reducible rfl)
        (try simp only [Act.put, List.getElem_toArray, List.getElem_cons_succ, List.getElem_cons_zero, List.setIfInBounds_toArray, List.set_cons_succ, List.set_cons_zero])
        refine wpAnyH_take (i := 35) (v := ?_) rfl (by kernel_rfl) (by kernel_rfl) (by kernel_rfl) (fun _ _ _ h => h) (Or.inl ⟨by rfl, ?_⟩) (by assumption) ?_
        rotate_left
        · (intro W hSw; (try dsimp only at hSw); go_simp <;> with_reducible rfl)
        (try simp only [Act.put, List.getElem_toArray, List.getElem_cons_succ, List.getElem_cons_zero, List.setIfInBounds_toArray, List.set_cons_succ, List.set_cons_zero])
        refine wpAnyH_take (i := 36) (v := ?_) rfl (by kernel_rfl) (by kernel_rfl) (by kernel_rfl) (fun _ _ _ h => h) (Or.inl ⟨by rfl, ?_⟩) (by assumption) ?_
        rotate_left
        · (intro W hSw; (try dsimp only at hSw); go_simp <;> with_reducible rfl)
        (try simp only [Act.put, List.getElem_toArray, List.getElem_cons_succ, List.getElem_cons_zero, List.setIfInBounds_toArray, List.set_cons_succ, List.set_cons_zero])
        refine wpAnyH_take (i := 37) (v := ?_) rfl (by kernel_rfl) (by kernel_rfl) (by kernel_rfl) (fun _ _ _ h => h) (Or.inl ⟨by rfl, ?_⟩) (by assumption) ?_
        rotate_left
        · (intro W hSw; (try dsimp only at hSw); go_simp <;> with_reducible rfl)
        (try simp only [Act.put, List.getElem_toArray, List.getElem_cons_succ, List.getElem_cons_zero, List.setIfInBounds_toArray, List.set_cons_succ, List.set_cons_zero])
        refine wpAnyH_take (i := 38) (v := ?_) rfl (by kernel_rfl) (by kernel_rfl) (by kernel_rfl) (fun _ _ _ h => h) (Or.inl ⟨by rfl, ?_⟩) (by assumption) ?_
        rotate_left
        · (intro W hSw; (try dsimp only at hSw); go_simp <;> with_reducible rfl)
        (try simp only [Act.put, List.getElem_toArray, List.getElem_cons_succ, List.getElem_cons_zero, List.setIfInBounds_toArray, List.set_cons_succ, List.set_cons_zero])
        refine wpAnyH_take (i := 39) (v := ?_) rfl (by kernel_rfl) (by kernel_rfl) (by kernel_rfl) (fun _ _ _ h => h) (Or.inl ⟨by rfl, ?_⟩) (by assumption) ?_
        rotate_left
        · (intro W hSw; (try dsimp only at hSw); go_simp <;> with_reducible rfl)
        (try simp only [Act.put, List.getElem_toArray, List.getElem_cons_succ, List.getElem_cons_zero, List.setIfInBounds_toArray, List.set_cons_succ, List.set_cons_zero])
        refine wpAnyH_take (i := 40) (v := ?_) rfl (by kernel_rfl) (by kernel_rfl) (by kernel_rfl) (fun _ _ _ h => h) (Or.inl ⟨by rfl, ?_⟩) (by assumption) ?_
        rotate_left
        · (intro W hSw; (try dsimp only at hSw); go_simp <;> with_reducible rfl)
        (try simp only [Act.put, List.getElem_toArray, List.getElem_cons_succ, List.getElem_cons_zero, List.setIfInBounds_toArray, List.set_cons_succ, List.set_cons_zero])
        refine wpAnyH_take (i := 41) (v := ?_) rfl (by kernel_rfl) (by kernel_rfl) (by kernel_rfl) (fun _ _ _ h => h) (Or.inl ⟨by rfl, ?_⟩) (by assumption) ?_
        rotate_left
        · (intro W hSw; (try dsimp only at hSw); go_simp <;> with_reducible rfl)
        (try simp only [Act.put, List.getElem_toArray, List.getElem_cons_succ, List.getElem_cons_zero, List.setIfInBounds_toArray, List.set_cons_succ, List.set_cons_zero])
        refine wpAnyH_take (i := 42) (v := ?_) rfl (by kernel_rfl) (by kernel_rfl) (by kernel_rfl) (fun _ _ _ h => h) (Or.inl ⟨by rfl, ?_⟩) (by assumption) ?_
        rotate_left
        · (intro W hSw; (try dsimp only at hSw); go_simp <;> with_reducible rfl)
        (try simp only [Act.put, List.getElem_toArray, List.getElem_cons_succ, List.getElem_cons_zero, List.setIfInBounds_toArray, List.set_cons_succ, List.set_cons_zero])
        refine wpAnyH_ready (rs := [43]) (by kernel_rfl) (by simp) ?_
        refine AllReadyH.cons rfl (fun K hK => ?_) AllReadyH.nil
        go_simp
        go_at_call 15
        refine (N4.out _ (by assumption)).mono ?_
        rintro e w43 ⟨rfl, bb⟩
        (first | done | go_wp2_with fail)
        refine hK.out _ _ (KEEP.out _ _ bb (by assumption)) (fun hHeld43 => ?_)
        clear hK K bb
        refine wpAnyH_take (i := 44) (v := ?_) rfl (by kernel_rfl) (by kernel_rfl) (by kernel_rfl) (fun _ _ _ h => h) (Or.inl ⟨by rfl, ?_⟩) (by assumption) ?_
        rotate_left
        · (intro W hSw; (try dsimp only at hSw); go_simp <;> with_reducible rfl)
        (try simp only [Act.put, List.getElem_toArray, List.getElem_cons_succ, List.getElem_cons_zero, List.setIfInBounds_toArray, List.set_cons_succ, List.set_cons_zero])
        refine wpAnyH_take (i := 45) (v := ?_) rfl (by kernel_rfl) (by kernel_rfl) (by kernel_rfl) (fun _ _ _ h => h) (Or.inl ⟨by rfl, ?_⟩) (by assumption) ?_
        rotate_left
        · (intro W hSw; (try dsimp only at hSw); go_simp <;> with_reducible rfl)
        (try simp only [Act.put, List.getElem_toArray, List.getElem_cons_succ, List.getElem_cons_zero, List.setIfInBounds_toArray, List.set_cons_succ, List.set_cons_zero])
        refine wpAnyH_take (i := 46) (v := ?_) rfl (by kernel_rfl) (by kernel_rfl) (by kernel_rfl) (fun _ _ _ h => h) (Or.inl ⟨by rfl, ?_⟩) (by assumption) ?_
        rotate_left
        · (intro W hSw; (try dsimp only at hSw); go_simp <;> with_reducible rfl)
        (try simp only [Act.put, List.getElem_toArray, List.getElem_cons_succ, List.getElem_cons_zero, List.setIfInBounds_toArray, List.set_cons_succ, List.set_cons_zero])
        refine wpAnyH_take (i := 47) (v := ?_) rfl (by kernel_rfl) (by kernel_rfl) (by kernel_rfl) (fun _ _ _ h => h) (Or.inl ⟨by rfl, ?_⟩) (by assumption) ?_
        rotate_left
        · (intro W hSw; (try dsimp only at hSw); go_simp <;> with_reducible rfl)
        (try simp only [Act.put, List.getElem_toArray, List.getElem_cons_succ, List.getElem_cons_zero, List.setIfInBounds_toArray, List.set_cons_succ, List.set_cons_zero])
        refine wpAnyH_take (i := 48) (v := ?_) rfl (by kernel_rfl) (by kernel_rfl) (by kernel_rfl) (fun _ _ _ h => h) (Or.inl ⟨by rfl, ?_⟩) (by assumption) ?_
        rotate_left
        · (intro W hSw; (try dsimp only at hSw); go_simp <;> with_reducible rfl)
        (try simp only [Act.put, List.getElem_toArray, List.getElem_cons_succ, List.getElem_cons_zero, List.setIfInBounds_toArray, List.set_cons_succ, List.set_cons_zero])
        refine wpAnyH_take (i := 49) (v := ?_) rfl (by kernel_rfl) (by kernel_rfl) (by kernel_rfl) (fun _ _ _ h => h) (Or.inl ⟨by rfl, ?_⟩) (by assumption) ?_
        rotate_left
        · (intro W hSw; (try dsimp only at hSw); go_simp <;> with_reducible rfl)
        (try simp only [Act.put, List.getElem_toArray, List.getElem_cons_succ, List.getElem_cons_zero, List.setIfInBounds_toArray, List.set_cons_succ, List.set_cons_zero])
        refine wpAnyH_take (i := 50) (v := ?_) rfl (by kernel_rfl) (by kernel_rfl) (by kernel_rfl) (fun _ _ _ h => h) (Or.inl ⟨by rfl, ?_⟩) (by assumption) ?_
        rotate_left
        · (intro W hSw; (try dsimp only at hSw); go_simp <;> with_reducible rfl)
        (try simp only [Act.put, List.getElem_toArray, List.getElem_cons_succ, List.getElem_cons_zero, List.setIfInBounds_toArray, List.set_cons_succ, List.set_cons_zero])
        refine wpAnyH_take (i := 51) (v := ?_) rfl (by kernel_rfl) (by kernel_rfl) (by kernel_rfl) (fun _ _ _ h => h) (Or.inl ⟨by rfl, ?_⟩) (by assumption) ?_
        rotate_left
        · (intro W hSw; (try dsimp only at hSw); go_simp <;> with_reducible rfl)
        (try simp only [Act.put, List.getElem_toArray, List.getElem_cons_succ, List.getElem_cons_zero, List.setIfInBounds_toArray, List.set_cons_succ, List.set_cons_zero])
        refine wpAnyH_take (i := 52) (v := ?_) rfl (by kernel_rfl) (by kernel_rfl) (by kernel_rfl) (fun _ _ _ h => h) (Or.inl ⟨by rfl, ?_⟩) (by assumption) ?_
        rotate_left
        · (intro W hSw; (try dsimp only at hSw); go_simp <;> with_reducible rfl)
        (try simp only [Act.put, List.getElem_toArray, List.getElem_cons_succ, List.getElem_cons_zero, List.setIfInBounds_toArray, List.set_cons_succ, List.set_cons_zero])
        refine wpAnyH_take (i := 53) (v := ?_) rfl (by kernel_rfl) (by kernel_rfl) (by kernel_rfl) (fun _ _ _ h => h) (Or.inl ⟨by rfl, ?_⟩) (by assumption) ?_
        rotate_left
        · (intro W hSw; (try dsimp only at hSw); go_simp <;> with_reducible rfl)
        (try simp only [Act.put, List.getElem_toArray, List.getElem_cons_succ, List.getElem_cons_zero, List.setIfInBounds_toArray, List.set_cons_succ, List.set_cons_zero])
        refine wpAnyH_take (i := 54) (v := ?_) rfl (by kernel_rfl) (by kernel_rfl) (by kernel_rfl) (fun _ _ _ h => h) (Or.inl ⟨by rfl, ?_⟩) (by assumption) ?_
        rotate_left
        · (intro W hSw; (try dsimp only at hSw); go_simp <;> with_reducible rfl)
        (try simp only [Act.put, List.getElem_toArray, List.getElem_cons_succ, List.getElem_cons_zero, List.setIfInBounds_toArray, List.set_cons_succ, List.set_cons_zero])
        refine wpAnyH_take (i := 55) (v := ?_) rfl (by kernel_rfl) (by kernel_rfl) (by kernel_rfl) (fun _ _ _ h => h) (Or.inl ⟨by rfl, ?_⟩) (by assumption) ?_
        rotate_left
        · (intro W hSw; (try dsimp only at hSw); go_simp <;> with_reducible rfl)
        (try simp only [Act.put, List.getElem_toArray, List.getElem_cons_succ, List.getElem_cons_zero, List.setIfInBounds_toArray, List.set_cons_succ, List.set_cons_zero])
        refine wpAnyH_ready (rs := [56]) (by kernel_rfl) (by simp) ?_
        refine AllReadyH.cons rfl (fun K hK => ?_) AllReadyH.nil
        go_simp
        go_at_call 16
        refine (N5.out _ (by assumption)).mono ?_
        rintro e w56 ⟨rfl, bb⟩
        (first | done | go_wp2_with fail)
        refine hK.out _ _ (KEEP.out _ _ bb (by assumption)) (fun hHeld56 => ?_)
        clear hK K bb
        refine wpAnyH_take (i := 57) (v := ?_) rfl (by kernel_rfl) (by kernel_rfl) (by kernel_rfl) (fun _ _ _ h => h) (Or.inl ⟨by rfl, ?_⟩) (by assumption) ?_
        rotate_left
        · (intro W hSw; (try dsimp only at hSw); go_simp <;> with_reducible rfl)
        (try simp only [Act.put, List.getElem_toArray, List.getElem_cons_succ, List.getElem_cons_zero, List.setIfInBounds_toArray, List.set_cons_succ, List.set_cons_zero])
        refine wpAnyH_take (i := 58) (v := ?_) rfl (by kernel_rfl) (by kernel_rfl) (by kernel_rfl) (fun _ _ _ h => h) (Or.inl ⟨by rfl, ?_⟩) (by assumption) ?_
        rotate_left
        · (intro W hSw; (try dsimp only at hSw); go_simp <;> with_reducible rfl)
        (try simp only [Act.put, List.getElem_toArray, List.getElem_cons_succ, List.getElem_cons_zero, List.setIfInBounds_toArray, List.set_cons_succ, List.set_cons_zero])
        refine wpAnyH_take (i := 59) (v := ?_) rfl (by kernel_rfl) (by kernel_rfl) (by kernel_rfl) (fun _ _ _ h => h) (Or.inl ⟨by rfl, ?_⟩) (by assumption) ?_
        rotate_left
        · (intro W hSw; (try dsimp only at hSw); go_simp <;> with_reducible rfl)
        (try simp only [Act.put, List.getElem_toArray, List.getElem_cons_succ, List.getElem_cons_zero, List.setIfInBounds_toArray, List.set_cons_succ, List.set_cons_zero])
        refine wpAnyH_take (i := 60) (v := ?_) rfl (by kernel_rfl) (by kernel_rfl) (by kernel_rfl) (fun _ _ _ h => h) (Or.inl ⟨by rfl, ?_⟩) (by assumption) ?_
        rotate_left
        · (intro W hSw; (try dsimp only at hSw); go_simp <;> with_reducible rfl)
        (try simp only [Act.put, List.getElem_toArray, List.getElem_cons_succ, List.getElem_cons_zero, List.setIfInBounds_toArray, List.set_cons_succ, List.set_cons_zero])
        refine wpAnyH_take (i := 61) (v := ?_) rfl (by kernel_rfl) (by kernel_rfl) (by kernel_rfl) (fun _ _ _ h => h) (Or.inl ⟨by rfl, ?_⟩) (by assumption) ?_
        rotate_left
        · (intro W hSw; (try dsimp only at hSw); go_simp <;> with_reducible rfl)
        (try simp only [Act.put, List.getElem_toArray, List.getElem_cons_succ, List.getElem_cons_zero, List.setIfInBounds_toArray, List.set_cons_succ, List.set_cons_zero])
        refine wpAnyH_take (i := 62) (v := ?_) rfl (by kernel_rfl) (by kernel_rfl) (by kernel_rfl) (fun _ _ _ h => h) (Or.inl ⟨by rfl, ?_⟩) (by assumption) ?_
        rotate_left
        · (intro W hSw; (try dsimp only at hSw); go_simp <;> with_reducible rfl)
        (try simp only [Act.put, List.getElem_toArray, List.getElem_cons_succ, List.getElem_cons_zero, List.setIfInBounds_toArray, List.set_cons_succ, List.set_cons_zero])
        refine wpAnyH_take (i := 63) (v := ?_) rfl (by kernel_rfl) (by kernel_rfl) (by kernel_rfl) (fun _ _ _ h => h) (Or.inl ⟨by rfl, ?_⟩) (by assumption) ?_
        rotate_left
        · (intro W hSw; (try dsimp only at hSw); go_simp <;> with_reducible rfl)
        (try simp only [Act.put, List.getElem_toArray, List.getElem_cons_succ, List.getElem_cons_zero, List.setIfInBounds_toArray, List.set_cons_succ, List.set_cons_zero])
        refine wpAnyH_take (i := 64) (v := ?_) rfl (by kernel_rfl) (by kernel_rfl) (by kernel_rfl) (fun _ _ _ h => h) (Or.inl ⟨by rfl, ?_⟩) (by assumption) ?_
        rotate_left
        · (intro W hSw; (try dsimp only at hSw); go_simp <;> with_reducible rfl)
        (try simp only [Act.put, List.getElem_toArray, List.getElem_cons_succ, List.getElem_cons_zero, List.setIfInBounds_toArray, List.set_cons_succ, List.set_cons_zero])
        refine wpAnyH_take (i := 65) (v := undef) rfl (by kernel_rfl) (by kernel_rfl) (by kernel_rfl) (fun _ _ _ h => h) (Or.inr ⟨by rfl, rfl⟩) (by assumption) ?_
        (try simp only [Act.put, List.getElem_toArray, List.getElem_cons_succ, List.getElem_cons_zero, List.setIfInBounds_toArray, List.set_cons_succ, List.set_cons_zero])
        refine wpAnyH_take (i := 66) (v := undef) rfl (by kernel_rfl) (by kernel_rfl) (by kernel_rfl) (fun _ _ _ h => h) (Or.inr ⟨by rfl, rfl⟩) (by assumption) ?_
        (try simp only [Act.put, List.getElem_toArray, List.getElem_cons_succ, List.getElem_cons_zero, List.setIfInBounds_toArray, List.set_cons_succ, List.set_cons_zero])
        refine wpAnyH_take (i := 67) (v := undef) rfl (by kernel_rfl) (by kernel_rfl) (by kernel_rfl) (fun _ _ _ h => h) (Or.inr ⟨by rfl, rfl⟩) (by assumption) ?_
        (try simp only [Act.put, List.getElem_toArray, List.getElem_cons_succ, List.getElem_cons_zero, List.setIfInBounds_toArray, List.set_cons_succ, List.set_cons_zero])
        refine wpAnyH_take (i := 68) (v := undef) rfl (by kernel_rfl) (by kernel_rfl) (by kernel_rfl) (fun _ _ _ h => h) (Or.inr ⟨by rfl, rfl⟩) (by assumption) ?_
        (try simp only [Act.put, List.getElem_toArray, List.getElem_cons_succ, List.getElem_cons_zero, List.setIfInBounds_toArray, List.set_cons_succ, List.set_cons_zero])
        refine wpAnyH_take (i := 69) (v := undef) rfl (by kernel_rfl) (by kernel_rfl) (by kernel_rfl) (fun _ _ _ h => h) (Or.inr ⟨by rfl, rfl⟩) (by assumption) ?_
        (try simp only [Act.put, List.getElem_toArray, List.getElem_cons_succ, List.getElem_cons_zero, List.setIfInBounds_toArray, List.set_cons_succ, List.set_cons_zero])
        refine wpAnyH_take (i := 70) (v := undef) rfl (by kernel_rfl) (by kernel_rfl) (by kernel_rfl) (fun _ _ _ h => h) (Or.inr ⟨by rfl, rfl⟩) (by assumption) ?_
        (try simp only [Act.put, List.getElem_toArray, List.getElem_cons_succ, List.getElem_cons_zero, List.setIfInBounds_toArray, List.set_cons_succ, List.set_cons_zero])
        refine wpAnyH_take (i := 71) (v := undef) rfl (by kernel_rfl) (by kernel_rfl) (by kernel_rfl) (fun _ _ _ h => h) (Or.inr ⟨by rfl, rfl⟩) (by assumption) ?_
        (try simp only [Act.put, List.getElem_toArray, List.getElem_cons_succ, List.getElem_cons_zero, List.setIfInBounds_toArray, List.set_cons_succ, List.set_cons_zero])
        refine wpAnyH_take (i := 72) (v := undef) rfl (by kernel_rfl) (by kernel_rfl) (by kernel_rfl) (fun _ _ _ h => h) (Or.inr ⟨by rfl, rfl⟩) (by assumption) ?_
        (try simp only [Act.put, List.getElem_toArray, List.getElem_cons_succ, List.getElem_cons_zero, List.setIfInBounds_toArray, List.set_cons_succ, List.set_cons_zero])
        refine wpAnyH_take (i := 73) (v := ?_) rfl (by kernel_rfl) (by kernel_rfl) (by kernel_rfl) (fun _ _ _ h => h) (Or.inl ⟨by rfl, ?_⟩) (by assumption) ?_
        rotate_left
        · (intro W hSw; (try dsimp only at hSw); go_simp <;> with_reducible rfl)
        (try simp only [Act.put, List.getElem_toArray, List.getElem_cons_succ, List.getElem_cons_zero, List.setIfInBounds_toArray, List.set_cons_succ, List.set_cons_zero])
        refine wpAnyH_take (i := 74) (v := ?_) rfl (by kernel_rfl) (by kernel_rfl) (by kernel_rfl) (fun _ _ _ h => h) (Or.inl ⟨by rfl, ?_⟩) (by assumption) ?_
        rotate_left
        · (intro W hSw; (try dsimp only at hSw); go_simp <;> with_reducible rfl)
        (try simp only [Act.put, List.getElem_toArray, List.getElem_cons_succ, List.getElem_cons_zero, List.setIfInBounds_toArray, List.set_cons_succ, List.set_cons_zero])
        refine wpAnyH_done (by kernel_rfl) ?_ _
        all_goals
          go_wp2
          go_roundw
          case rel => exact ⟨k + 1, by omega, by go_num, DROP.out _ (by assumption)⟩
          case measure => simp [intOf]; omega
      have hco' : (0 : Int) < (m.co.length : Int) := by omega
      have oc := O.out.co hco
      rw [HRG.out] at oc
      obtain ⟨_, Q', cq', he, gu⟩ := rdI (rd_flat RCO.out)
      injection he with he hln he2
      subst he he2
      clear hln
      obtain ⟨b4, o4, rfl, hb4, hc4⟩ := gu 0 hco
      have hcx := hc4 0 hco
      simp only [Nat.add_zero] at hcx
      clear gu hc4
      generalize m.co[0] = y at hcx oc
      generalize m.co.length = lc at *
      have CELLS := Lib.hid (fun (W : World) (h : Sn w1 W [boxI w8.heap.size 39 [.int .i64 m.du, .slice X1 lx1 x1_, .slice X2 lx2 x2_], boxI wr.heap.size 39 [.int .i64 m.du, .slice (some ⟨b3, o3, none⟩) m.us.length cp, .slice (some ⟨b4, o4, none⟩) lc cq], ⟨flat 3 (sm.map (.int .i64)), .slice VC sm.length cc_, FC⟩, ⟨flat 3 (xs.map (.int .i64)), vb, FB⟩, ⟨flat 3 (rg.map (.int .i64)), .slice VA a.ms.length ca_, FA⟩, boxI (w1.heap.size + 1) 32 [.string a.nm, .int .i64 a.fa, .slice (some ⟨b2, o2, none⟩) a.ms.length cm], boxI w1.heap.size 28 [.int .i64 dl, .slice (some ⟨b, of, none⟩) na c1, .slice A2 nl c2, .slice A3 R c3, .slice A4 Sk c4]]) => show Hid (Sn w1 W [boxI w8.heap.size 39 [.int .i64 m.du, .slice X1 lx1 x1_, .slice X2 lx2 x2_], boxI wr.heap.size 39 [.int .i64 m.du, .slice (some ⟨b3, o3, none⟩) m.us.length cp, .slice (some ⟨b4, o4, none⟩) lc cq], ⟨flat 3 (sm.map (.int .i64)), .slice VC sm.length cc_, FC⟩, ⟨flat 3 (xs.map (.int .i64)), vb, FB⟩, ⟨flat 3 (rg.map (.int .i64)), .slice VA a.ms.length ca_, FA⟩, boxI (w1.heap.size + 1) 32 [.string a.nm, .int .i64 a.fa, .slice (some ⟨b2, o2, none⟩) a.ms.length cm], boxI w1.heap.size 28 [.int .i64 dl, .slice (some ⟨b, of, none⟩) na c1, .slice A2 nl c2, .slice A3 R c3, .slice A4 Sk c4]]) ∧ W.cell? ⟨w8.heap.size, 0, none⟩ = some (.int .i64 m.du) ∧ W.cell? ⟨wr.heap.size, 0, none⟩ = some (.int .i64 m.du) ∧ W.cell? ⟨wr.heap.size, 1, none⟩ = some (.slice (some ⟨b3, o3, none⟩) m.us.length cp) ∧ W.cell? ⟨wr.heap.size, 2, none⟩ = some (.slice (some ⟨b4, o4, none⟩) lc cq) ∧ W.cell? ⟨(w1.heap.size + 1), 0, none⟩ = some (.string a.nm) ∧ W.cell? ⟨(w1.heap.size + 1), 1, none⟩ = some (.int .i64 a.fa) ∧ W.cell? ⟨(w1.heap.size + 1), 2, none⟩ = some (.slice (some ⟨b2, o2, none⟩) a.ms.length cm) ∧ W.cell? ⟨w1.heap.size, 3, none⟩ = some (.slice A3 R c3) ∧ W.cell? ⟨w1.heap.size, 4, none⟩ = some (.slice A4 Sk c4) ∧ W.cell? ⟨b3, o3, none⟩ = some (.int .i64 x) ∧ W.cell? ⟨b4, o4, none⟩ = some (.int .i64 y) from ⟨Lib.hid h, (h.bk 0 rfl).cell 0, (h.bk 1 rfl).cell 0, (h.bk 1 rfl).cell 1, (h.bk 1 rfl).cell 2, (h.bk 5 rfl).cell 0, (h.bk 5 rfl).cell 1, (h.bk 5 rfl).cell 2, (h.bk 6 rfl).cell 3, (h.bk 6 rfl).cell 4, (h.1.cell (p := ⟨b3, o3, none⟩) hb3).trans hux, (h.1.cell (p := ⟨b4, o4, none⟩) hb4).trans hcx⟩)
      have INIT := Lib.hid (CELLS.out _ U3.out.drew1)
      have KEEP := Lib.hid (fun (W2 W : World) (hb : Below W.heap.size W W2) (h : Hid (Sn w1 W [boxI w8.heap.size 39 [.int .i64 m.du, .slice X1 lx1 x1_, .slice X2 lx2 x2_], boxI wr.heap.size 39 [.int .i64 m.du, .slice (some ⟨b3, o3, none⟩) m.us.length cp, .slice (some ⟨b4, o4, none⟩) lc cq], ⟨flat 3 (sm.map (.int .i64)), .slice VC sm.length cc_, FC⟩, ⟨flat 3 (xs.map (.int .i64)), vb, FB⟩, ⟨flat 3 (rg.map (.int .i64)), .slice VA a.ms.length ca_, FA⟩, boxI (w1.heap.size + 1) 32 [.string a.nm, .int .i64 a.fa, .slice (some ⟨b2, o2, none⟩) a.ms.length cm], boxI w1.heap.size 28 [.int .i64 dl, .slice (some ⟨b, of, none⟩) na c1, .slice A2 nl c2, .slice A3 R c3, .slice A4 Sk c4]]) ∧ W.cell? ⟨w8.heap.size, 0, none⟩ = some (.int .i64 m.du) ∧ W.cell? ⟨wr.heap.size, 0, none⟩ = some (.int .i64 m.du) ∧ W.cell? ⟨wr.heap.size, 1, none⟩ = some (.slice (some ⟨b3, o3, none⟩) m.us.length cp) ∧ W.cell? ⟨wr.heap.size, 2, none⟩ = some (.slice (some ⟨b4, o4, none⟩) lc cq) ∧ W.cell? ⟨(w1.heap.size + 1), 0, none⟩ = some (.string a.nm) ∧ W.cell? ⟨(w1.heap.size + 1), 1, none⟩ = some (.int .i64 a.fa) ∧ W.cell? ⟨(w1.heap.size + 1), 2, none⟩ = some (.slice (some ⟨b2, o2, none⟩) a.ms.length cm) ∧ W.cell? ⟨w1.heap.size, 3, none⟩ = some (.slice A3 R c3) ∧ W.cell? ⟨w1.heap.size, 4, none⟩ = some (.slice A4 Sk c4) ∧ W.cell? ⟨b3, o3, none⟩ = some (.int .i64 x) ∧ W.cell? ⟨b4, o4, none⟩ = some (.int .i64 y)) => CELLS.out W2 (h.1.out.go hb))
      have M1 := Lib.hid (fun (W : World) (h : Hid (Sn w1 W [boxI w8.heap.size 39 [.int .i64 m.du, .slice X1 lx1 x1_, .slice X2 lx2 x2_], boxI wr.heap.size 39 [.int .i64 m.du, .slice (some ⟨b3, o3, none⟩) m.us.length cp, .slice (some ⟨b4, o4, none⟩) lc cq], ⟨flat 3 (sm.map (.int .i64)), .slice VC sm.length cc_, FC⟩, ⟨flat 3 (xs.map (.int .i64)), vb, FB⟩, ⟨flat 3 (rg.map (.int .i64)), .slice VA a.ms.length ca_, FA⟩, boxI (w1.heap.size + 1) 32 [.string a.nm, .int .i64 a.fa, .slice (some ⟨b2, o2, none⟩) a.ms.length cm], boxI w1.heap.size 28 [.int .i64 dl, .slice (some ⟨b, of, none⟩) na c1, .slice A2 nl c2, .slice A3 R c3, .slice A4 Sk c4]]) ∧ W.cell? ⟨w8.heap.size, 0, none⟩ = some (.int .i64 m.du) ∧ W.cell? ⟨wr.heap.size, 0, none⟩ = some (.int .i64 m.du) ∧ W.cell? ⟨wr.heap.size, 1, none⟩ = some (.slice (some ⟨b3, o3, none⟩) m.us.length cp) ∧ W.cell? ⟨wr.heap.size, 2, none⟩ = some (.slice (some ⟨b4, o4, none⟩) lc cq) ∧ W.cell? ⟨(w1.heap.size + 1), 0, none⟩ = some (.string a.nm) ∧ W.cell? ⟨(w1.heap.size + 1), 1, none⟩ = some (.int .i64 a.fa) ∧ W.cell? ⟨(w1.heap.size + 1), 2, none⟩ = some (.slice (some ⟨b2, o2, none⟩) a.ms.length cm) ∧ W.cell? ⟨w1.heap.size, 3, none⟩ = some (.slice A3 R c3) ∧ W.cell? ⟨w1.heap.size, 4, none⟩ = some (.slice A4 Sk c4) ∧ W.cell? ⟨b3, o3, none⟩ = some (.int .i64 x) ∧ W.cell? ⟨b4, o4, none⟩ = some (.int .i64 y)) => implModeOk_any m R Sk _ W (h.1.out.old HM.out))
      have M2 := fun (W : World) (h : Hid (Sn w1 W [boxI w8.heap.size 39 [.int .i64 m.du, .slice X1 lx1 x1_, .slice X2 lx2 x2_], boxI wr.heap.size 39 [.int .i64 m.du, .slice (some ⟨b3, o3, none⟩) m.us.length cp, .slice (some ⟨b4, o4, none⟩) lc cq], ⟨flat 3 (sm.map (.int .i64)), .slice VC sm.length cc_, FC⟩, ⟨flat 3 (xs.map (.int .i64)), vb, FB⟩, ⟨flat 3 (rg.map (.int .i64)), .slice VA a.ms.length ca_, FA⟩, boxI (w1.heap.size + 1) 32 [.string a.nm, .int .i64 a.fa, .slice (some ⟨b2, o2, none⟩) a.ms.length cm], boxI w1.heap.size 28 [.int .i64 dl, .slice (some ⟨b, of, none⟩) na c1, .slice A2 nl c2, .slice A3 R c3, .slice A4 Sk c4]]) ∧ W.cell? ⟨w8.heap.size, 0, none⟩ = some (.int .i64 m.du) ∧ W.cell? ⟨wr.heap.size, 0, none⟩ = some (.int .i64 m.du) ∧ W.cell? ⟨wr.heap.size, 1, none⟩ = some (.slice (some ⟨b3, o3, none⟩) m.us.length cp) ∧ W.cell? ⟨wr.heap.size, 2, none⟩ = some (.slice (some ⟨b4, o4, none⟩) lc cq) ∧ W.cell? ⟨(w1.heap.size + 1), 0, none⟩ = some (.string a.nm) ∧ W.cell? ⟨(w1.heap.size + 1), 1, none⟩ = some (.int .i64 a.fa) ∧ W.cell? ⟨(w1.heap.size + 1), 2, none⟩ = some (.slice (some ⟨b2, o2, none⟩) a.ms.length cm) ∧ W.cell? ⟨w1.heap.size, 3, none⟩ = some (.slice A3 R c3) ∧ W.cell? ⟨w1.heap.size, 4, none⟩ = some (.slice A4 Sk c4) ∧ W.cell? ⟨b3, o3, none⟩ = some (.int .i64 x) ∧ W.cell? ⟨b4, o4, none⟩ = some (.int .i64 y)) => implMinDuration_any a rg _ _ W (h.1.out.old HA.out) (h.1.out.rdI 4 rfl)
      have M3 := fun (W : World) (h : Hid (Sn w1 W [boxI w8.heap.size 39 [.int .i64 m.du, .slice X1 lx1 x1_, .slice X2 lx2 x2_], boxI wr.heap.size 39 [.int .i64 m.du, .slice (some ⟨b3, o3, none⟩) m.us.length cp, .slice (some ⟨b4, o4, none⟩) lc cq], ⟨flat 3 (sm.map (.int .i64)), .slice VC sm.length cc_, FC⟩, ⟨flat 3 (xs.map (.int .i64)), vb, FB⟩, ⟨flat 3 (rg.map (.int .i64)), .slice VA a.ms.length ca_, FA⟩, boxI (w1.heap.size + 1) 32 [.string a.nm, .int .i64 a.fa, .slice (some ⟨b2, o2, none⟩) a.ms.length cm], boxI w1.heap.size 28 [.int .i64 dl, .slice (some ⟨b, of, none⟩) na c1, .slice A2 nl c2, .slice A3 R c3, .slice A4 Sk c4]]) ∧ W.cell? ⟨w8.heap.size, 0, none⟩ = some (.int .i64 m.du) ∧ W.cell? ⟨wr.heap.size, 0, none⟩ = some (.int .i64 m.du) ∧ W.cell? ⟨wr.heap.size, 1, none⟩ = some (.slice (some ⟨b3, o3, none⟩) m.us.length cp) ∧ W.cell? ⟨wr.heap.size, 2, none⟩ = some (.slice (some ⟨b4, o4, none⟩) lc cq) ∧ W.cell? ⟨(w1.heap.size + 1), 0, none⟩ = some (.string a.nm) ∧ W.cell? ⟨(w1.heap.size + 1), 1, none⟩ = some (.int .i64 a.fa) ∧ W.cell? ⟨(w1.heap.size + 1), 2, none⟩ = some (.slice (some ⟨b2, o2, none⟩) a.ms.length cm) ∧ W.cell? ⟨w1.heap.size, 3, none⟩ = some (.slice A3 R c3) ∧ W.cell? ⟨w1.heap.size, 4, none⟩ = some (.slice A4 Sk c4) ∧ W.cell? ⟨b3, o3, none⟩ = some (.int .i64 x) ∧ W.cell? ⟨b4, o4, none⟩ = some (.int .i64 y)) => implMaxDuration_any a rg _ _ W (h.1.out.old HA.out) (h.1.out.rdI 4 rfl)
      have M4 := fun (W : World) (h : Hid (Sn w1 W [boxI w8.heap.size 39 [.int .i64 m.du, .slice X1 lx1 x1_, .slice X2 lx2 x2_], boxI wr.heap.size 39 [.int .i64 m.du, .slice (some ⟨b3, o3, none⟩) m.us.length cp, .slice (some ⟨b4, o4, none⟩) lc cq], ⟨flat 3 (sm.map (.int .i64)), .slice VC sm.length cc_, FC⟩, ⟨flat 3 (xs.map (.int .i64)), vb, FB⟩, ⟨flat 3 (rg.map (.int .i64)), .slice VA a.ms.length ca_, FA⟩, boxI (w1.heap.size + 1) 32 [.string a.nm, .int .i64 a.fa, .slice (some ⟨b2, o2, none⟩) a.ms.length cm], boxI w1.heap.size 28 [.int .i64 dl, .slice (some ⟨b, of, none⟩) na c1, .slice A2 nl c2, .slice A3 R c3, .slice A4 Sk c4]]) ∧ W.cell? ⟨w8.heap.size, 0, none⟩ = some (.int .i64 m.du) ∧ W.cell? ⟨wr.heap.size, 0, none⟩ = some (.int .i64 m.du) ∧ W.cell? ⟨wr.heap.size, 1, none⟩ = some (.slice (some ⟨b3, o3, none⟩) m.us.length cp) ∧ W.cell? ⟨wr.heap.size, 2, none⟩ = some (.slice (some ⟨b4, o4, none⟩) lc cq) ∧ W.cell? ⟨(w1.heap.size + 1), 0, none⟩ = some (.string a.nm) ∧ W.cell? ⟨(w1.heap.size + 1), 1, none⟩ = some (.int .i64 a.fa) ∧ W.cell? ⟨(w1.heap.size + 1), 2, none⟩ = some (.slice (some ⟨b2, o2, none⟩) a.ms.length cm) ∧ W.cell? ⟨w1.heap.size, 3, none⟩ = some (.slice A3 R c3) ∧ W.cell? ⟨w1.heap.size, 4, none⟩ = some (.slice A4 Sk c4) ∧ W.cell? ⟨b3, o3, none⟩ = some (.int .i64 x) ∧ W.cell? ⟨b4, o4, none⟩ = some (.int .i64 y)) => implMinUsage_any a rg 0 _ _ W (h.1.out.old HA.out) (h.1.out.rdI 4 rfl)
      have M5 := fun (W : World) (h : Hid (Sn w1 W [boxI w8.heap.size 39 [.int .i64 m.du, .slice X1 lx1 x1_, .slice X2 lx2 x2_], boxI wr.heap.size 39 [.int .i64 m.du, .slice (some ⟨b3, o3, none⟩) m.us.length cp, .slice (some ⟨b4, o4, none⟩) lc cq], ⟨flat 3 (sm.map (.int .i64)), .slice VC sm.length cc_, FC⟩, ⟨flat 3 (xs.map (.int .i64)), vb, FB⟩, ⟨flat 3 (rg.map (.int .i64)), .slice VA a.ms.length ca_, FA⟩, boxI (w1.heap.size + 1) 32 [.string a.nm, .int .i64 a.fa, .slice (some ⟨b2, o2, none⟩) a.ms.length cm], boxI w1.heap.size 28 [.int .i64 dl, .slice (some ⟨b, of, none⟩) na c1, .slice A2 nl c2, .slice A3 R c3, .slice A4 Sk c4]]) ∧ W.cell? ⟨w8.heap.size, 0, none⟩ = some (.int .i64 m.du) ∧ W.cell? ⟨wr.heap.size, 0, none⟩ = some (.int .i64 m.du) ∧ W.cell? ⟨wr.heap.size, 1, none⟩ = some (.slice (some ⟨b3, o3, none⟩) m.us.length cp) ∧ W.cell? ⟨wr.heap.size, 2, none⟩ = some (.slice (some ⟨b4, o4, none⟩) lc cq) ∧ W.cell? ⟨(w1.heap.size + 1), 0, none⟩ = some (.string a.nm) ∧ W.cell? ⟨(w1.heap.size + 1), 1, none⟩ = some (.int .i64 a.fa) ∧ W.cell? ⟨(w1.heap.size + 1), 2, none⟩ = some (.slice (some ⟨b2, o2, none⟩) a.ms.length cm) ∧ W.cell? ⟨w1.heap.size, 3, none⟩ = some (.slice A3 R c3) ∧ W.cell? ⟨w1.heap.size, 4, none⟩ = some (.slice A4 Sk c4) ∧ W.cell? ⟨b3, o3, none⟩ = some (.int .i64 x) ∧ W.cell? ⟨b4, o4, none⟩ = some (.int .i64 y)) => implMinWork_any a rg 0 _ _ W (h.1.out.old HA.out) (h.1.out.rdI 4 rfl)
      have M6 := fun (W : World) (h : Hid (Sn w1 W [boxI w8.heap.size 39 [.int .i64 m.du, .slice X1 lx1 x1_, .slice X2 lx2 x2_], boxI wr.heap.size 39 [.int .i64 m.du, .slice (some ⟨b3, o3, none⟩) m.us.length cp, .slice (some ⟨b4, o4, none⟩) lc cq], ⟨flat 3 (sm.map (.int .i64)), .slice VC sm.length cc_, FC⟩, ⟨flat 3 (xs.map (.int .i64)), vb, FB⟩, ⟨flat 3 (rg.map (.int .i64)), .slice VA a.ms.length ca_, FA⟩, boxI (w1.heap.size + 1) 32 [.string a.nm, .int .i64 a.fa, .slice (some ⟨b2, o2, none⟩) a.ms.length cm], boxI w1.heap.size 28 [.int .i64 dl, .slice (some ⟨b, of, none⟩) na c1, .slice A2 nl c2, .slice A3 R c3, .slice A4 Sk c4]]) ∧ W.cell? ⟨w8.heap.size, 0, none⟩ = some (.int .i64 m.du) ∧ W.cell? ⟨wr.heap.size, 0, none⟩ = some (.int .i64 m.du) ∧ W.cell? ⟨wr.heap.size, 1, none⟩ = some (.slice (some ⟨b3, o3, none⟩) m.us.length cp) ∧ W.cell? ⟨wr.heap.size, 2, none⟩ = some (.slice (some ⟨b4, o4, none⟩) lc cq) ∧ W.cell? ⟨(w1.heap.size + 1), 0, none⟩ = some (.string a.nm) ∧ W.cell? ⟨(w1.heap.size + 1), 1, none⟩ = some (.int .i64 a.fa) ∧ W.cell? ⟨(w1.heap.size + 1), 2, none⟩ = some (.slice (some ⟨b2, o2, none⟩) a.ms.length cm) ∧ W.cell? ⟨w1.heap.size, 3, none⟩ = some (.slice A3 R c3) ∧ W.cell? ⟨w1.heap.size, 4, none⟩ = some (.slice A4 Sk c4) ∧ W.cell? ⟨b3, o3, none⟩ = some (.int .i64 x) ∧ W.cell? ⟨b4, o4, none⟩ = some (.int .i64 y)) => implMinConsumption_any a rg 0 _ _ W (h.1.out.old HA.out) (h.1.out.rdI 4 rfl)
      have M1b := M1.out
      rw [OK1.out] at M1b
      have M1 := Lib.hid M1b
      clear M1b
      generalize selB ltB durV a.ms rg = z1 at ol M2
      generalize selB gtB durV a.ms rg = z2 at oh M3
      generalize selB ltB (leastV 0 false false) a.ms rg = z3 at ou1 M4
      generalize selB ltB (leastV 0 false true) a.ms rg = z4 at ou2 M5
      generalize selB ltB (leastV 0 true false) a.ms rg = z5 at oc M6
      have hd1 : decide (m.du < z1) = false := decide_eq_false (by omega)
      have hd2 : decide (z2 < m.du) = false := decide_eq_false (by omega)
      have hd3 : decide (x < z3) = false := decide_eq_false (by omega)
      have hd4 : decide (m.du * x < z4) = false := decide_eq_false (by omega)
      have hw4 : IntKind.i64.wrap (m.du * x) = m.du * x := IntWalk.i64_in _ (by omega)
      have hd5 : decide (y < z5) = false := decide_eq_false (by omega)
      have hd6 : decide ((0 : Int) < (lc : Int)) = true := decide_eq_true hco'
      have hd7 : decide (0 < lc) = true := decide_eq_true hco
      have DROP := Lib.hid (fun (W : World) (h : Hid (Sn w1 W [boxI w8.heap.size 39 [.int .i64 m.du, .slice X1 lx1 x1_, .slice X2 lx2 x2_], boxI wr.heap.size 39 [.int .i64 m.du, .slice (some ⟨b3, o3, none⟩) m.us.length cp, .slice (some ⟨b4, o4, none⟩) lc cq], ⟨flat 3 (sm.map (.int .i64)), .slice VC sm.length cc_, FC⟩, ⟨flat 3 (xs.map (.int .i64)), vb, FB⟩, ⟨flat 3 (rg.map (.int .i64)), .slice VA a.ms.length ca_, FA⟩, boxI (w1.heap.size + 1) 32 [.string a.nm, .int .i64 a.fa, .slice (some ⟨b2, o2, none⟩) a.ms.length cm], boxI w1.heap.size 28 [.int .i64 dl, .slice (some ⟨b, of, none⟩) na c1, .slice A2 nl c2, .slice A3 R c3, .slice A4 Sk c4]]) ∧ W.cell? ⟨w8.heap.size, 0, none⟩ = some (.int .i64 m.du) ∧ W.cell? ⟨wr.heap.size, 0, none⟩ = some (.int .i64 m.du) ∧ W.cell? ⟨wr.heap.size, 1, none⟩ = some (.slice (some ⟨b3, o3, none⟩) m.us.length cp) ∧ W.cell? ⟨wr.heap.size, 2, none⟩ = some (.slice (some ⟨b4, o4, none⟩) lc cq) ∧ W.cell? ⟨(w1.heap.size + 1), 0, none⟩ = some (.string a.nm) ∧ W.cell? ⟨(w1.heap.size + 1), 1, none⟩ = some (.int .i64 a.fa) ∧ W.cell? ⟨(w1.heap.size + 1), 2, none⟩ = some (.slice (some ⟨b2, o2, none⟩) a.ms.length cm) ∧ W.cell? ⟨w1.heap.size, 3, none⟩ = some (.slice A3 R c3) ∧ W.cell? ⟨w1.heap.size, 4, none⟩ = some (.slice A4 Sk c4) ∧ W.cell? ⟨b3, o3, none⟩ = some (.int .i64 x) ∧ W.cell? ⟨b4, o4, none⟩ = some (.int .i64 y)) => (h.1.out.drop 0).drop 0)
      have N2 := Lib.hid M2
      clear M2
      have N3 := Lib.hid M3
      clear M3
      have N4 := Lib.hid M4
      clear M4
      have N5 := Lib.hid M5
      clear M5
      have N6 := Lib.hid M6
      clear M6
      have UD := Lib.hid U3.out
      clear U3
      simp only [List.append_eq, List.cons_append, List.nil_append]
      go_region_held3 (fun w' => Hid (Sn w1 w' [boxI w8.heap.size 39 [.int .i64 m.du, .slice X1 lx1 x1_, .slice X2 lx2 x2_], boxI wr.heap.size 39 [.int .i64 m.du, .slice (some ⟨b3, o3, none⟩) m.us.length cp, .slice (some ⟨b4, o4, none⟩) lc cq], ⟨flat 3 (sm.map (.int .i64)), .slice VC sm.length cc_, FC⟩, ⟨flat 3 (xs.map (.int .i64)), vb, FB⟩, ⟨flat 3 (rg.map (.int .i64)), .slice VA a.ms.length ca_, FA⟩, boxI (w1.heap.size + 1) 32 [.string a.nm, .int .i64 a.fa, .slice (some ⟨b2, o2, none⟩) a.ms.length cm], boxI w1.heap.size 28 [.int .i64 dl, .slice (some ⟨b, of, none⟩) na c1, .slice A2 nl c2, .slice A3 R c3, .slice A4 Sk c4]]) ∧ w'.cell? ⟨w8.heap.size, 0, none⟩ = some (.int .i64 m.du) ∧ w'.cell? ⟨wr.heap.size, 0, none⟩ = some (.int .i64 m.du) ∧ w'.cell? ⟨wr.heap.size, 1, none⟩ = some (.slice (some ⟨b3, o3, none⟩) m.us.length cp) ∧ w'.cell? ⟨wr.heap.size, 2, none⟩ = some (.slice (some ⟨b4, o4, none⟩) lc cq) ∧ w'.cell? ⟨(w1.heap.size + 1), 0, none⟩ = some (.string a.nm) ∧ w'.cell? ⟨(w1.heap.size + 1), 1, none⟩ = some (.int .i64 a.fa) ∧ w'.cell? ⟨(w1.heap.size + 1), 2, none⟩ = some (.slice (some ⟨b2, o2, none⟩) a.ms.length cm) ∧ w'.cell? ⟨w1.heap.size, 3, none⟩ = some (.slice A3 R c3) ∧ w'.cell? ⟨w1.heap.size, 4, none⟩ = some (.slice A4 Sk c4) ∧ w'.cell? ⟨b3, o3, none⟩ = some (.int .i64 x) ∧ w'.cell? ⟨b4, o4, none⟩ = some (.int .i64 y))
        (first | exact INIT.out | exact KEEP.out _ _ (by assumption) (by assumption) | go_keep)
        (first
          | (go_at_call 12; refine (M1.out _ (by assumption)).mono ?_; rintro e w' ⟨rfl, bb⟩)
          | (go_at_call 13; refine (N2.out _ (by assumption)).mono ?_; rintro e w' ⟨rfl, bb⟩)
          | (go_at_call 14; refine (N3.out _ (by assumption)).mono ?_; rintro e w' ⟨rfl, bb⟩)
          | (go_at_call 15; refine (N4.out _ (by assumption)).mono ?_; rintro e w' ⟨rfl, bb⟩)
          | (go_at_call 16; refine (N5.out _ (by assumption)).mono ?_; rintro e w' ⟨rfl, bb⟩)
          | (go_at_call 17; refine (N6.out _ (by assumption)).mono ?_; rintro e w' ⟨rfl, bb⟩))
      all_goals
        go_wp2
        go_roundw
        case rel => exact ⟨k + 1, by omega, by go_num, DROP.out _ (by assumption)⟩
        case measure => simp [intOf]; omega
    · have hge : ¬ (k : Int) < (a.ms.length : Int) := by omega
      by_cases hsm : sm.length = 0
      · have hsm' : ((sm.length : Int) == 0) = true := by simp [hsm]
        have CELLS := Lib.hid (fun (W : World) (h : Sn w1 W [⟨flat 3 (sm.map (.int .i64)), .slice VC sm.length cc_, FC⟩, ⟨flat 3 (xs.map (.int .i64)), vb, FB⟩, ⟨flat 3 (rg.map (.int .i64)), .slice VA a.ms.length ca_, FA⟩, boxI (w1.heap.size + 1) 32 [.string a.nm, .int .i64 a.fa, .slice M a.ms.length cm], boxI w1.heap.size 28 [.int .i64 dl, .slice (some ⟨b, of, none⟩) na c1, .slice A2 nl c2, .slice A3 R c3, .slice A4 Sk c4]]) => show Hid (Sn w1 W [⟨flat 3 (sm.map (.int .i64)), .slice VC sm.length cc_, FC⟩, ⟨flat 3 (xs.map (.int .i64)), vb, FB⟩, ⟨flat 3 (rg.map (.int .i64)), .slice VA a.ms.length ca_, FA⟩, boxI (w1.heap.size + 1) 32 [.string a.nm, .int .i64 a.fa, .slice M a.ms.length cm], boxI w1.heap.size 28 [.int .i64 dl, .slice (some ⟨b, of, none⟩) na c1, .slice A2 nl c2, .slice A3 R c3, .slice A4 Sk c4]]) ∧ W.cell? ⟨(w1.heap.size + 1), 0, none⟩ = some (.string a.nm) ∧ W.cell? ⟨(w1.heap.size + 1), 1, none⟩ = some (.int .i64 a.fa) ∧ W.cell? ⟨(w1.heap.size + 1), 2, none⟩ = some (.slice M a.ms.length cm) from ⟨Lib.hid h, (h.bk 3 rfl).cell 0, (h.bk 3 rfl).cell 1, (h.bk 3 rfl).cell 2⟩)
        have INIT := Lib.hid (CELLS.out _ U0.out.drew1)
        have LAST := Lib.hid (fun (W : World) (h : Hid (Sn w1 W [⟨flat 3 (sm.map (.int .i64)), .slice VC sm.length cc_, FC⟩, ⟨flat 3 (xs.map (.int .i64)), vb, FB⟩, ⟨flat 3 (rg.map (.int .i64)), .slice VA a.ms.length ca_, FA⟩, boxI (w1.heap.size + 1) 32 [.string a.nm, .int .i64 a.fa, .slice M a.ms.length cm], boxI w1.heap.size 28 [.int .i64 dl, .slice (some ⟨b, of, none⟩) na c1, .slice A2 nl c2, .slice A3 R c3, .slice A4 Sk c4]]) ∧ W.cell? ⟨(w1.heap.size + 1), 0, none⟩ = some (.string a.nm) ∧ W.cell? ⟨(w1.heap.size + 1), 1, none⟩ = some (.int .i64 a.fa) ∧ W.cell? ⟨(w1.heap.size + 1), 2, none⟩ = some (.slice M a.ms.length cm)) => B1.out.trans (h.1.out.1.mono B1.out.size))
        have UD := Lib.hid U0.out
        clear U0 hsm
        go_wp2_with fail
        refine wp_region_held_drew (S := fun w' => Hid (Sn w1 w' [⟨flat 3 (sm.map (.int .i64)), .slice VC sm.length cc_, FC⟩, ⟨flat 3 (xs.map (.int .i64)), vb, FB⟩, ⟨flat 3 (rg.map (.int .i64)), .slice VA a.ms.length ca_, FA⟩, boxI (w1.heap.size + 1) 32 [.string a.nm, .int .i64 a.fa, .slice M a.ms.length cm], boxI w1.heap.size 28 [.int .i64 dl, .slice (some ⟨b, of, none⟩) na c1, .slice A2 nl c2, .slice A3 R c3, .slice A4 Sk c4]]) ∧ w'.cell? ⟨(w1.heap.size + 1), 0, none⟩ = some (.string a.nm) ∧ w'.cell? ⟨(w1.heap.size + 1), 1, none⟩ = some (.int .i64 a.fa) ∧ w'.cell? ⟨(w1.heap.size + 1), 2, none⟩ = some (.slice M a.ms.length cm)) (by kernel_rfl) INIT.out (fun hHeld => ?_)
        refine wpAnyH_take (i := 0) (v := ?_) rfl (by kernel_rfl) (by kernel_rfl) (by kernel_rfl) (fun _ _ _ h => h) (Or.inl ⟨by rfl, ?_⟩) (by assumption) ?_
        rotate_left
        · (intro W hSw; (try dsimp only at hSw); go_simp <;> with_reducible rfl)
        (try simp only [Act.put, List.getElem_toArray, List.getElem_cons_zero, List.setIfInBounds_toArray, List.set_cons_succ, List.set_cons_zero])
        refine wpAnyH_take (i := 1) (v := ?_) rfl (by kernel_rfl) (by kernel_rfl) (by kernel_rfl) (fun _ _ _ h => h) (Or.inl ⟨by rfl, ?_⟩) (by assumption) ?_
        rotate_left
        · (intro W hSw; (try dsimp only at hSw); go_simp <;> with_reducible rfl)
        (try simp only [Act.put, List.getElem_toArray, List.getElem_cons_succ, List.getElem_cons_zero, List.setIfInBounds_toArray, List.set_cons_succ, List.set_cons_zero])
        refine wpAnyH_take (i := 2) (v := ?_) rfl (by kernel_rfl) (by kernel_rfl) (by kernel_rfl) (fun _ _ _ h => h) (Or.inl ⟨by rfl, ?_⟩) (by assumption) ?_
        rotate_left
        · (intro W hSw; (try dsimp only at hSw); go_simp <;> with_reducible rfl)
        (try simp only [Act.put, List.getElem_toArray, List.getElem_cons_succ, List.getElem_cons_zero, List.setIfInBounds_toArray, List.set_cons_succ, List.set_cons_zero])
        refine wpAnyH_take (i := 3) (v := ?_) rfl (by kernel_rfl) (by kernel_rfl) (by kernel_rfl) (fun _ _ _ h => h) (Or.inl ⟨by rfl, ?_⟩) (by assumption) ?_
        rotate_left
        · (intro W hSw; (try dsimp only at hSw); go_simp <;> with_reducible rfl)
        (try simp only [Act.put, List.getElem_toArray, List.getElem_cons_succ, List.getElem_cons_zero, List.setIfInBounds_toArray, List.set_cons_succ, List.set_cons_zero])
        refine wpAnyH_take (i := 4) (v := undef) rfl (by kernel_rfl) (by kernel_rfl) (by kernel_rfl) (fun _ _ _ h => h) (Or.inr ⟨by rfl, rfl⟩) (by assumption) ?_
        (try simp only [Act.put, List.getElem_toArray, List.getElem_cons_succ, List.getElem_cons_zero, List.setIfInBounds_toArray, List.set_cons_succ, List.set_cons_zero])
        refine wpAnyH_take (i := 5) (v := undef) rfl (by kernel_rfl) (by kernel_rfl) (by kernel_rfl) (fun _ _ _ h => h) (Or.inr ⟨by rfl, rfl⟩) (by assumption) ?_
        (try simp only [Act.put, List.getElem_toArray, List.getElem_cons_succ, List.getElem_cons_zero, List.setIfInBounds_toArray, List.set_cons_succ, List.set_cons_zero])
        refine wpAnyH_take (i := 6) (v := undef) rfl (by kernel_rfl) (by kernel_rfl) (by kernel_rfl) (fun _ _ _ h => h) (Or.inr ⟨by rfl, rfl⟩) (by assumption) ?_
        (try simp only [Act.put, List.getElem_toArray, List.getElem_cons_succ, List.getElem_cons_zero, List.setIfInBounds_toArray, List.set_cons_succ, List.set_cons_zero])
        refine wpAnyH_take (i := 7) (v := undef) rfl (by kernel_rfl) (by kernel_rfl) (by kernel_rfl) (fun _ _ _ h => h) (Or.inr ⟨by rfl, rfl⟩) (by assumption) ?_
        (try simp only [Act.put, List.getElem_toArray, List.getElem_cons_succ, List.getElem_cons_zero, List.setIfInBounds_toArray, List.set_cons_succ, List.set_cons_zero])
        refine wpAnyH_take (i := 8) (v := undef) rfl (by kernel_rfl) (by kernel_rfl) (by kernel_rfl) (fun _ _ _ h => h) (Or.inr ⟨by rfl, rfl⟩) (by assumption) ?_
        (try simp only [Act.put, List.getElem_toArray, List.getElem_cons_succ, List.getElem_cons_zero, List.setIfInBounds_toArray, List.set_cons_succ, List.set_cons_zero])
        refine wpAnyH_take (i := 9) (v := undef) rfl (by kernel_rfl) (by kernel_rfl) (by kernel_rfl) (fun _ _ _ h => h) (Or.inr ⟨by rfl, rfl⟩) (by assumption) ?_
        (try simp only [Act.put, List.getElem_toArray, List.getElem_cons_succ, List.getElem_cons_zero, List.setIfInBounds_toArray, List.set_cons_succ, List.set_cons_zero])
        refine wpAnyH_take (i := 10) (v := undef) rfl (by kernel_rfl) (by kernel_rfl) (by kernel_rfl) (fun _ _ _ h => h) (Or.inr ⟨by rfl, rfl⟩) (by assumption) ?_
        (try simp only [Act.put, List.getElem_toArray, List.getElem_cons_succ, List.getElem_cons_zero, List.setIfInBounds_toArray, List.set_cons_succ, List.set_cons_zero])
        refine wpAnyH_take (i := 11) (v := undef) rfl (by kernel_rfl) (by kernel_rfl) (by kernel_rfl) (fun _ _ _ h => h) (Or.inr ⟨by rfl, rfl⟩) (by assumption) ?_
        (try simp only [Act.put, List.getElem_toArray, List.getElem_cons_succ, List.getElem_cons_zero, List.setIfInBounds_toArray, List.set_cons_succ, List.set_cons_zero])
        refine wpAnyH_take (i := 12) (v := undef) rfl (by kernel_rfl) (by kernel_rfl) (by kernel_rfl) (fun _ _ _ h => h) (Or.inr ⟨by rfl, rfl⟩) (by assumption) ?_
        (try simp only [Act.put, List.getElem_toArray, List.getElem_cons_succ, List.getElem_cons_zero, List.setIfInBounds_toArray, List.set_cons_succ, List.set_cons_zero])
        refine wpAnyH_take (i := 13) (v := undef) rfl (by kernel_rfl) (by kernel_rfl) (by kernel_rfl) (fun _ _ _ h => h) (Or.inr ⟨by rfl, rfl⟩) (by assumption) ?_
        (try simp only [Act.put, List.getElem_toArray, List.getElem_cons_succ, List.getElem_cons_zero, List.setIfInBounds_toArray, List.set_cons_succ, List.set_cons_zero])
        refine wpAnyH_take (i := 14) (v := undef) rfl (by kernel_rfl) (by kernel_rfl) (by kernel_rfl) (fun _ _ _ h => h) (Or.inr ⟨by rfl, rfl⟩) (by assumption) ?_
        (try simp only [Act.put, List.getElem_toArray, List.getElem_cons_succ, List.getElem_cons_zero, List.setIfInBounds_toArray, List.set_cons_succ, List.set_cons_zero])
        refine wpAnyH_take (i := 15) (v := undef) rfl (by kernel_rfl) (by kernel_rfl) (by kernel_rfl) (fun _ _ _ h => h) (Or.inr ⟨by rfl, rfl⟩) (by assumption) ?_
        (try simp only [Act.put, List.getElem_toArray, List.getElem_cons_succ, List.getElem_cons_zero, List.setIfInBounds_toArray, List.set_cons_succ, List.set_cons_zero])
        refine wpAnyH_take (i := 16) (v := undef) rfl (by kernel_rfl) (by kernel_rfl) (by kernel_rfl) (fun _ _ _ h => h) (Or.inr ⟨by rfl, rfl⟩) (by assumption) ?_
        (try simp only [Act.put, List.getElem_toArray, List.getElem_cons_succ, List.getElem_cons_zero, List.setIfInBounds_toArray, List.set_cons_succ, List.set_cons_zero])
        refine wpAnyH_take (i := 17) (v := undef) rfl (by kernel_rfl) (by kernel_rfl) (by kernel_rfl) (fun _ _ _ h => h) (Or.inr ⟨by rfl, rfl⟩) (by assumption) ?_
        (try simp only [Act.put, List.getElem_toArray, List.getElem_cons_succ, List.getElem_cons_zero, List.setIfInBounds_toArray, List.set_cons_succ, List.set_cons_zero])
        refine wpAnyH_take (i := 18) (v := undef) rfl (by kernel_rfl) (by kernel_rfl) (by kernel_rfl) (fun _ _ _ h => h) (Or.inr ⟨by rfl, rfl⟩) (by assumption) ?_
        (try simp only [Act.put, List.getElem_toArray, List.getElem_cons_succ, List.getElem_cons_zero, List.setIfInBounds_toArray, List.set_cons_succ, List.set_cons_zero])
        refine wpAnyH_take (i := 19) (v := undef) rfl (by kernel_rfl) (by kernel_rfl) (by kernel_rfl) (fun _ _ _ h => h) (Or.inr ⟨by rfl, rfl⟩) (by assumption) ?_
        (try simp only [Act.put, List.getElem_toArray, List.getElem_cons_succ, List.getElem_cons_zero, List.setIfInBounds_toArray, List.set_cons_succ, List.set_cons_zero])
        refine wpAnyH_take (i := 20) (v := ?_) rfl (by kernel_rfl) (by kernel_rfl) (by kernel_rfl) (fun _ _ _ h => h) (Or.inl ⟨by rfl, ?_⟩) (by assumption) ?_
        rotate_left
        · (intro W hSw; (try dsimp only at hSw); go_simp <;> with_reducible rfl)
        (try simp only [Act.put, List.getElem_toArray, List.getElem_cons_succ, List.getElem_cons_zero, List.setIfInBounds_toArray, List.set_cons_succ, List.set_cons_zero])
        refine wpAnyH_take (i := 21) (v := ?_) rfl (by kernel_rfl) (by kernel_rfl) (by kernel_rfl) (fun _ _ _ h => h) (Or.inl ⟨by rfl, ?_⟩) (by assumption) ?_
        rotate_left
        · (intro W hSw; (try dsimp only at hSw); go_simp <;> with_reducible rfl)
        (try simp only [Act.put, List.getElem_toArray, List.getElem_cons_succ, List.getElem_cons_zero, List.setIfInBounds_toArray, List.set_cons_succ, List.set_cons_zero])
        refine wpAnyH_done (by kernel_rfl) ?_ _
        all_goals
          go_wp2
          go_ret
          exact ⟨rfl, LAST.out _ (by assumption)⟩
      · have hsm' : ((sm.length : Int) == 0) = false := by simp only [beq_eq_false_iff_ne]; omega
        have fw := FEW.out hsm
        obtain ⟨f1, f2⟩ := fw
        have CELLS := Lib.hid (fun (W : World) (h : Sn w1 W [⟨flat 3 (sm.map (.int .i64)), .slice VC sm.length cc_, FC⟩, ⟨flat 3 (xs.map (.int .i64)), vb, FB⟩, ⟨flat 3 (rg.map (.int .i64)), .slice VA a.ms.length ca_, FA⟩, boxI (w1.heap.size + 1) 32 [.string a.nm, .int .i64 a.fa, .slice M a.ms.length cm], boxI w1.heap.size 28 [.int .i64 dl, .slice (some ⟨b, of, none⟩) na c1, .slice A2 nl c2, .slice A3 R c3, .slice A4 Sk c4]]) => show Hid (Sn w1 W [⟨flat 3 (sm.map (.int .i64)), .slice VC sm.length cc_, FC⟩, ⟨flat 3 (xs.map (.int .i64)), vb, FB⟩, ⟨flat 3 (rg.map (.int .i64)), .slice VA a.ms.length ca_, FA⟩, boxI (w1.heap.size + 1) 32 [.string a.nm, .int .i64 a.fa, .slice M a.ms.length cm], boxI w1.heap.size 28 [.int .i64 dl, .slice (some ⟨b, of, none⟩) na c1, .slice A2 nl c2, .slice A3 R c3, .slice A4 Sk c4]]) ∧ W.cell? ⟨(w1.heap.size + 1), 0, none⟩ = some (.string a.nm) ∧ W.cell? ⟨(w1.heap.size + 1), 1, none⟩ = some (.int .i64 a.fa) ∧ W.cell? ⟨(w1.heap.size + 1), 2, none⟩ = some (.slice M a.ms.length cm) from ⟨Lib.hid h, (h.bk 3 rfl).cell 0, (h.bk 3 rfl).cell 1, (h.bk 3 rfl).cell 2⟩)
        have INIT := Lib.hid (CELLS.out _ U0.out.drew1)
        have KEEP := Lib.hid (fun (W2 W : World) (hb : Below W.heap.size W W2) (h : Hid (Sn w1 W [⟨flat 3 (sm.map (.int .i64)), .slice VC sm.length cc_, FC⟩, ⟨flat 3 (xs.map (.int .i64)), vb, FB⟩, ⟨flat 3 (rg.map (.int .i64)), .slice VA a.ms.length ca_, FA⟩, boxI (w1.heap.size + 1) 32 [.string a.nm, .int .i64 a.fa, .slice M a.ms.length cm], boxI w1.heap.size 28 [.int .i64 dl, .slice (some ⟨b, of, none⟩) na c1, .slice A2 nl c2, .slice A3 R c3, .slice A4 Sk c4]]) ∧ W.cell? ⟨(w1.heap.size + 1), 0, none⟩ = some (.string a.nm) ∧ W.cell? ⟨(w1.heap.size + 1), 1, none⟩ = some (.int .i64 a.fa) ∧ W.cell? ⟨(w1.heap.size + 1), 2, none⟩ = some (.slice M a.ms.length cm)) => CELLS.out W2 (h.1.out.go hb))
        have LAST := Lib.hid (fun (W : World) (h : Hid (Sn w1 W [⟨flat 3 (sm.map (.int .i64)), .slice VC sm.length cc_, FC⟩, ⟨flat 3 (xs.map (.int .i64)), vb, FB⟩, ⟨flat 3 (rg.map (.int .i64)), .slice VA a.ms.length ca_, FA⟩, boxI (w1.heap.size + 1) 32 [.string a.nm, .int .i64 a.fa, .slice M a.ms.length cm], boxI w1.heap.size 28 [.int .i64 dl, .slice (some ⟨b, of, none⟩) na c1, .slice A2 nl c2, .slice A3 R c3, .slice A4 Sk c4]]) ∧ W.cell? ⟨(w1.heap.size + 1), 0, none⟩ = some (.string a.nm) ∧ W.cell? ⟨(w1.heap.size + 1), 1, none⟩ = some (.int .i64 a.fa) ∧ W.cell? ⟨(w1.heap.size + 1), 2, none⟩ = some (.slice M a.ms.length cm)) => B1.out.trans (h.1.out.1.mono B1.out.size))
        have M1 := fun (W : World) (h : Hid (Sn w1 W [⟨flat 3 (sm.map (.int .i64)), .slice VC sm.length cc_, FC⟩, ⟨flat 3 (xs.map (.int .i64)), vb, FB⟩, ⟨flat 3 (rg.map (.int .i64)), .slice VA a.ms.length ca_, FA⟩, boxI (w1.heap.size + 1) 32 [.string a.nm, .int .i64 a.fa, .slice M a.ms.length cm], boxI w1.heap.size 28 [.int .i64 dl, .slice (some ⟨b, of, none⟩) na c1, .slice A2 nl c2, .slice A3 R c3, .slice A4 Sk c4]]) ∧ W.cell? ⟨(w1.heap.size + 1), 0, none⟩ = some (.string a.nm) ∧ W.cell? ⟨(w1.heap.size + 1), 1, none⟩ = some (.int .i64 a.fa) ∧ W.cell? ⟨(w1.heap.size + 1), 2, none⟩ = some (.slice M a.ms.length cm)) => implMinDuration_any a sm _ _ W (h.1.out.old HA.out) (h.1.out.rdI 0 rfl)
        have M2 := fun (W : World) (h : Hid (Sn w1 W [⟨flat 3 (sm.map (.int .i64)), .slice VC sm.length cc_, FC⟩, ⟨flat 3 (xs.map (.int .i64)), vb, FB⟩, ⟨flat 3 (rg.map (.int .i64)), .slice VA a.ms.length ca_, FA⟩, boxI (w1.heap.size + 1) 32 [.string a.nm, .int .i64 a.fa, .slice M a.ms.length cm], boxI w1.heap.size 28 [.int .i64 dl, .slice (some ⟨b, of, none⟩) na c1, .slice A2 nl c2, .slice A3 R c3, .slice A4 Sk c4]]) ∧ W.cell? ⟨(w1.heap.size + 1), 0, none⟩ = some (.string a.nm) ∧ W.cell? ⟨(w1.heap.size + 1), 1, none⟩ = some (.int .i64 a.fa) ∧ W.cell? ⟨(w1.heap.size + 1), 2, none⟩ = some (.slice M a.ms.length cm)) => implMinDuration_any a rg _ _ W (h.1.out.old HA.out) (h.1.out.rdI 2 rfl)
        have M3 := fun (W : World) (h : Hid (Sn w1 W [⟨flat 3 (sm.map (.int .i64)), .slice VC sm.length cc_, FC⟩, ⟨flat 3 (xs.map (.int .i64)), vb, FB⟩, ⟨flat 3 (rg.map (.int .i64)), .slice VA a.ms.length ca_, FA⟩, boxI (w1.heap.size + 1) 32 [.string a.nm, .int .i64 a.fa, .slice M a.ms.length cm], boxI w1.heap.size 28 [.int .i64 dl, .slice (some ⟨b, of, none⟩) na c1, .slice A2 nl c2, .slice A3 R c3, .slice A4 Sk c4]]) ∧ W.cell? ⟨(w1.heap.size + 1), 0, none⟩ = some (.string a.nm) ∧ W.cell? ⟨(w1.heap.size + 1), 1, none⟩ = some (.int .i64 a.fa) ∧ W.cell? ⟨(w1.heap.size + 1), 2, none⟩ = some (.slice M a.ms.length cm)) => implMinUsage_any a sm 0 _ _ W (h.1.out.old HA.out) (h.1.out.rdI 0 rfl)
        have M4 := fun (W : World) (h : Hid (Sn w1 W [⟨flat 3 (sm.map (.int .i64)), .slice VC sm.length cc_, FC⟩, ⟨flat 3 (xs.map (.int .i64)), vb, FB⟩, ⟨flat 3 (rg.map (.int .i64)), .slice VA a.ms.length ca_, FA⟩, boxI (w1.heap.size + 1) 32 [.string a.nm, .int .i64 a.fa, .slice M a.ms.length cm], boxI w1.heap.size 28 [.int .i64 dl, .slice (some ⟨b, of, none⟩) na c1, .slice A2 nl c2, .slice A3 R c3, .slice A4 Sk c4]]) ∧ W.cell? ⟨(w1.heap.size + 1), 0, none⟩ = some (.string a.nm) ∧ W.cell? ⟨(w1.heap.size + 1), 1, none⟩ = some (.int .i64 a.fa) ∧ W.cell? ⟨(w1.heap.size + 1), 2, none⟩ = some (.slice M a.ms.length cm)) => implMinUsage_any a rg 0 _ _ W (h.1.out.old HA.out) (h.1.out.rdI 2 rfl)
        generalize selB ltB durV a.ms rg = z1 at f1 M2
        generalize selB ltB durV a.ms sm = z2 at f1 M1
        generalize selB ltB (leastV 0 false false) a.ms rg = z3 at f2 M4
        generalize selB ltB (leastV 0 false false) a.ms sm = z4 at f2 M3
        have hd1 : decide (z1 ≤ z2) = true := decide_eq_true f1
        have hd2 : decide (z3 ≤ z4) = true := decide_eq_true f2
        have N1 := Lib.hid M1
        have N2 := Lib.hid M2
        have N3 := Lib.hid M3
        have N4 := Lib.hid M4
        have UD := Lib.hid U0.out
        clear M1 M2 M3 M4 U0 hsm
        go_wp2_with fail
        go_region_held3 (fun w' => Hid (Sn w1 w' [⟨flat 3 (sm.map (.int .i64)), .slice VC sm.length cc_, FC⟩, ⟨flat 3 (xs.map (.int .i64)), vb, FB⟩, ⟨flat 3 (rg.map (.int .i64)), .slice VA a.ms.length ca_, FA⟩, boxI (w1.heap.size + 1) 32 [.string a.nm, .int .i64 a.fa, .slice M a.ms.length cm], boxI w1.heap.size 28 [.int .i64 dl, .slice (some ⟨b, of, none⟩) na c1, .slice A2 nl c2, .slice A3 R c3, .slice A4 Sk c4]]) ∧ w'.cell? ⟨(w1.heap.size + 1), 0, none⟩ = some (.string a.nm) ∧ w'.cell? ⟨(w1.heap.size + 1), 1, none⟩ = some (.int .i64 a.fa) ∧ w'.cell? ⟨(w1.heap.size + 1), 2, none⟩ = some (.slice M a.ms.length cm))
          (first | exact INIT.out | exact KEEP.out _ _ (by assumption) (by assumption) | go_keep)
          (first
            | (go_at_call 13; (with_reducible refine (N1.out _ (by assumption)).mono ?_); rintro e w' ⟨rfl, bb⟩)
            | (go_at_call 13; (with_reducible refine (N2.out _ (by assumption)).mono ?_); rintro e w' ⟨rfl, bb⟩)
            | (go_at_call 15; (with_reducible refine (N3.out _ (by assumption)).mono ?_); rintro e w' ⟨rfl, bb⟩)
            | (go_at_call 15; (with_reducible refine (N4.out _ (by assumption)).mono ?_); rintro e w' ⟨rfl, bb⟩))
        all_goals
          go_wp2
          go_ret
          exact ⟨rfl, LAST.out _ (by assumption)⟩
end Go.Proofs.YtnbkiobbacaaiaaGreatDoor
