/- DERIVED. CONTRACT of the program's timingOf: the table that the links and the shortest modes determine. -/
import Derived.Test.YtoggakfkpeloiaaGreatDsTab
import Derived.Test.YtoggakfkpeloiaaGreatDsMod
import Derived.Test.YtoggakfkpeloiaaGreatLkPj
import Derived.Test.YtoggakfkpeloiaaGreatLkPi
import Derived.Test.YtoggakfkpeloiaaGreatLkGg
import Derived.Laws.ResultCell
namespace Go.Proofs.YtoggakfkpeloiaaGreat
open Go.RowKit Go.Shelf
set_option linter.unusedVariables false

def zT : Tb := fun _ _ => 0
def zD : Nat → Int := fun _ => 0
/-- The first k rows made ready. -/
def iniT (n k : Nat) : Tb := fun a b => if a < k then tb0 n a b else 0
/-- And j places of the next. -/
def iniJ (n k j : Nat) : Tb := fun a b => if a < k then tb0 n a b else if a = k ∧ b < j then -1000 else 0
theorem ini_zero (n : Nat) : iniT n 0 = zT := by funext a b; simp [iniT, zT]
theorem iniJ_zero (n k : Nat) : iniJ n k 0 = iniT n k := by funext a b; simp [iniT, iniJ]
theorem iniJ_next (n k j : Nat) : upT (iniJ n k j) k j (-1000) = iniJ n k (j + 1) := by
  funext a b
  unfold upT iniJ
  by_cases h1 : a = k ∧ b = j
  · rw [if_pos h1, if_neg (by omega), if_pos (by omega)]
  · rw [if_neg h1]
    by_cases h2 : a < k
    · rw [if_pos h2, if_pos h2]
    · rw [if_neg h2, if_neg h2]
      by_cases h3 : a = k ∧ b < j
      · rw [if_pos h3, if_pos (by omega)]
      · rw [if_neg h3, if_neg (by omega)]
theorem iniT_next {n k : Nat} (hk : k < n) : upT (iniJ n k n) k k 0 = iniT n (k + 1) := by
  funext a b
  unfold upT iniJ iniT tb0
  by_cases h1 : a = k ∧ b = k
  · rw [if_pos h1, if_pos (by omega), if_pos (by omega), if_pos (by omega)]
  · rw [if_neg h1]
    by_cases h2 : a < k
    · rw [if_pos h2, if_pos (show a < k + 1 by omega)]
    · rw [if_neg h2]
      by_cases h3 : a = k ∧ b < n
      · rw [if_pos h3, if_pos (show a < k + 1 by omega), if_pos (by omega), if_neg (by omega)]
      · rw [if_neg h3]
        by_cases h4 : a < k + 1
        · rw [if_pos h4, if_neg (by omega)]
        · rw [if_neg h4]
theorem iniT_full (n : Nat) : iniT n n = tb0 n := by
  funext a b
  unfold iniT tb0
  by_cases h : a < n
  · rw [if_pos h]
  · rw [if_neg h, if_neg (by omega)]
noncomputable def durK (p : Pj) (k : Nat) : Nat → Int := fun i => if i < k then shortA p i else 0
theorem durK_zero (p : Pj) : durK p 0 = zD := by funext i; simp [durK, zD]
theorem durK_next (p : Pj) (k : Nat) : upD (durK p k) k (shortA p k) = durK p (k + 1) := by
  funext i
  unfold upD durK
  by_cases h : i = k
  · subst h; rw [if_pos rfl, if_pos (by omega)]
  · rw [if_neg h]
    by_cases h2 : i < k
    · rw [if_pos h2, if_pos (by omega)]
    · rw [if_neg h2, if_neg (by omega)]
theorem durK_full (p : Pj) : durK p p.acts.length = shortA p := by
  funext i
  unfold durK
  by_cases h : i < p.acts.length
  · rw [if_pos h]
  · rw [if_neg h, shortA, if_neg h]
theorem results_tim {fn : Func} {p u : Tmp} (h : fn.results = #[.cell p 59, .tmp u]) (tmps : Array Value) (w : World) (g n : Nat) (T : Tb) (d : Nat → Int) (hp : tmps.getD p undef = .pointer (some ⟨g, 0, none⟩)) (hb : Bk w g 59 ⟨timC n T d⟩) :
    (results fn tmps).run Tryz.prog w = .ok (.tuple #[.agg ⟨timC n T d⟩, tmps.getD u undef]) w := by
  rw [results_cell_tmp h, hp]
  simp [asAddr, Result.andThen, run_loadVar_mid w g 0 59 (timC n T d) _ (bk_range hb) Tryz.underlying59 rfl (timC_info n T d)]
theorem wr_cell {F : List Nat} {a b : World} (h : Wr F a b) {p : Addr} (hp : p.block < a.heap.size) (hn : p.block ∉ F) : b.cell? p = a.cell? p := World.cell?_of_block (w := a) (h.block p.block hp hn)

set_option maxRecDepth 100000 in
set_option maxHeartbeats 8000000 in
theorem timing_any (p : Pj) (v : Value) (w : World) (hv : (trPj p).rd w v) (hk : (trPj p).ok) :
    Calls Tryz.prog 45 #[v] w fun e w' => ∃ N T d, e = .returned (.tuple #[.agg ⟨timC N T d⟩, .bool (okD p)]) ∧ (okD p = true → N = p.acts.length ∧ T = distT p ∧ d = shortA p) ∧ Below w.heap.size w w' := by
  have HV := Lib.hid hv
  obtain ⟨A1, c1, A2, c2, A3, c3, A4, c4, rfl, r1, r2, r3, r4⟩ := rdProject_t hv
  obtain ⟨hl2, B2, d2, he, g2⟩ := rdLinkS_t r2
  injection he with he _ he2
  subst he he2
  have G2 := Lib.hid g2
  obtain ⟨hl1, B1, d1, he, g1⟩ := rdActivityS_t r1
  injection he with he _ he2
  subst he he2
  have G1 := Lib.hid g1
  clear hv r1 r2 r3 r4 g1 g2
  have S0 := Lib.hid ((Sn.start w).box 35 [.int .i64 p.dl, .slice A1 p.acts.length c1, .slice A2 p.lks.length c2, .slice A3 p.ress.length c3, .slice A4 p.stk.length c4])
  have HK := Lib.hid hk
  clear hk
  have S1 := Lib.hid (S0.out.box 59 (timC 0 zT zD))
  simp only [World.size_alloc] at S1
  go_enter Tryz.func45, Tryz.ntmps45
  obtain ⟨e0, e1, e2, e3, e4, ef⟩ := (S0.out.bk 0 rfl).c5
  go_wp2_with fail
  clear e0 e1 e2 e3 e4 ef S0
  refine (implProjectOk_any p _ _ (by exact S1.out.old HV.out) HK.out).mono ?_
  rintro e w1 ⟨rfl, b⟩
  have S2 := Lib.hid (S1.out.go b)
  clear S1 b
  rcases hok : pokB p with _ | _
  · have HS := Lib.hid (okD_bad hok)
    have B2 := Lib.hid (S2.out.bk 0 rfl)
    clear hok
    go_wp2_with (first | (refine wpList_store_mid rfl 59 _ _ rfl (w.heap.size + 1) 0 ⟨timC 0 zT zD⟩ rfl rfl (bk_there B2.out (by simp [timC_len])) (timC_info 0 zT zD) (oneAll 0 zT zD) ?_) | fail)
    (try simp only [Exit.inBlock, Exit.then])
    obtain ⟨hW1, hW2⟩ := bk_whole (vs := timC 0 zT zD) B2.out rfl
    have S3 := Lib.hid (S2.out.boxWr 0 rfl hW1 hW2)
    refine bodyPost_ret (v := .tuple #[.agg ⟨timC 0 zT zD⟩, .bool false]) (results_tim (p := 2) (u := 3) rfl _ _ (w.heap.size + 1) 0 zT zD rfl hW1) rfl ?_
    exact ⟨0, zT, zD, by rw [HS.out], fun h => absurd (HS.out.symm.trans h) (by simp), S3.out.1⟩
  have HOK := Lib.hid hok
  obtain ⟨e0, e1, e2, e3, e4, ef⟩ := (S2.out.bk 1 rfl).c5
  clear hok
  go_wp2_with fail
  clear e0 e1 e2 e3 e4 ef
  refine (implPositive_any p _ _ (by exact S2.out.old HV.out) HK.out).mono ?_
  rintro e w2 ⟨u, F, rfl, ou, hnu, b⟩
  obtain ⟨U, cu, rfl⟩ := slice_ints (Tr.own_rd _ _ _ ou)
  have S3 := Lib.hid (S2.out.go b)
  clear S2 b ou hnu
  by_cases hpo : posB p = []
  · have OKD := Lib.hid (okD_yes HOK.out hpo)
    rw [hpo]
    clear hpo
    obtain ⟨e0, e1, e2, e3, e4, ef⟩ := (S3.out.bk 1 rfl).c5
    have h6 := (pok_acts HOK.out).1
    have h12 := (pok_lks HOK.out).1
    have hlen0 : (([] : List Int).length : Int) = 0 := rfl
    have hW := bk_whole (vs := timC p.acts.length zT zD) (Bk.new w2 59 ⟨timC 0 zT zD⟩) rfl
    have S4 := Lib.hid ((S3.out.box 59 (timC 0 zT zD)).boxWr 0 rfl hW.1 hW.2)
    clear hW
    go_wp2_with (first | ((refine wpList_store_mid rfl 59 _ _ rfl (w2.heap.size) 0 ⟨timC p.acts.length zT zD⟩ rfl rfl (bk_there (Bk.new w2 59 ⟨timC 0 zT zD⟩) (by simp [timC_len])) (timC_info p.acts.length zT zD) (oneAll p.acts.length zT zD) ?_); change wpList _ _ _ _ _ ((w2.alloc (.cells ⟨timC 0 zT zD⟩ 59)).setCells w2.heap.size 0 (timC p.acts.length zT zD)); generalize (w2.alloc (.cells ⟨timC 0 zT zD⟩ 59)).setCells w2.heap.size 0 (timC p.acts.length zT zD) = w3 at S4 ⊢; clear e0 e1 e2 e3 e4 ef; obtain ⟨e0, e1, e2, e3, e4, ef⟩ := (S4.out.bk 2 rfl).c5) | fail)
    simp only [List.set_cons_zero] at S4
    clear e0 e1 e2 e3 e4 ef S3 hlen0
    generalize w2.heap.size = g at S4 ⊢
    go_loopw [28] (fun i wr => ∃ k : Nat, k ≤ p.acts.length ∧ i = .int .i64 k ∧ Sn w wr [boxI g 59 (timC p.acts.length (iniT p.acts.length k) (durK p k)), boxI (w.heap.size + 1) 59 (timC 0 zT zD), boxI w.heap.size 35 [.int .i64 p.dl, .slice A1 p.acts.length c1, .slice A2 p.lks.length c2, .slice A3 p.ress.length c3, .slice A4 p.stk.length c4]]) (fun i _ => p.acts.length - (intOf i).toNat)
    case atStart => exact ⟨0, Nat.zero_le _, rfl, by rw [ini_zero, durK_zero]; exact S4.out⟩
    case round =>
      obtain ⟨k, hkl, rfl, hS⟩ := hrel
      have S5 := Lib.hid hS
      clear hS S4
      by_cases hlt : k < p.acts.length
      · have hlt' : (k : Int) < (p.acts.length : Int) := by omega
        have hk6 : (k : Int) < 6 := by omega
        obtain ⟨b1, o1, rfl, hb1, hc1⟩ := G1.out k hlt
        obtain ⟨M, cm, x0, x1, x2, rm⟩ := hc1 k hlt
        have RA := Lib.hid (mk_rdActivity_t (d := p.acts[k]) rm)
        have z0 := (S5.out.1.cell (p := ⟨b1, o1 + k * 3, none⟩) hb1).trans x0
        have z1 := (S5.out.1.cell (p := ⟨b1, o1 + k * 3 + 1, none⟩) hb1).trans x1
        have z2 := (S5.out.1.cell (p := ⟨b1, o1 + k * 3 + 2, none⟩) hb1).trans x2
        have S6 := Lib.hid (S5.out.box 84 [.string p.acts[k].nm, .int .i64 p.acts[k].fa, .slice M p.acts[k].ms.length cm])
        have DE := Lib.hid (shortA_at (p := p) (i := k) hlt)
        have HD := Lib.hid (durK_next p k)
        clear hc1 rm x0 x1 x2 S5
        go_wp2_with fail
        clear z0 z1 z2
        generalize wr.heap.size = ga at S6 ⊢
        generalize World.alloc wr _ = wv at S6 ⊢
        obtain ⟨q0, q1, q2, qf⟩ := (S6.out.bk 0 rfl).c3
        have S7 := Lib.hid S6.out.drew1
        clear S6
        have hgv := (S7.out.bk 1 rfl).lt
        have hav := (S7.out.bk 0 rfl).lt
        have hne : ga ∉ [g] := fun e => S7.out.2.apart (i := 0) (j := 1) rfl rfl (by omega) ga (by simp [boxI]) (by simpa [boxI] using e)
        have hne' : ga ≠ g := by simpa using hne
        have CE := Lib.hid (fun (W : World) (h : Wr [g] wv.drew W) => show Hid (Wr [g] wv.drew W) ∧ W.cell? ⟨ga, 0, none⟩ = some (.string p.acts[k].nm) ∧ W.cell? ⟨ga, 1, none⟩ = some (.int .i64 p.acts[k].fa) ∧ W.cell? ⟨ga, 2, none⟩ = some (.slice M p.acts[k].ms.length cm) from ⟨Lib.hid h, (wr_cell h (p := ⟨ga, 0, none⟩) hav hne).trans (by simpa using q0), (wr_cell h (p := ⟨ga, 1, none⟩) hav hne).trans (by simpa using q1), (wr_cell h (p := ⟨ga, 2, none⟩) hav hne).trans (by simpa using q2)⟩)
        have INIT := Lib.hid (CE.out _ (Wr.refl _ _))
        have KB := Lib.hid (fun (W2 W : World) (hb : Below W.heap.size W W2) (h : Hid (Wr [g] wv.drew W) ∧ W.cell? ⟨ga, 0, none⟩ = some (.string p.acts[k].nm) ∧ W.cell? ⟨ga, 1, none⟩ = some (.int .i64 p.acts[k].fa) ∧ W.cell? ⟨ga, 2, none⟩ = some (.slice M p.acts[k].ms.length cm)) => CE.out W2 (h.1.out.trans (Wr.of_below hb (Nat.le_refl _))))
        have KS := Lib.hid (fun (x : Value) (W : World) (h : Hid (Wr [g] wv.drew W) ∧ W.cell? ⟨ga, 0, none⟩ = some (.string p.acts[k].nm) ∧ W.cell? ⟨ga, 1, none⟩ = some (.int .i64 p.acts[k].fa) ∧ W.cell? ⟨ga, 2, none⟩ = some (.slice M p.acts[k].ms.length cm)) => CE.out (W.setCell ⟨g, 37 + k, none⟩ x) (h.1.out.trans (Wr.setCell W ⟨g, 37 + k, none⟩ (by simp) x)))
        clear q0 q1 q2 qf hne
        go_region_held3 (fun W => Hid (Wr [g] wv.drew W) ∧ W.cell? ⟨ga, 0, none⟩ = some (.string p.acts[k].nm) ∧ W.cell? ⟨ga, 1, none⟩ = some (.int .i64 p.acts[k].fa) ∧ W.cell? ⟨ga, 2, none⟩ = some (.slice M p.acts[k].ms.length cm)) (first | exact INIT.out | exact KB.out _ _ (by assumption) (by assumption) | exact KS.out _ _ (by assumption))
          (first
          | (go_at_call 78; refine (implModeIndexes_any p.acts[k] _ _ (by exact S7.out.old RA.out)).mono ?_; rintro e w5 ⟨v5, rfl, o5, b5⟩; have S8 := Lib.hid (S7.out.new (flat_own (by simpa using o5)).1 (flat_own (by simpa using o5)).2 b5); clear o5)
          | (go_at_call 77; refine (implMinDuration_any p.acts[k] (rangeB (p.acts[k].ms.length : Int)) _ _ _ (by exact S8.out.old RA.out) (by exact rd_flat (S8.out.rd 0 rfl))).mono ?_; rintro e w6 ⟨rfl, b6⟩; rw [← DE.out]; have S9 := Lib.hid ((S8.out.go b6).drop 0 |>.drop 0); have B9 := Lib.hid (S9.out.bk 0 rfl); have hcl := B9.out.tim.2.2.1 k (by omega); have hfz := B9.out.frozen (37 + k); have hgl := B9.out.lt; generalize durK p k k = z at hcl))
        have S10 := Lib.hid (S9.out.boxWr 0 rfl (B9.out.timD (i := k) (by omega) (shortA p k)) (Wr.setCell w6 ⟨g, 37 + k, none⟩ (by simp) _))
        rw [HD.out] at S10
        simp only [List.eraseIdx_cons_zero, List.set_cons_zero] at S10
        clear CE INIT KB KS S7 S8 S9 B9 hcl hfz hgl HD DE RA b5 b6
        rename_i hHeld0
        clear hHeld0
        generalize World.setCell w6 _ _ = w7 at S10 ⊢
        rw [← iniJ_zero] at S10
        have x0 := (S10.out.bk 0 rfl).tim.1
        go_wp2
        clear x0
        go_loopw [42] (fun i ws => ∃ j : Nat, j ≤ p.acts.length ∧ i = .int .i64 j ∧ Sn w ws [boxI g 59 (timC p.acts.length (iniJ p.acts.length k j) (durK p (k + 1))), boxI (w.heap.size + 1) 59 (timC 0 zT zD), boxI w.heap.size 35 [.int .i64 p.dl, .slice (some ⟨b1, o1, none⟩) p.acts.length c1, .slice A2 p.lks.length c2, .slice A3 p.ress.length c3, .slice A4 p.stk.length c4]]) (fun i _ => p.acts.length - (intOf i).toNat)
        case atStart => exact ⟨0, Nat.zero_le _, rfl, S10.out⟩
        case round =>
          obtain ⟨j, hjl, rfl, hS⟩ := hrel
          have S11 := Lib.hid hS
          have B11 := Lib.hid (S11.out.bk 0 rfl)
          clear hS S10
          by_cases hlt2 : j < p.acts.length
          · have hlt2' : (j : Int) < (p.acts.length : Int) := by omega
            have hj6 : (j : Int) < 6 := by omega
            have x1 := B11.out.tim.2.1 k j (by omega) (by omega)
            have hfz := B11.out.frozen (1 + k * 6 + j)
            have S12 := Lib.hid (S11.out.boxWr 0 rfl (B11.out.timUp (a := k) (b := j) (by omega) (by omega) (-1000)) (Wr.setCell wr ⟨g, 1 + k * 6 + j, none⟩ (by simp) _))
            rw [iniJ_next] at S12
            simp only [List.set_cons_zero] at S12
            clear B11 S11
            generalize iniJ p.acts.length k j k j = z at x1
            go_wp2
            go_roundw
            case rel => exact ⟨j + 1, by omega, by go_num, S12.out⟩
            case measure => simp [intOf]; omega
          · have hge : ¬ (j : Int) < (p.acts.length : Int) := by omega
            obtain rfl : j = p.acts.length := by omega
            have x1 := B11.out.tim.2.1 k k (by omega) (by omega)
            have hfz := B11.out.frozen (1 + k * 6 + k)
            have S12 := Lib.hid (S11.out.boxWr 0 rfl (B11.out.timUp (a := k) (b := k) (by omega) (by omega) 0) (Wr.setCell wr ⟨g, 1 + k * 6 + k, none⟩ (by simp) _))
            rw [iniT_next hlt] at S12
            simp only [List.set_cons_zero] at S12
            clear B11 S11
            generalize iniJ p.acts.length k p.acts.length k k = z at x1
            go_wp2
            go_roundw
            case rel => exact ⟨k + 1, by omega, by go_num, S12.out⟩
            case measure => simp [intOf]; omega
      · have hge : ¬ (k : Int) < (p.acts.length : Int) := by omega
        obtain rfl : k = p.acts.length := by omega
        rw [iniT_full, durK_full] at S5
        obtain ⟨e0, e1, e2, e3, e4, ef⟩ := (S5.out.bk 2 rfl).c5
        go_wp2_with fail
        clear e0 e1 e2 e3 e4 ef
        refine (implGaps_any p _ _ (by exact S5.out.old HV.out) HOK.out).mono ?_
        rintro e w4 ⟨u4, F4, rfl, o4, hn4, b4⟩
        obtain ⟨U4, cu4, rfl⟩ := slice_ints (Tr.own_rd _ _ _ o4)
        have S6 := Lib.hid (S5.out.new o4 hn4 b4)
        have GL := Lib.hid (gapsL_len p)
        rw [GL.out] at S6 ⊢
        clear o4 hn4 b4 S5 G1
        go_wp2
        go_loopw [60] (fun i wr => ∃ k : Nat, k ≤ p.lks.length ∧ i = .int .i64 k ∧ Sn w wr [⟨trI (gapsL p), .slice U4 p.lks.length cu4, F4⟩, boxI g 59 (timC p.acts.length (linkT p k) (shortA p)), boxI (w.heap.size + 1) 59 (timC 0 zT zD), boxI w.heap.size 35 [.int .i64 p.dl, .slice A1 p.acts.length c1, .slice A2 p.lks.length c2, .slice A3 p.ress.length c3, .slice A4 p.stk.length c4]]) (fun i _ => p.lks.length - (intOf i).toNat)
        case atStart => exact ⟨0, Nat.zero_le _, rfl, S6.out⟩
        case round =>
          obtain ⟨k, hkl2, rfl, hS⟩ := hrel
          have S7 := Lib.hid hS
          clear hS S6
          by_cases hlt2 : k < p.lks.length
          · have hlt2' : (k : Int) < (p.lks.length : Int) := by omega
            have hk0 : (0 : Int) ≤ (k : Int) := by omega
            obtain ⟨gg, rfl, _⟩ := S7.out.formI (by omega)
            have hcg := (show Sn w wr (⟨trI (gapsL p), .slice (some ⟨gg, 0, none⟩) (gapsL p).length cu4, F4⟩ :: _) from by rw [GL.out]; exact S7.out).cellI (i := k) (by rw [GL.out]; exact hlt2) |>.1
            rw [gapsL_at hlt2] at hcg
            obtain ⟨b, o, rfl, hb, hc⟩ := G2.out k hlt2
            obtain ⟨y0, y1, _, _⟩ := hc k hlt2
            have hz0 := (S7.out.1.cell (p := ⟨b, o + k * 4, none⟩) hb).trans y0
            have hz1 := (S7.out.1.cell (p := ⟨b, o + k * 4 + 1, none⟩) hb).trans y1
            have LOK := (pok_lks HOK.out).2 _ (List.getElem_mem hlt2)
            obtain ⟨x, hx⟩ : ∃ x : Nat, p.lks[k].fr = (x : Int) := ⟨p.lks[k].fr.toNat, by omega⟩
            obtain ⟨y, hy⟩ : ∃ y : Nat, p.lks[k].to = (y : Int) := ⟨p.lks[k].to.toNat, by omega⟩
            have hx6 : x < 6 := by omega
            have hy6 : y < 6 := by omega
            have NX := Lib.hid (linkT_next hlt2 hx hy)
            rw [hx] at hz0
            rw [hy] at hz1
            clear LOK hx hy hc y0 y1
            generalize gapA p p.lks[k] = ga at hcg NX
            obtain ⟨e0, e1, e2, e3, e4, ef⟩ := (S7.out.bk 3 rfl).c5
            have hgl := (S7.out.bk 1 rfl).lt
            have hpl := (S7.out.bk 3 rfl).lt
            have hpn : w.heap.size ∉ [g] := fun e => S7.out.2.apart (i := 1) (j := 3) rfl rfl (by omega) g (by simp [boxI]) (by simpa [boxI] using (List.mem_singleton.1 e).symm)
            have hgw := (Tr.own_lt _ _ _ (S7.out.own 1 rfl).1 g (by simp)).1
            have hbn : b ∉ [g] := by simp; omega
            have hbl : b < wr.heap.size := Nat.lt_of_lt_of_le hb S7.out.1.size
            have S8 := Lib.hid S7.out.drew1
            go_wp2_with fail
            clear hcg
            have CE := Lib.hid (fun (W : World) (h : Wr [g] wr.drew W) => show Hid (Wr [g] wr.drew W) ∧ W.cell? ⟨w.heap.size, 2, none⟩ = some (.slice (some ⟨b, o, none⟩) p.lks.length c2) ∧ W.cell? ⟨b, o + k * 4, none⟩ = some (.int .i64 (x : Int)) ∧ W.cell? ⟨b, o + k * 4 + 1, none⟩ = some (.int .i64 (y : Int)) from ⟨Lib.hid h, (wr_cell h (p := ⟨w.heap.size, 2, none⟩) hpl hpn).trans (by simpa using e2), (wr_cell h (p := ⟨b, o + k * 4, none⟩) hbl hbn).trans (by simpa using hz0), (wr_cell h (p := ⟨b, o + k * 4 + 1, none⟩) hbl hbn).trans (by simpa using hz1)⟩)
            have INIT := Lib.hid (CE.out _ (Wr.refl _ _))
            have KW := Lib.hid (fun (W2 W : World) (hb : Wr [g] W W2) (h : Hid (Wr [g] wr.drew W) ∧ W.cell? ⟨w.heap.size, 2, none⟩ = some (.slice (some ⟨b, o, none⟩) p.lks.length c2) ∧ W.cell? ⟨b, o + k * 4, none⟩ = some (.int .i64 (x : Int)) ∧ W.cell? ⟨b, o + k * 4 + 1, none⟩ = some (.int .i64 (y : Int))) => CE.out W2 (h.1.out.trans hb))
            clear e0 e1 e2 e3 e4 ef hz0 hz1 hpn hbn hpl hbl
            go_region_held3 (fun W => Hid (Wr [g] wr.drew W) ∧ W.cell? ⟨w.heap.size, 2, none⟩ = some (.slice (some ⟨b, o, none⟩) p.lks.length c2) ∧ W.cell? ⟨b, o + k * 4, none⟩ = some (.int .i64 (x : Int)) ∧ W.cell? ⟨b, o + k * 4 + 1, none⟩ = some (.int .i64 (y : Int))) (first | exact INIT.out | exact KW.out _ _ (by assumption) (by assumption))
              (first | (go_at_call 80; refine (raise_any p.acts.length (linkT p k) (shortA p) g x y ga _ (by exact S8.out.bk 1 rfl) hx6 hy6).mono ?_; rintro e w5 ⟨rfl, b5, r5⟩))
            have S9 := Lib.hid (S8.out.boxWr 1 rfl b5 r5)
            rw [← NX.out] at S9
            simp only [List.set_cons_succ, List.set_cons_zero] at S9
            clear CE INIT KW b5 r5 S8 S7 NX
            go_wp2
            go_roundw
            case rel => exact ⟨k + 1, by omega, by go_num, S9.out⟩
            case measure => simp [intOf]; omega
          · have hge2 : ¬ (k : Int) < (p.lks.length : Int) := by omega
            obtain rfl : k = p.lks.length := by omega
            have x0 := (S7.out.bk 1 rfl).tim.1
            go_wp2
            clear x0
            go_loopw [82] (fun i wr => ∃ k : Nat, k ≤ p.acts.length ∧ i = .int .i64 k ∧ Sn w wr [⟨trI (gapsL p), .slice U4 p.lks.length cu4, F4⟩, boxI g 59 (timC p.acts.length (outT (linkT p p.lks.length) p.acts.length k) (shortA p)), boxI (w.heap.size + 1) 59 (timC 0 zT zD), boxI w.heap.size 35 [.int .i64 p.dl, .slice A1 p.acts.length c1, .slice A2 p.lks.length c2, .slice A3 p.ress.length c3, .slice A4 p.stk.length c4]]) (fun i _ => p.acts.length - (intOf i).toNat)
            case atStart => exact ⟨0, Nat.zero_le _, rfl, S7.out⟩
            case round =>
              obtain ⟨k, hkl3, rfl, hS⟩ := hrel
              have S8 := Lib.hid hS
              clear hS S7
              by_cases hlt3 : k < p.acts.length
              · have hlt3' : (k : Int) < (p.acts.length : Int) := by omega
                go_wp2_with fail
                refine (extend_any p.acts.length (outT (linkT p p.lks.length) p.acts.length k) (shortA p) g k _ (by exact S8.out.bk 1 rfl) h6 hlt3).mono ?_
                rintro e w5 ⟨rfl, b5, r5⟩
                have S9 := Lib.hid (S8.out.boxWr 1 rfl b5 r5)
                simp only [List.set_cons_succ, List.set_cons_zero] at S9
                clear b5 r5 S8
                go_wp2
                go_roundw
                case rel => exact ⟨k + 1, by omega, by go_num, S9.out⟩
                case measure => simp [intOf]; omega
              · have hge3 : ¬ (k : Int) < (p.acts.length : Int) := by omega
                obtain rfl : k = p.acts.length := by omega
                have S9 := Lib.hid (show Sn w wr [⟨trI (gapsL p), .slice U4 p.lks.length cu4, F4⟩, boxI g 59 (timC p.acts.length (distT p) (shortA p)), boxI (w.heap.size + 1) 59 (timC 0 zT zD), boxI w.heap.size 35 [.int .i64 p.dl, .slice A1 p.acts.length c1, .slice A2 p.lks.length c2, .slice A3 p.ress.length c3, .slice A4 p.stk.length c4]] from S8.out)
                have BG := Lib.hid (S9.out.bk 1 rfl)
                have BZ := Lib.hid (S9.out.bk 2 rfl)
                clear S8
                go_wp2_with (first | (refine wpList_load_mid rfl 59 _ rfl (g) 0 rfl (timC p.acts.length (distT p) (shortA p)) _ (bk_range BG.out) Tryz.underlying59 rfl (timC_info p.acts.length (distT p) (shortA p)) ?_) | (refine wpList_store_mid rfl 59 _ _ rfl (w.heap.size + 1) 0 ⟨timC p.acts.length (distT p) (shortA p)⟩ rfl rfl (bk_there BZ.out (by simp [timC_len])) (timC_info p.acts.length (distT p) (shortA p)) (oneAll p.acts.length (distT p) (shortA p)) ?_) | fail)
                (try simp only [Exit.inBlock, Exit.then])
                obtain ⟨hW1, hW2⟩ := bk_whole (vs := timC p.acts.length (distT p) (shortA p)) BZ.out (by simp only [timC_len])
                have S10 := Lib.hid (S9.out.boxWr 2 rfl hW1 hW2)
                refine bodyPost_ret (v := .tuple #[.agg ⟨timC p.acts.length (distT p) (shortA p)⟩, .bool true]) (results_tim (p := 2) (u := 3) rfl _ _ (w.heap.size + 1) p.acts.length (distT p) (shortA p) rfl hW1) rfl ?_
                exact ⟨_, _, _, by rw [OKD.out], fun _ => ⟨rfl, rfl, rfl⟩, S10.out.1⟩
  · have OKD := Lib.hid (okD_ring hpo)
    have hpl : (posB p).length ≠ 0 := fun e => hpo (List.length_eq_zero_iff.1 e)
    have hpl' : (0 : Int) < ((posB p).length : Int) := by omega
    generalize (posB p).length = np at hpl' ⊢
    have B2 := Lib.hid (S3.out.bk 0 rfl)
    clear hpo hpl
    go_wp2_with (first | (refine wpList_store_mid rfl 59 _ _ rfl (w.heap.size + 1) 0 ⟨timC 0 zT zD⟩ rfl rfl (bk_there B2.out (by simp [timC_len])) (timC_info 0 zT zD) (oneAll 0 zT zD) ?_) | fail)
    (try simp only [Exit.inBlock, Exit.then])
    obtain ⟨hW1, hW2⟩ := bk_whole (vs := timC 0 zT zD) B2.out rfl
    have S4 := Lib.hid (S3.out.boxWr 0 rfl hW1 hW2)
    refine bodyPost_ret (v := .tuple #[.agg ⟨timC 0 zT zD⟩, .bool false]) (results_tim (p := 2) (u := 3) rfl _ _ (w.heap.size + 1) 0 zT zD rfl hW1) rfl ?_
    exact ⟨0, zT, zD, by rw [OKD.out], fun h => absurd (OKD.out.symm.trans h) (by simp), S4.out.1⟩
end Go.Proofs.YtoggakfkpeloiaaGreat
