/- DERIVED. CONTRACTS of chapter 14: ClauseOk of both programs. -/
import Derived.Test.YtgbpomakomddjabGreatDoorClE
import Derived.Test.YtgbpomakomddjabGreatDoorClI
import Derived.Test.YtgbpomakomddjabGreatDoorLtO
import Derived.Test.YtgbpomakomddjabGreatDoorLtC
import Derived.Test.YtgbpomakomddjabGreatDoorHofL
import Derived.Test.YtgbpomakomddjabGreatDoorRegZ
namespace Go.Proofs.YtgbpomakomddjabGreatDoor
open Go.RowKit Go.Shelf
set_option linter.unusedVariables false

theorem eq_new (l : List Lt) : eqCl l (newL l) = ascLB l := by
  rw [Bool.eq_iff_iff, ascLB_asc, eqCl, decide_eq_true_eq]
  constructor
  · intro h; rw [h]; exact asc_newL l
  · intro h; exact (newL_id h).symm
theorem clOk_impl (p : Pj) (l : List Lt) : clOkB p l = ((decide ((l.length : Int) ≤ 24) && l.all (litOkB p)) && eqCl l (newL l)) := by
  rw [eq_new, clOkB, Bool.and_assoc]
  congr 1
  simp only [decide_eq_decide]
  omega
theorem clOk_end {p : Pj} {l : List Lt} (h1 : ∀ j, (hj : j < l.length) → litOkB p l[j] = true) (h2 : ∀ j, (hj : j < l.length) → 0 < j → LtL l[j - 1] l[j]) : clOkB p l = decide ((l.length : Int) ≤ 24) := by
  by_cases h : l.length ≤ 24
  · rw [clOk_yes h h1 (ascLB_iff.2 h2)]
    exact (decide_eq_true (by omega)).symm
  · rw [clOk_len h]
    exact (decide_eq_false (by omega)).symm
theorem st2_zero {l : List Lt} {k : Nat} (hk : k = 0) : ∀ j, (hj : j < l.length) → j < k + 1 → 0 < j → LtL l[j - 1] l[j] := fun j _ h1 h2 => by omega
theorem enters_cloLit : ∀ args w, (callFunc 55 args).run Tryz.prog w = .ok (.enter 55 args) w := enters_of Tryz.func55 (by kernel_rfl) rfl
set_option maxRecDepth 100000 in
set_option maxHeartbeats 8000000 in
theorem cloLit_any (x : Lt) (p : Pj) (A1 A2 A3 A4 : Option Addr) (c1 c2 c3 c4 g : Nat) (T : TypeId) (v : Value) (w : World) (hx : (trLt x).rd w v) (hv : (trPj p).rd w (.agg #[.int .i64 p.dl, .slice A1 p.acts.length c1, .slice A2 p.lks.length c2, .slice A3 p.ress.length c3, .slice A4 p.stk.length c4])) (hk : (trPj p).ok) (hg : Bk w g T #[.int .i64 p.dl, .slice A1 p.acts.length c1, .slice A2 p.lks.length c2, .slice A3 p.ress.length c3, .slice A4 p.stk.length c4]) :
    Calls Tryz.prog 55 #[v, .pointer (some ⟨g, 0, none⟩)] w fun e w' => e = .returned (.bool (litOkB p x)) ∧ Below w.heap.size w w' := by
  obtain rfl := rdLiteral_t hx
  have HV := Lib.hid hv
  have HK := Lib.hid hk
  obtain ⟨e0, e1, e2, e3, e4, ef⟩ := hg.c5
  have hlt := hg.lt
  clear hv hx hg hk
  have S0 := Lib.hid ((Sn.start w).box 55 [.int .i64 x.ki, .int .i64 x.ac, .int .i64 x.va])
  go_enter Tryz.func55, Tryz.ntmps55
  go_wp2_with fail
  refine (implLiteralOk_any p x _ _ (by exact S0.out.old HV.out) HK.out).mono ?_
  rintro e w1 ⟨rfl, b⟩
  have S1 := Lib.hid (S0.out.go b)
  clear S0 b e0 e1 e2 e3 e4 ef
  go_wp2
  go_ret
  exact ⟨rfl, S1.out.1⟩
set_option maxRecDepth 100000 in
set_option maxHeartbeats 8000000 in
theorem implClauseOk_any (p : Pj) (l : List Lt) (v u : Value) (w : World) (hv : (trPj p).rd w v) (hk : (trPj p).ok) {B0 : Nat} {G0 : List Nat} (ho : (trLts l).own w B0 u G0) (hkl : (trLts l).ok) (hlen : l.length ≤ 1048576) :
    Calls Tryz.prog 30 #[v, u] w fun e w' => e = .returned (.bool (clOkB p l)) ∧ Below w.heap.size w w' := by
  have HV := Lib.hid hv
  have HK := Lib.hid hk
  have HO := Lib.hid ho
  have HL := Lib.hid (Tr.own_rd _ _ _ ho)
  have HKL := Lib.hid hkl
  have RES := Lib.hid (clOk_impl p l)
  generalize clOkB p l = res at RES ⊢
  obtain ⟨A1, c1, A2, c2, A3, c3, A4, c4, rfl, _⟩ := rdProject_t hv
  obtain ⟨A, c, rfl⟩ := rdT_slice HL.out
  clear hv hk ho hkl
  have S0 := Lib.hid ((Sn.start w).box 36 [.int .i64 p.dl, .slice A1 p.acts.length c1, .slice A2 p.lks.length c2, .slice A3 p.ress.length c3, .slice A4 p.stk.length c4])
  go_enter Tryz.func30, Tryz.ntmps30
  go_wp2_with fail
  refine (areUpToLiteral_any 24 55 _ (litOkB p) l _ _ (by exact S0.out.old HL.out) HKL.out enters_cloLit (fun x v2 w2 hb hk hr => by
    exact cloLit_any x p _ _ _ _ _ _ _ _ _ _ v2 w2 hr (Tr.rd_below hb (Nat.le_refl _) _ _ (S0.out.old HV.out)) HK.out ((S0.out.bk 0 rfl).below hb (Nat.le_refl _)))).mono ?_
  rintro e w1 ⟨rfl, b⟩
  have S1 := Lib.hid (S0.out.go b)
  clear S0 b
  rcases hc : (decide ((l.length : Int) ≤ 24) && l.all (litOkB p)) with _ | _
  · have HC := Lib.hid (show res = false by rw [RES.out, hc]; rfl)
    clear hc
    go_wp2
    go_ret
    exact ⟨ret_boo HC.out.symm, S1.out.1⟩
  · have HC := Lib.hid (show res = eqCl l (newL l) by rw [RES.out, hc]; rfl)
    clear hc
    go_wp2_with fail
    refine (implNewClause_any l _ _ (by exact Tr.own_below HO.out S1.out.1 (Nat.le_refl _)) hlen).mono ?_
    rintro e w2 ⟨v2, F2, rfl, o2, h2, b⟩
    have S2 := Lib.hid (S1.out.new o2 h2 b)
    clear S1 o2 h2 b
    go_wp2_with fail
    refine (implClauseEqual_any l (newL l) _ _ _ (by exact S2.out.old HL.out) (by exact S2.out.rd 0 rfl)).mono ?_
    rintro e w3 ⟨rfl, b⟩
    have S3 := Lib.hid (S2.out.go b)
    clear S2 b
    go_wp2
    go_ret
    exact ⟨ret_boo HC.out.symm, S3.out.1⟩
set_option maxRecDepth 100000 in
set_option maxHeartbeats 8000000 in
theorem specClauseOk_any (p : Pj) (l : List Lt) (v u : Value) (w : World) (hv : (trPj p).rd w v) (hk : (trPj p).ok) (hl : (trLts l).rd w u) :
    Calls Tryz.prog 22 #[v, u] w fun e w' => e = .returned (.bool (clOkB p l)) ∧ Below w.heap.size w w' := by
  have HV := Lib.hid hv
  have HK := Lib.hid hk
  obtain ⟨A1, c1, A2, c2, A3, c3, A4, c4, rfl, _⟩ := rdProject_t hv
  obtain ⟨hll, A, c, rfl, ga⟩ := rdLiteralS_t hl
  have GA := Lib.hid ga
  have RAT := Lib.hid (fun j hj h => @clOk_at p l j hj h)
  have RASC := Lib.hid (@clOk_asc p l)
  have REND := Lib.hid (@clOk_end p l)
  generalize clOkB p l = res at RAT RASC REND ⊢
  clear hv hk hl ga
  have S0 := Lib.hid ((Sn.start w).box 36 [.int .i64 p.dl, .slice A1 p.acts.length c1, .slice A2 p.lks.length c2, .slice A3 p.ress.length c3, .slice A4 p.stk.length c4])
  go_enter Tryz.func22, Tryz.ntmps22
  go_wp2
  go_loopw [9] (fun i wr => ∃ k : Nat, k ≤ l.length ∧ i = .int .i64 k ∧ Sn w wr [boxI w.heap.size 36 [.int .i64 p.dl, .slice A1 p.acts.length c1, .slice A2 p.lks.length c2, .slice A3 p.ress.length c3, .slice A4 p.stk.length c4]] ∧ (∀ j, (hj : j < l.length) → j < k → litOkB p l[j] = true) ∧ (∀ j, (hj : j < l.length) → j < k → 0 < j → LtL l[j - 1] l[j])) (fun i _ => l.length - (intOf i).toNat)
  case atStart => exact ⟨0, Nat.zero_le _, rfl, S0.out, fun j _ h => absurd h (by omega), fun j _ h => absurd h (by omega)⟩
  case round =>
    obtain ⟨k, hkl, rfl, hS, hall1, hall2⟩ := hrel
    have S3 := Lib.hid hS
    have H1 := Lib.hid hall1
    have H2 := Lib.hid hall2
    clear hS S0 hall1 hall2
    by_cases hlt : k < l.length
    · have hlt' : (k : Int) < (l.length : Int) := by omega
      obtain ⟨b, o, rfl, hb, hc⟩ := GA.out k hlt
      have YY := Lib.hid hc
      obtain ⟨y0, y1, y2⟩ := hc k hlt
      have hx0 := (S3.out.1.cell (p := ⟨b, o + k * 3, none⟩) hb).trans y0
      have hx1 := (S3.out.1.cell (p := ⟨b, o + k * 3 + 1, none⟩) hb).trans y1
      have hx2 := (S3.out.1.cell (p := ⟨b, o + k * 3 + 2, none⟩) hb).trans y2
      clear hc y0 y1 y2
      have LOK := Lib.hid (fun (h : litOkB p l[k] = true) => step_all (p := fun x : Lt => litOkB p x = true) hlt H1.out h)
      have LNO := Lib.hid (fun (h : litOkB p l[k] = false) => RAT.out k hlt h)
      have ASC := Lib.hid (fun (m : Nat) (hml : m < l.length) (hm : k = m + 1) (h : LtL (l[m]'hml) l[k]) => show ∀ j, (hj : j < l.length) → j < k + 1 → 0 < j → LtL l[j - 1] l[j] from fun j hj hjk h0 => by
        by_cases e : j = k
        · subst e
          have e2 : j - 1 = m := by omega
          simp only [e2]
          exact h
        · exact H2.out j hj (by omega) h0)
      have ASN := Lib.hid (fun (m : Nat) (hml : m < l.length) (hm : k = m + 1) (h : ¬ LtL (l[m]'hml) l[k]) => RASC.out (ascLB_bad hlt (by omega) (show m = k - 1 by omega) h))
      generalize hmm : l[k] = m at hx0 hx1 hx2 LOK LNO ASC ASN
      have HMM := Lib.hid hmm
      clear hmm
      have S4 := Lib.hid (S3.out.box 55 [.int .i64 m.ki, .int .i64 m.ac, .int .i64 m.va])
      clear S3
      go_wp2_with fail
      obtain ⟨e0, e1, e2, e3, e4, ef⟩ := (S4.out.bk 1 rfl).c5
      obtain ⟨p0, p1, p2, pf⟩ := (S4.out.bk 0 rfl).c3
      have hle := (S4.out.bk 1 rfl).lt
      have hlp := (S4.out.bk 0 rfl).lt
      have hlb : b < (World.alloc wr (.cells ⟨[.int .i64 m.ki, .int .i64 m.ac, .int .i64 m.va]⟩ 55)).heap.size := Nat.lt_of_lt_of_le hb S4.out.1.size
      have HLB := Lib.hid hlb
      clear hlb
      generalize hgx : wr.heap.size = gx at S4 p0 p1 p2 pf hlp ⊢
      generalize World.alloc wr _ = wx at S4 e0 e1 e2 e3 e4 ef p0 p1 p2 pf hlp hle HLB ⊢
      clear hgx hx0 hx1 hx2
      have S5 := Lib.hid S4.out.drew1
      rcases hok : litOkB p m with _ | _
      · have RES := Lib.hid (LNO.out hok)
        have LL := Lib.hid (show Calls Tryz.prog 48 #[.agg #[.int .i64 p.dl, .slice A1 p.acts.length c1, .slice A2 p.lks.length c2, .slice A3 p.ress.length c3, .slice A4 p.stk.length c4], ltV m] _ _ from (specLiteralOk_any p m _ _ (by exact S5.out.old HV.out) HK.out))
        rw [hok] at LL
        clear hok
        have CE := Lib.hid (fun (W : World) (h : Wr [] wx.drew W) => show Hid (Wr [] wx.drew W) ∧ W.cell? ⟨w.heap.size, 0, none⟩ = some (.int .i64 p.dl) ∧ W.cell? ⟨w.heap.size, 1, none⟩ = some (.slice A1 p.acts.length c1) ∧ W.cell? ⟨w.heap.size, 2, none⟩ = some (.slice A2 p.lks.length c2) ∧ W.cell? ⟨w.heap.size, 3, none⟩ = some (.slice A3 p.ress.length c3) ∧ W.cell? ⟨w.heap.size, 4, none⟩ = some (.slice A4 p.stk.length c4) ∧ W.cell? ⟨gx, 0, none⟩ = some (.int .i64 m.ki) ∧ W.cell? ⟨gx, 1, none⟩ = some (.int .i64 m.ac) ∧ W.cell? ⟨gx, 2, none⟩ = some (.int .i64 m.va) from ⟨Lib.hid h, (wr_cell h (p := ⟨w.heap.size, 0, none⟩) hle (by simp)).trans (by exact by simpa using e0), (wr_cell h (p := ⟨w.heap.size, 1, none⟩) hle (by simp)).trans (by exact by simpa using e1), (wr_cell h (p := ⟨w.heap.size, 2, none⟩) hle (by simp)).trans (by exact by simpa using e2), (wr_cell h (p := ⟨w.heap.size, 3, none⟩) hle (by simp)).trans (by exact by simpa using e3), (wr_cell h (p := ⟨w.heap.size, 4, none⟩) hle (by simp)).trans (by exact by simpa using e4), (wr_cell h (p := ⟨gx, 0, none⟩) hlp (by simp)).trans (by exact by simpa using p0), (wr_cell h (p := ⟨gx, 1, none⟩) hlp (by simp)).trans (by exact by simpa using p1), (wr_cell h (p := ⟨gx, 2, none⟩) hlp (by simp)).trans (by exact by simpa using p2)⟩)
        have INIT := Lib.hid (CE.out _ (Wr.refl _ _))
        have KW := Lib.hid (fun (W2 W : World) (hb : Wr [] W W2) (h : Hid (Wr [] wx.drew W) ∧ W.cell? ⟨w.heap.size, 0, none⟩ = some (.int .i64 p.dl) ∧ W.cell? ⟨w.heap.size, 1, none⟩ = some (.slice A1 p.acts.length c1) ∧ W.cell? ⟨w.heap.size, 2, none⟩ = some (.slice A2 p.lks.length c2) ∧ W.cell? ⟨w.heap.size, 3, none⟩ = some (.slice A3 p.ress.length c3) ∧ W.cell? ⟨w.heap.size, 4, none⟩ = some (.slice A4 p.stk.length c4) ∧ W.cell? ⟨gx, 0, none⟩ = some (.int .i64 m.ki) ∧ W.cell? ⟨gx, 1, none⟩ = some (.int .i64 m.ac) ∧ W.cell? ⟨gx, 2, none⟩ = some (.int .i64 m.va)) => CE.out W2 (h.1.out.trans hb))
        clear e0 e1 e2 e3 e4 ef p0 p1 p2 pf hle hlp S4
        refine wp_region_held_drew (S := fun W => Hid (Wr [] wx.drew W) ∧ W.cell? ⟨w.heap.size, 0, none⟩ = some (.int .i64 p.dl) ∧ W.cell? ⟨w.heap.size, 1, none⟩ = some (.slice A1 p.acts.length c1) ∧ W.cell? ⟨w.heap.size, 2, none⟩ = some (.slice A2 p.lks.length c2) ∧ W.cell? ⟨w.heap.size, 3, none⟩ = some (.slice A3 p.ress.length c3) ∧ W.cell? ⟨w.heap.size, 4, none⟩ = some (.slice A4 p.stk.length c4) ∧ W.cell? ⟨gx, 0, none⟩ = some (.int .i64 m.ki) ∧ W.cell? ⟨gx, 1, none⟩ = some (.int .i64 m.ac) ∧ W.cell? ⟨gx, 2, none⟩ = some (.int .i64 m.va)) (by kernel_rfl) INIT.out (fun hHeld => ?_)
        refine wpAnyH_take (i := 0) (v := ?_) rfl (by kernel_rfl) (by kernel_rfl) (by kernel_rfl) (fun _ _ _ h => h) (Or.inl ⟨by rfl, ?_⟩) (by assumption) ?_
        rotate_left
        · (intro W hSw; (try dsimp only at hSw); go_simp <;> with_reducible rfl)
        (try simp only [Act.put, List.getElem_toArray, List.getElem_cons_zero, List.setIfInBounds_toArray, List.set_cons_succ, List.set_cons_zero])
        refine wpAnyH_take (i := 1) (v := ?_) rfl (by kernel_rfl) (by kernel_rfl) (by kernel_rfl) (fun _ _ _ h => h) (Or.inl ⟨by rfl, ?_⟩) (by assumption) ?_
        rotate_left
        · (intro W hSw; (try dsimp only at hSw); go_simp <;> with_reducible rfl)
        (try simp only [Act.put, List.getElem_toArray, List.getElem_cons_succ, List.getElem_cons_zero, List.setIfInBounds_toArray, List.set_cons_succ, List.set_cons_zero])
        refine wpAnyH_ready (rs := [2]) (by kernel_rfl) (by simp) ?_
        refine AllReadyH.cons rfl (fun K hK => ?_) AllReadyH.nil
        go_simp
        go_at_call 48
        refine (LL.out).mono ?_
        rintro e w6 ⟨rfl, bb⟩
        have S6 := Lib.hid (S5.out.go bb)
        (first | done | go_wp2_with fail)
        refine hK.out _ _ (KW.out _ _ (Wr.of_below bb (Nat.le_refl _)) (by assumption)) (fun hHeld2 => ?_)
        clear hK K bb S5
        refine wpAnyH_take (i := 3) (v := ?_) rfl (by kernel_rfl) (by kernel_rfl) (by kernel_rfl) (fun _ _ _ h => h) (Or.inl ⟨by rfl, ?_⟩) (by assumption) ?_
        rotate_left
        · (intro W hSw; (try dsimp only at hSw); go_simp <;> with_reducible rfl)
        (try simp only [Act.put, List.getElem_toArray, List.getElem_cons_succ, List.getElem_cons_zero, List.setIfInBounds_toArray, List.set_cons_succ, List.set_cons_zero])
        refine wpAnyH_take (i := 4) (v := ?_) rfl (by kernel_rfl) (by kernel_rfl) (by kernel_rfl) (fun _ _ _ h => h) (Or.inl ⟨by rfl, ?_⟩) (by assumption) ?_
        rotate_left
        · (intro W hSw; (try dsimp only at hSw); go_simp <;> with_reducible rfl)
        (try simp only [Act.put, List.getElem_toArray, List.getElem_cons_succ, List.getElem_cons_zero, List.setIfInBounds_toArray, List.set_cons_succ, List.set_cons_zero])
        refine wpAnyH_take (i := 5) (v := undef) rfl (by kernel_rfl) (by kernel_rfl) (by kernel_rfl) (fun _ _ _ h => h) (Or.inr ⟨by rfl, rfl⟩) (by assumption) ?_
        (try simp only [Act.put, List.getElem_toArray, List.getElem_cons_succ, List.getElem_cons_zero, List.setIfInBounds_toArray, List.set_cons_succ, List.set_cons_zero])
        refine wpAnyH_take (i := 6) (v := undef) rfl (by kernel_rfl) (by kernel_rfl) (by kernel_rfl) (fun _ _ _ h => h) (Or.inr ⟨by rfl, rfl⟩) (by assumption) ?_
        (try simp only [Act.put, List.getElem_toArray, List.getElem_cons_succ, List.getElem_cons_zero, List.setIfInBounds_toArray, List.set_cons_succ, List.set_cons_zero])
        refine wpAnyH_take (i := 7) (v := undef) rfl (by kernel_rfl) (by kernel_rfl) (by kernel_rfl) (fun _ _ _ h => h) (Or.inr ⟨by rfl, rfl⟩) (by assumption) ?_
        (try simp only [Act.put, List.getElem_toArray, List.getElem_cons_succ, List.getElem_cons_zero, List.setIfInBounds_toArray, List.set_cons_succ, List.set_cons_zero])
        refine wpAnyH_take (i := 8) (v := undef) rfl (by kernel_rfl) (by kernel_rfl) (by kernel_rfl) (fun _ _ _ h => h) (Or.inr ⟨by rfl, rfl⟩) (by assumption) ?_
        (try simp only [Act.put, List.getElem_toArray, List.getElem_cons_succ, List.getElem_cons_zero, List.setIfInBounds_toArray, List.set_cons_succ, List.set_cons_zero])
        refine wpAnyH_take (i := 9) (v := undef) rfl (by kernel_rfl) (by kernel_rfl) (by kernel_rfl) (fun _ _ _ h => h) (Or.inr ⟨by rfl, rfl⟩) (by assumption) ?_
        (try simp only [Act.put, List.getElem_toArray, List.getElem_cons_succ, List.getElem_cons_zero, List.setIfInBounds_toArray, List.set_cons_succ, List.set_cons_zero])
        refine wpAnyH_take (i := 10) (v := undef) rfl (by kernel_rfl) (by kernel_rfl) (by kernel_rfl) (fun _ _ _ h => h) (Or.inr ⟨by rfl, rfl⟩) (by assumption) ?_
        (try simp only [Act.put, List.getElem_toArray, List.getElem_cons_succ, List.getElem_cons_zero, List.setIfInBounds_toArray, List.set_cons_succ, List.set_cons_zero])
        refine wpAnyH_take (i := 11) (v := undef) rfl (by kernel_rfl) (by kernel_rfl) (by kernel_rfl) (fun _ _ _ h => h) (Or.inr ⟨by rfl, rfl⟩) (by assumption) ?_
        (try simp only [Act.put, List.getElem_toArray, List.getElem_cons_succ, List.getElem_cons_zero, List.setIfInBounds_toArray, List.set_cons_succ, List.set_cons_zero])
        refine wpAnyH_take (i := 12) (v := undef) rfl (by kernel_rfl) (by kernel_rfl) (by kernel_rfl) (fun _ _ _ h => h) (Or.inr ⟨by rfl, rfl⟩) (by assumption) ?_
        (try simp only [Act.put, List.getElem_toArray, List.getElem_cons_succ, List.getElem_cons_zero, List.setIfInBounds_toArray, List.set_cons_succ, List.set_cons_zero])
        refine wpAnyH_take (i := 13) (v := undef) rfl (by kernel_rfl) (by kernel_rfl) (by kernel_rfl) (fun _ _ _ h => h) (Or.inr ⟨by rfl, rfl⟩) (by assumption) ?_
        (try simp only [Act.put, List.getElem_toArray, List.getElem_cons_succ, List.getElem_cons_zero, List.setIfInBounds_toArray, List.set_cons_succ, List.set_cons_zero])
        refine wpAnyH_take (i := 14) (v := undef) rfl (by kernel_rfl) (by kernel_rfl) (by kernel_rfl) (fun _ _ _ h => h) (Or.inr ⟨by rfl, rfl⟩) (by assumption) ?_
        (try simp only [Act.put, List.getElem_toArray, List.getElem_cons_succ, List.getElem_cons_zero, List.setIfInBounds_toArray, List.set_cons_succ, List.set_cons_zero])
        refine wpAnyH_take (i := 15) (v := undef) rfl (by kernel_rfl) (by kernel_rfl) (by kernel_rfl) (fun _ _ _ h => h) (Or.inr ⟨by rfl, rfl⟩) (by assumption) ?_
        (try simp only [Act.put, List.getElem_toArray, List.getElem_cons_succ, List.getElem_cons_zero, List.setIfInBounds_toArray, List.set_cons_succ, List.set_cons_zero])
        refine wpAnyH_take (i := 16) (v := undef) rfl (by kernel_rfl) (by kernel_rfl) (by kernel_rfl) (fun _ _ _ h => h) (Or.inr ⟨by rfl, rfl⟩) (by assumption) ?_
        (try simp only [Act.put, List.getElem_toArray, List.getElem_cons_succ, List.getElem_cons_zero, List.setIfInBounds_toArray, List.set_cons_succ, List.set_cons_zero])
        refine wpAnyH_take (i := 17) (v := ?_) rfl (by kernel_rfl) (by kernel_rfl) (by kernel_rfl) (fun _ _ _ h => h) (Or.inl ⟨by rfl, ?_⟩) (by assumption) ?_
        rotate_left
        · (intro W hSw; (try dsimp only at hSw); go_simp <;> with_reducible rfl)
        (try simp only [Act.put, List.getElem_toArray, List.getElem_cons_succ, List.getElem_cons_zero, List.setIfInBounds_toArray, List.set_cons_succ, List.set_cons_zero])
        refine wpAnyH_done (by kernel_rfl) ?_ _
        clear CE INIT KW
        go_wp2
        go_ret
        exact ⟨ret_boo RES.out.symm, S6.out.1⟩
      · have ST1 := Lib.hid (LOK.out hok)
        have LL := Lib.hid (show Calls Tryz.prog 48 #[.agg #[.int .i64 p.dl, .slice A1 p.acts.length c1, .slice A2 p.lks.length c2, .slice A3 p.ress.length c3, .slice A4 p.stk.length c4], ltV m] _ _ from (specLiteralOk_any p m _ _ (by exact S5.out.old HV.out) HK.out))
        rw [hok] at LL
        clear hok
        by_cases hk0 : k = 0
        · have ST2 := Lib.hid (st2_zero (l := l) hk0)
          have hki : ¬ (0 : Int) < (k : Int) := by omega
          have hkn : ¬ 0 < k := by omega
          have hkd : decide ((0 : Int) < (k : Int)) = false := decide_eq_false hki
          have HK0 := Lib.hid hk0
          clear hk0
          have CE := Lib.hid (fun (W : World) (h : Wr [] wx.drew W) => show Hid (Wr [] wx.drew W) ∧ W.cell? ⟨w.heap.size, 0, none⟩ = some (.int .i64 p.dl) ∧ W.cell? ⟨w.heap.size, 1, none⟩ = some (.slice A1 p.acts.length c1) ∧ W.cell? ⟨w.heap.size, 2, none⟩ = some (.slice A2 p.lks.length c2) ∧ W.cell? ⟨w.heap.size, 3, none⟩ = some (.slice A3 p.ress.length c3) ∧ W.cell? ⟨w.heap.size, 4, none⟩ = some (.slice A4 p.stk.length c4) ∧ W.cell? ⟨gx, 0, none⟩ = some (.int .i64 m.ki) ∧ W.cell? ⟨gx, 1, none⟩ = some (.int .i64 m.ac) ∧ W.cell? ⟨gx, 2, none⟩ = some (.int .i64 m.va) from ⟨Lib.hid h, (wr_cell h (p := ⟨w.heap.size, 0, none⟩) hle (by simp)).trans (by exact by simpa using e0), (wr_cell h (p := ⟨w.heap.size, 1, none⟩) hle (by simp)).trans (by exact by simpa using e1), (wr_cell h (p := ⟨w.heap.size, 2, none⟩) hle (by simp)).trans (by exact by simpa using e2), (wr_cell h (p := ⟨w.heap.size, 3, none⟩) hle (by simp)).trans (by exact by simpa using e3), (wr_cell h (p := ⟨w.heap.size, 4, none⟩) hle (by simp)).trans (by exact by simpa using e4), (wr_cell h (p := ⟨gx, 0, none⟩) hlp (by simp)).trans (by exact by simpa using p0), (wr_cell h (p := ⟨gx, 1, none⟩) hlp (by simp)).trans (by exact by simpa using p1), (wr_cell h (p := ⟨gx, 2, none⟩) hlp (by simp)).trans (by exact by simpa using p2)⟩)
          have INIT := Lib.hid (CE.out _ (Wr.refl _ _))
          have KW := Lib.hid (fun (W2 W : World) (hb : Wr [] W W2) (h : Hid (Wr [] wx.drew W) ∧ W.cell? ⟨w.heap.size, 0, none⟩ = some (.int .i64 p.dl) ∧ W.cell? ⟨w.heap.size, 1, none⟩ = some (.slice A1 p.acts.length c1) ∧ W.cell? ⟨w.heap.size, 2, none⟩ = some (.slice A2 p.lks.length c2) ∧ W.cell? ⟨w.heap.size, 3, none⟩ = some (.slice A3 p.ress.length c3) ∧ W.cell? ⟨w.heap.size, 4, none⟩ = some (.slice A4 p.stk.length c4) ∧ W.cell? ⟨gx, 0, none⟩ = some (.int .i64 m.ki) ∧ W.cell? ⟨gx, 1, none⟩ = some (.int .i64 m.ac) ∧ W.cell? ⟨gx, 2, none⟩ = some (.int .i64 m.va)) => CE.out W2 (h.1.out.trans hb))
          clear e0 e1 e2 e3 e4 ef p0 p1 p2 pf hle hlp S4
          refine wp_region_held_drew (S := fun W => Hid (Wr [] wx.drew W) ∧ W.cell? ⟨w.heap.size, 0, none⟩ = some (.int .i64 p.dl) ∧ W.cell? ⟨w.heap.size, 1, none⟩ = some (.slice A1 p.acts.length c1) ∧ W.cell? ⟨w.heap.size, 2, none⟩ = some (.slice A2 p.lks.length c2) ∧ W.cell? ⟨w.heap.size, 3, none⟩ = some (.slice A3 p.ress.length c3) ∧ W.cell? ⟨w.heap.size, 4, none⟩ = some (.slice A4 p.stk.length c4) ∧ W.cell? ⟨gx, 0, none⟩ = some (.int .i64 m.ki) ∧ W.cell? ⟨gx, 1, none⟩ = some (.int .i64 m.ac) ∧ W.cell? ⟨gx, 2, none⟩ = some (.int .i64 m.va)) (by kernel_rfl) INIT.out (fun hHeld => ?_)
          refine wpAnyH_take (i := 0) (v := ?_) rfl (by kernel_rfl) (by kernel_rfl) (by kernel_rfl) (fun _ _ _ h => h) (Or.inl ⟨by rfl, ?_⟩) (by assumption) ?_
          rotate_left
          · (intro W hSw; (try dsimp only at hSw); go_simp <;> with_reducible rfl)
          (try simp only [Act.put, List.getElem_toArray, List.getElem_cons_zero, List.setIfInBounds_toArray, List.set_cons_succ, List.set_cons_zero])
          refine wpAnyH_take (i := 1) (v := ?_) rfl (by kernel_rfl) (by kernel_rfl) (by kernel_rfl) (fun _ _ _ h => h) (Or.inl ⟨by rfl, ?_⟩) (by assumption) ?_
          rotate_left
          · (intro W hSw; (try dsimp only at hSw); go_simp <;> with_reducible rfl)
          (try simp only [Act.put, List.getElem_toArray, List.getElem_cons_succ, List.getElem_cons_zero, List.setIfInBounds_toArray, List.set_cons_succ, List.set_cons_zero])
          refine wpAnyH_ready (rs := [2]) (by kernel_rfl) (by simp) ?_
          refine AllReadyH.cons rfl (fun K hK => ?_) AllReadyH.nil
          go_simp
          go_at_call 48
          refine (LL.out).mono ?_
          rintro e w6 ⟨rfl, bb⟩
          have S6 := Lib.hid (S5.out.go bb)
          (first | done | go_wp2_with fail)
          refine hK.out _ _ (KW.out _ _ (Wr.of_below bb (Nat.le_refl _)) (by assumption)) (fun hHeld2 => ?_)
          clear hK K bb S5
          refine wpAnyH_take (i := 3) (v := ?_) rfl (by kernel_rfl) (by kernel_rfl) (by kernel_rfl) (fun _ _ _ h => h) (Or.inl ⟨by rfl, ?_⟩) (by assumption) ?_
          rotate_left
          · (intro W hSw; (try dsimp only at hSw); go_simp <;> with_reducible rfl)
          (try simp only [Act.put, List.getElem_toArray, List.getElem_cons_succ, List.getElem_cons_zero, List.setIfInBounds_toArray, List.set_cons_succ, List.set_cons_zero])
          refine wpAnyH_take (i := 4) (v := ?_) rfl (by kernel_rfl) (by kernel_rfl) (by kernel_rfl) (fun _ _ _ h => h) (Or.inl ⟨by rfl, ?_⟩) (by assumption) ?_
          rotate_left
          · (intro W hSw; (try dsimp only at hSw); go_simp <;> with_reducible rfl)
          (try simp only [Act.put, List.getElem_toArray, List.getElem_cons_succ, List.getElem_cons_zero, List.setIfInBounds_toArray, List.set_cons_succ, List.set_cons_zero])
          refine wpAnyH_take (i := 5) (v := ?_) rfl (by kernel_rfl) (by kernel_rfl) (by kernel_rfl) (fun _ _ _ h => h) (Or.inl ⟨by rfl, ?_⟩) (by assumption) ?_
          rotate_left
          · (intro W hSw; (try dsimp only at hSw); go_simp <;> with_reducible rfl)
          (try simp only [Act.put, List.getElem_toArray, List.getElem_cons_succ, List.getElem_cons_zero, List.setIfInBounds_toArray, List.set_cons_succ, List.set_cons_zero])
          refine wpAnyH_take (i := 6) (v := ?_) rfl (by kernel_rfl) (by kernel_rfl) (by kernel_rfl) (fun _ _ _ h => h) (Or.inl ⟨by rfl, ?_⟩) (by assumption) ?_
          rotate_left
          · (intro W hSw; (try dsimp only at hSw); go_simp <;> with_reducible rfl)
          (try simp only [Act.put, List.getElem_toArray, List.getElem_cons_succ, List.getElem_cons_zero, List.setIfInBounds_toArray, List.set_cons_succ, List.set_cons_zero])
          refine wpAnyH_take (i := 7) (v := ?_) rfl (by kernel_rfl) (by kernel_rfl) (by kernel_rfl) (fun _ _ _ h => h) (Or.inl ⟨by rfl, ?_⟩) (by assumption) ?_
          rotate_left
          · (intro W hSw; (try dsimp only at hSw); go_simp <;> with_reducible rfl)
          (try simp only [Act.put, List.getElem_toArray, List.getElem_cons_succ, List.getElem_cons_zero, List.setIfInBounds_toArray, List.set_cons_succ, List.set_cons_zero])
          refine wpAnyH_take (i := 8) (v := undef) rfl (by kernel_rfl) (by kernel_rfl) (by kernel_rfl) (fun _ _ _ h => h) (Or.inr ⟨by rfl, rfl⟩) (by assumption) ?_
          (try simp only [Act.put, List.getElem_toArray, List.getElem_cons_succ, List.getElem_cons_zero, List.setIfInBounds_toArray, List.set_cons_succ, List.set_cons_zero])
          refine wpAnyH_take (i := 9) (v := undef) rfl (by kernel_rfl) (by kernel_rfl) (by kernel_rfl) (fun _ _ _ h => h) (Or.inr ⟨by rfl, rfl⟩) (by assumption) ?_
          (try simp only [Act.put, List.getElem_toArray, List.getElem_cons_succ, List.getElem_cons_zero, List.setIfInBounds_toArray, List.set_cons_succ, List.set_cons_zero])
          refine wpAnyH_take (i := 10) (v := undef) rfl (by kernel_rfl) (by kernel_rfl) (by kernel_rfl) (fun _ _ _ h => h) (Or.inr ⟨by rfl, rfl⟩) (by assumption) ?_
          (try simp only [Act.put, List.getElem_toArray, List.getElem_cons_succ, List.getElem_cons_zero, List.setIfInBounds_toArray, List.set_cons_succ, List.set_cons_zero])
          refine wpAnyH_take (i := 11) (v := undef) rfl (by kernel_rfl) (by kernel_rfl) (by kernel_rfl) (fun _ _ _ h => h) (Or.inr ⟨by rfl, rfl⟩) (by assumption) ?_
          (try simp only [Act.put, List.getElem_toArray, List.getElem_cons_succ, List.getElem_cons_zero, List.setIfInBounds_toArray, List.set_cons_succ, List.set_cons_zero])
          refine wpAnyH_take (i := 12) (v := undef) rfl (by kernel_rfl) (by kernel_rfl) (by kernel_rfl) (fun _ _ _ h => h) (Or.inr ⟨by rfl, rfl⟩) (by assumption) ?_
          (try simp only [Act.put, List.getElem_toArray, List.getElem_cons_succ, List.getElem_cons_zero, List.setIfInBounds_toArray, List.set_cons_succ, List.set_cons_zero])
          refine wpAnyH_take (i := 13) (v := undef) rfl (by kernel_rfl) (by kernel_rfl) (by kernel_rfl) (fun _ _ _ h => h) (Or.inr ⟨by rfl, rfl⟩) (by assumption) ?_
          (try simp only [Act.put, List.getElem_toArray, List.getElem_cons_succ, List.getElem_cons_zero, List.setIfInBounds_toArray, List.set_cons_succ, List.set_cons_zero])
          refine wpAnyH_take (i := 14) (v := undef) rfl (by kernel_rfl) (by kernel_rfl) (by kernel_rfl) (fun _ _ _ h => h) (Or.inr ⟨by rfl, rfl⟩) (by assumption) ?_
          (try simp only [Act.put, List.getElem_toArray, List.getElem_cons_succ, List.getElem_cons_zero, List.setIfInBounds_toArray, List.set_cons_succ, List.set_cons_zero])
          refine wpAnyH_take (i := 15) (v := undef) rfl (by kernel_rfl) (by kernel_rfl) (by kernel_rfl) (fun _ _ _ h => h) (Or.inr ⟨by rfl, rfl⟩) (by assumption) ?_
          (try simp only [Act.put, List.getElem_toArray, List.getElem_cons_succ, List.getElem_cons_zero, List.setIfInBounds_toArray, List.set_cons_succ, List.set_cons_zero])
          refine wpAnyH_take (i := 16) (v := ?_) rfl (by kernel_rfl) (by kernel_rfl) (by kernel_rfl) (fun _ _ _ h => h) (Or.inl ⟨by rfl, ?_⟩) (by assumption) ?_
          rotate_left
          · (intro W hSw; (try dsimp only at hSw); go_simp <;> with_reducible rfl)
          (try simp only [Act.put, List.getElem_toArray, List.getElem_cons_succ, List.getElem_cons_zero, List.setIfInBounds_toArray, List.set_cons_succ, List.set_cons_zero])
          refine wpAnyH_take (i := 17) (v := ?_) rfl (by kernel_rfl) (by kernel_rfl) (by kernel_rfl) (fun _ _ _ h => h) (Or.inl ⟨by rfl, ?_⟩) (by assumption) ?_
          rotate_left
          · (intro W hSw; (try dsimp only at hSw); go_simp <;> with_reducible rfl)
          (try simp only [Act.put, List.getElem_toArray, List.getElem_cons_succ, List.getElem_cons_zero, List.setIfInBounds_toArray, List.set_cons_succ, List.set_cons_zero])
          refine wpAnyH_done (by kernel_rfl) ?_ _
          clear CE INIT KW
          have S7 := Lib.hid (S6.out.drop 0)
          go_wp2
          go_roundw
          case rel => exact ⟨k + 1, by omega, by go_num, S7.out, ST1.out, ST2.out⟩
          case measure => simp [intOf]; omega
        · have hki : (0 : Int) < (k : Int) := by omega
          have hkn : 0 < k := by omega
          have hkd : decide ((0 : Int) < (k : Int)) = true := decide_eq_true hki
          obtain ⟨q, hkq⟩ : ∃ q, k = q + 1 := ⟨k - 1, by omega⟩
          have hql : q < l.length := by omega
          have hwk : IntKind.i64.wrap ((k : Int) - 1) = (q : Int) := by rw [IntKind.wrap_i64]; omega
          have q0' : (0 : Int) ≤ (q : Int) := by omega
          have q1' : (q : Int) < (l.length : Int) := by omega
          obtain ⟨z0, z1, z2⟩ := YY.out q hql
          have hz0 := (S4.out.1.cell (p := ⟨b, o + q * 3, none⟩) hb).trans z0
          have hz1 := (S4.out.1.cell (p := ⟨b, o + q * 3 + 1, none⟩) hb).trans z1
          have hz2 := (S4.out.1.cell (p := ⟨b, o + q * 3 + 2, none⟩) hb).trans z2
          have hlb := HLB.out
          have ASC2 := Lib.hid (ASC.out q hql hkq)
          have ASN2 := Lib.hid (ASN.out q hql hkq)
          clear hkq z0 z1 z2 hk0
          generalize l[q] = y at hz0 hz1 hz2 ASC2 ASN2
          have REG := Lib.hid (specCompare_any y m)
          rcases hcm : decide (cmpLt y m < 0) with _ | _
          · have HCM := Lib.hid hcm
            have CE := Lib.hid (fun (W : World) (h : Wr [] wx.drew W) => show Hid (Wr [] wx.drew W) ∧ W.cell? ⟨w.heap.size, 0, none⟩ = some (.int .i64 p.dl) ∧ W.cell? ⟨w.heap.size, 1, none⟩ = some (.slice A1 p.acts.length c1) ∧ W.cell? ⟨w.heap.size, 2, none⟩ = some (.slice A2 p.lks.length c2) ∧ W.cell? ⟨w.heap.size, 3, none⟩ = some (.slice A3 p.ress.length c3) ∧ W.cell? ⟨w.heap.size, 4, none⟩ = some (.slice A4 p.stk.length c4) ∧ W.cell? ⟨gx, 0, none⟩ = some (.int .i64 m.ki) ∧ W.cell? ⟨gx, 1, none⟩ = some (.int .i64 m.ac) ∧ W.cell? ⟨gx, 2, none⟩ = some (.int .i64 m.va) ∧ W.cell? ⟨b, o + q * 3, none⟩ = some (.int .i64 y.ki) ∧ W.cell? ⟨b, o + q * 3 + 1, none⟩ = some (.int .i64 y.ac) ∧ W.cell? ⟨b, o + q * 3 + 2, none⟩ = some (.int .i64 y.va) from ⟨Lib.hid h, (wr_cell h (p := ⟨w.heap.size, 0, none⟩) hle (by simp)).trans (by exact by simpa using e0), (wr_cell h (p := ⟨w.heap.size, 1, none⟩) hle (by simp)).trans (by exact by simpa using e1), (wr_cell h (p := ⟨w.heap.size, 2, none⟩) hle (by simp)).trans (by exact by simpa using e2), (wr_cell h (p := ⟨w.heap.size, 3, none⟩) hle (by simp)).trans (by exact by simpa using e3), (wr_cell h (p := ⟨w.heap.size, 4, none⟩) hle (by simp)).trans (by exact by simpa using e4), (wr_cell h (p := ⟨gx, 0, none⟩) hlp (by simp)).trans (by exact by simpa using p0), (wr_cell h (p := ⟨gx, 1, none⟩) hlp (by simp)).trans (by exact by simpa using p1), (wr_cell h (p := ⟨gx, 2, none⟩) hlp (by simp)).trans (by exact by simpa using p2), (wr_cell h (p := ⟨b, o + q * 3, none⟩) (by simpa using hlb) (by simp)).trans (by exact by simpa using hz0), (wr_cell h (p := ⟨b, o + q * 3 + 1, none⟩) (by simpa using hlb) (by simp)).trans (by exact by simpa using hz1), (wr_cell h (p := ⟨b, o + q * 3 + 2, none⟩) (by simpa using hlb) (by simp)).trans (by exact by simpa using hz2)⟩)
            have INIT := Lib.hid (CE.out _ (Wr.refl _ _))
            have KW := Lib.hid (fun (W2 W : World) (hb : Wr [] W W2) (h : Hid (Wr [] wx.drew W) ∧ W.cell? ⟨w.heap.size, 0, none⟩ = some (.int .i64 p.dl) ∧ W.cell? ⟨w.heap.size, 1, none⟩ = some (.slice A1 p.acts.length c1) ∧ W.cell? ⟨w.heap.size, 2, none⟩ = some (.slice A2 p.lks.length c2) ∧ W.cell? ⟨w.heap.size, 3, none⟩ = some (.slice A3 p.ress.length c3) ∧ W.cell? ⟨w.heap.size, 4, none⟩ = some (.slice A4 p.stk.length c4) ∧ W.cell? ⟨gx, 0, none⟩ = some (.int .i64 m.ki) ∧ W.cell? ⟨gx, 1, none⟩ = some (.int .i64 m.ac) ∧ W.cell? ⟨gx, 2, none⟩ = some (.int .i64 m.va) ∧ W.cell? ⟨b, o + q * 3, none⟩ = some (.int .i64 y.ki) ∧ W.cell? ⟨b, o + q * 3 + 1, none⟩ = some (.int .i64 y.ac) ∧ W.cell? ⟨b, o + q * 3 + 2, none⟩ = some (.int .i64 y.va)) => CE.out W2 (h.1.out.trans hb))
            clear e0 e1 e2 e3 e4 ef p0 p1 p2 pf hle hlp hz0 hz1 hz2 hlb S4
            refine wp_region_held_drew (S := fun W => Hid (Wr [] wx.drew W) ∧ W.cell? ⟨w.heap.size, 0, none⟩ = some (.int .i64 p.dl) ∧ W.cell? ⟨w.heap.size, 1, none⟩ = some (.slice A1 p.acts.length c1) ∧ W.cell? ⟨w.heap.size, 2, none⟩ = some (.slice A2 p.lks.length c2) ∧ W.cell? ⟨w.heap.size, 3, none⟩ = some (.slice A3 p.ress.length c3) ∧ W.cell? ⟨w.heap.size, 4, none⟩ = some (.slice A4 p.stk.length c4) ∧ W.cell? ⟨gx, 0, none⟩ = some (.int .i64 m.ki) ∧ W.cell? ⟨gx, 1, none⟩ = some (.int .i64 m.ac) ∧ W.cell? ⟨gx, 2, none⟩ = some (.int .i64 m.va) ∧ W.cell? ⟨b, o + q * 3, none⟩ = some (.int .i64 y.ki) ∧ W.cell? ⟨b, o + q * 3 + 1, none⟩ = some (.int .i64 y.ac) ∧ W.cell? ⟨b, o + q * 3 + 2, none⟩ = some (.int .i64 y.va)) (by kernel_rfl) INIT.out (fun hHeld => ?_)
            refine wpAnyH_take (i := 0) (v := ?_) rfl (by kernel_rfl) (by kernel_rfl) (by kernel_rfl) (fun _ _ _ h => h) (Or.inl ⟨by rfl, ?_⟩) (by assumption) ?_
            rotate_left
            · (intro W hSw; (try dsimp only at hSw); go_simp <;> with_reducible rfl)
            (try simp only [Act.put, List.getElem_toArray, List.getElem_cons_zero, List.setIfInBounds_toArray, List.set_cons_succ, List.set_cons_zero])
            refine wpAnyH_take (i := 1) (v := ?_) rfl (by kernel_rfl) (by kernel_rfl) (by kernel_rfl) (fun _ _ _ h => h) (Or.inl ⟨by rfl, ?_⟩) (by assumption) ?_
            rotate_left
            · (intro W hSw; (try dsimp only at hSw); go_simp <;> with_reducible rfl)
            (try simp only [Act.put, List.getElem_toArray, List.getElem_cons_succ, List.getElem_cons_zero, List.setIfInBounds_toArray, List.set_cons_succ, List.set_cons_zero])
            refine wpAnyH_ready (rs := [2]) (by kernel_rfl) (by simp) ?_
            refine AllReadyH.cons rfl (fun K hK => ?_) AllReadyH.nil
            go_simp
            go_at_call 48
            refine (LL.out).mono ?_
            rintro e w6 ⟨rfl, bb⟩
            have S6 := Lib.hid (S5.out.go bb)
            (first | done | go_wp2_with fail)
            refine hK.out _ _ (KW.out _ _ (Wr.of_below bb (Nat.le_refl _)) (by assumption)) (fun hHeld2 => ?_)
            clear hK K bb S5
            refine wpAnyH_take (i := 3) (v := ?_) rfl (by kernel_rfl) (by kernel_rfl) (by kernel_rfl) (fun _ _ _ h => h) (Or.inl ⟨by rfl, ?_⟩) (by assumption) ?_
            rotate_left
            · (intro W hSw; (try dsimp only at hSw); go_simp <;> with_reducible rfl)
            (try simp only [Act.put, List.getElem_toArray, List.getElem_cons_succ, List.getElem_cons_zero, List.setIfInBounds_toArray, List.set_cons_succ, List.set_cons_zero])
            refine wpAnyH_take (i := 4) (v := ?_) rfl (by kernel_rfl) (by kernel_rfl) (by kernel_rfl) (fun _ _ _ h => h) (Or.inl ⟨by rfl, ?_⟩) (by assumption) ?_
            rotate_left
            · (intro W hSw; (try dsimp only at hSw); go_simp <;> with_reducible rfl)
            (try simp only [Act.put, List.getElem_toArray, List.getElem_cons_succ, List.getElem_cons_zero, List.setIfInBounds_toArray, List.set_cons_succ, List.set_cons_zero])
            refine wpAnyH_take (i := 5) (v := ?_) rfl (by kernel_rfl) (by kernel_rfl) (by kernel_rfl) (fun _ _ _ h => h) (Or.inl ⟨by rfl, ?_⟩) (by assumption) ?_
            rotate_left
            · (intro W hSw; (try dsimp only at hSw); go_simp <;> with_reducible rfl)
            (try simp only [Act.put, List.getElem_toArray, List.getElem_cons_succ, List.getElem_cons_zero, List.setIfInBounds_toArray, List.set_cons_succ, List.set_cons_zero])
            refine wpAnyH_take (i := 6) (v := ?_) rfl (by kernel_rfl) (by kernel_rfl) (by kernel_rfl) (fun _ _ _ h => h) (Or.inl ⟨by rfl, ?_⟩) (by assumption) ?_
            rotate_left
            · (intro W hSw; (try dsimp only at hSw); go_simp <;> with_reducible rfl)
            (try simp only [Act.put, List.getElem_toArray, List.getElem_cons_succ, List.getElem_cons_zero, List.setIfInBounds_toArray, List.set_cons_succ, List.set_cons_zero])
            refine wpAnyH_take (i := 7) (v := ?_) rfl (by kernel_rfl) (by kernel_rfl) (by kernel_rfl) (fun _ _ _ h => h) (Or.inl ⟨by rfl, ?_⟩) (by assumption) ?_
            rotate_left
            · (intro W hSw; (try dsimp only at hSw); go_simp <;> with_reducible rfl)
            (try simp only [Act.put, List.getElem_toArray, List.getElem_cons_succ, List.getElem_cons_zero, List.setIfInBounds_toArray, List.set_cons_succ, List.set_cons_zero])
            refine wpAnyH_take (i := 8) (v := ?_) rfl (by kernel_rfl) (by kernel_rfl) (by kernel_rfl) (fun _ _ _ h => h) (Or.inl ⟨by rfl, ?_⟩) (by assumption) ?_
            rotate_left
            · (intro W hSw; (try dsimp only at hSw); go_simp <;> with_reducible rfl)
            (try simp only [Act.put, List.getElem_toArray, List.getElem_cons_succ, List.getElem_cons_zero, List.setIfInBounds_toArray, List.set_cons_succ, List.set_cons_zero])
            refine wpAnyH_take (i := 9) (v := ?_) rfl (by kernel_rfl) (by kernel_rfl) (by kernel_rfl) (fun _ _ _ h => h) (Or.inl ⟨by rfl, ?_⟩) (by assumption) ?_
            rotate_left
            · (intro W hSw; (try dsimp only at hSw); go_simp <;> with_reducible rfl)
            (try simp only [Act.put, List.getElem_toArray, List.getElem_cons_succ, List.getElem_cons_zero, List.setIfInBounds_toArray, List.set_cons_succ, List.set_cons_zero])
            refine wpAnyH_take (i := 10) (v := ?_) rfl (by kernel_rfl) (by kernel_rfl) (by kernel_rfl) (fun _ _ _ h => h) (Or.inl ⟨by rfl, ?_⟩) (by assumption) ?_
            rotate_left
            · (intro W hSw; (try dsimp only at hSw); go_simp <;> with_reducible rfl)
            (try simp only [Act.put, List.getElem_toArray, List.getElem_cons_succ, List.getElem_cons_zero, List.setIfInBounds_toArray, List.set_cons_succ, List.set_cons_zero])
            refine wpAnyH_take (i := 11) (v := ?_) rfl (by kernel_rfl) (by kernel_rfl) (by kernel_rfl) (fun _ _ _ h => h) (Or.inl ⟨by rfl, ?_⟩) (by assumption) ?_
            rotate_left
            · (intro W hSw; (try dsimp only at hSw); go_simp <;> with_reducible rfl)
            (try simp only [Act.put, List.getElem_toArray, List.getElem_cons_succ, List.getElem_cons_zero, List.setIfInBounds_toArray, List.set_cons_succ, List.set_cons_zero])
            refine wpAnyH_take (i := 12) (v := ?_) rfl (by kernel_rfl) (by kernel_rfl) (by kernel_rfl) (fun _ _ _ h => h) (Or.inl ⟨by rfl, ?_⟩) (by assumption) ?_
            rotate_left
            · (intro W hSw; (try dsimp only at hSw); go_simp <;> with_reducible rfl)
            (try simp only [Act.put, List.getElem_toArray, List.getElem_cons_succ, List.getElem_cons_zero, List.setIfInBounds_toArray, List.set_cons_succ, List.set_cons_zero])
            refine wpAnyH_take (i := 13) (v := ?_) rfl (by kernel_rfl) (by kernel_rfl) (by kernel_rfl) (fun _ _ _ h => h) (Or.inl ⟨by rfl, ?_⟩) (by assumption) ?_
            rotate_left
            · (intro W hSw; (try dsimp only at hSw); go_simp <;> with_reducible rfl)
            (try simp only [Act.put, List.getElem_toArray, List.getElem_cons_succ, List.getElem_cons_zero, List.setIfInBounds_toArray, List.set_cons_succ, List.set_cons_zero])
            refine wpAnyH_ready (rs := [14]) (by kernel_rfl) (by simp) ?_
            refine AllReadyH.cons rfl (fun K hK => ?_) AllReadyH.nil
            go_simp
            go_at_call 49
            refine (REG.out _).mono ?_
            rintro e w7 ⟨rfl, bb⟩
            have S7 := Lib.hid (S6.out.go bb)
            (first | done | go_wp2_with fail)
            refine hK.out _ _ (KW.out _ _ (Wr.of_below bb (Nat.le_refl _)) (by assumption)) (fun hHeld14 => ?_)
            clear hK K bb S6
            generalize hcv : cmpLt y m = cv
            have hcd : decide (0 ≤ cv) = true := by rw [← hcv]; have := HCM.out; simp at this ⊢; omega
            have HCV := Lib.hid hcv
            clear hcv
            refine wpAnyH_take (i := 15) (v := ?_) rfl (by kernel_rfl) (by kernel_rfl) (by kernel_rfl) (fun _ _ _ h => h) (Or.inl ⟨by rfl, ?_⟩) (by assumption) ?_
            rotate_left
            · (intro W hSw; (try dsimp only at hSw); go_simp <;> with_reducible rfl)
            (try simp only [Act.put, List.getElem_toArray, List.getElem_cons_succ, List.getElem_cons_zero, List.setIfInBounds_toArray, List.set_cons_succ, List.set_cons_zero])
            refine wpAnyH_take (i := 16) (v := ?_) rfl (by kernel_rfl) (by kernel_rfl) (by kernel_rfl) (fun _ _ _ h => h) (Or.inl ⟨by rfl, ?_⟩) (by assumption) ?_
            rotate_left
            · (intro W hSw; (try dsimp only at hSw); go_simp <;> with_reducible rfl)
            (try simp only [Act.put, List.getElem_toArray, List.getElem_cons_succ, List.getElem_cons_zero, List.setIfInBounds_toArray, List.set_cons_succ, List.set_cons_zero])
            refine wpAnyH_take (i := 17) (v := ?_) rfl (by kernel_rfl) (by kernel_rfl) (by kernel_rfl) (fun _ _ _ h => h) (Or.inl ⟨by rfl, ?_⟩) (by assumption) ?_
            rotate_left
            · (intro W hSw; (try dsimp only at hSw); go_simp <;> with_reducible rfl)
            (try simp only [Act.put, List.getElem_toArray, List.getElem_cons_succ, List.getElem_cons_zero, List.setIfInBounds_toArray, List.set_cons_succ, List.set_cons_zero])
            refine wpAnyH_done (by kernel_rfl) ?_ _
            clear CE INIT KW
            have RES := Lib.hid (ASN2.out (fun h => by rw [← cmp_neg] at h; have := HCM.out; simp at this; omega))
            go_wp2
            go_ret
            exact ⟨ret_boo RES.out.symm, S7.out.1⟩
          · have HCM := Lib.hid hcm
            have CE := Lib.hid (fun (W : World) (h : Wr [] wx.drew W) => show Hid (Wr [] wx.drew W) ∧ W.cell? ⟨w.heap.size, 0, none⟩ = some (.int .i64 p.dl) ∧ W.cell? ⟨w.heap.size, 1, none⟩ = some (.slice A1 p.acts.length c1) ∧ W.cell? ⟨w.heap.size, 2, none⟩ = some (.slice A2 p.lks.length c2) ∧ W.cell? ⟨w.heap.size, 3, none⟩ = some (.slice A3 p.ress.length c3) ∧ W.cell? ⟨w.heap.size, 4, none⟩ = some (.slice A4 p.stk.length c4) ∧ W.cell? ⟨gx, 0, none⟩ = some (.int .i64 m.ki) ∧ W.cell? ⟨gx, 1, none⟩ = some (.int .i64 m.ac) ∧ W.cell? ⟨gx, 2, none⟩ = some (.int .i64 m.va) ∧ W.cell? ⟨b, o + q * 3, none⟩ = some (.int .i64 y.ki) ∧ W.cell? ⟨b, o + q * 3 + 1, none⟩ = some (.int .i64 y.ac) ∧ W.cell? ⟨b, o + q * 3 + 2, none⟩ = some (.int .i64 y.va) from ⟨Lib.hid h, (wr_cell h (p := ⟨w.heap.size, 0, none⟩) hle (by simp)).trans (by exact by simpa using e0), (wr_cell h (p := ⟨w.heap.size, 1, none⟩) hle (by simp)).trans (by exact by simpa using e1), (wr_cell h (p := ⟨w.heap.size, 2, none⟩) hle (by simp)).trans (by exact by simpa using e2), (wr_cell h (p := ⟨w.heap.size, 3, none⟩) hle (by simp)).trans (by exact by simpa using e3), (wr_cell h (p := ⟨w.heap.size, 4, none⟩) hle (by simp)).trans (by exact by simpa using e4), (wr_cell h (p := ⟨gx, 0, none⟩) hlp (by simp)).trans (by exact by simpa using p0), (wr_cell h (p := ⟨gx, 1, none⟩) hlp (by simp)).trans (by exact by simpa using p1), (wr_cell h (p := ⟨gx, 2, none⟩) hlp (by simp)).trans (by exact by simpa using p2), (wr_cell h (p := ⟨b, o + q * 3, none⟩) (by simpa using hlb) (by simp)).trans (by exact by simpa using hz0), (wr_cell h (p := ⟨b, o + q * 3 + 1, none⟩) (by simpa using hlb) (by simp)).trans (by exact by simpa using hz1), (wr_cell h (p := ⟨b, o + q * 3 + 2, none⟩) (by simpa using hlb) (by simp)).trans (by exact by simpa using hz2)⟩)
            have INIT := Lib.hid (CE.out _ (Wr.refl _ _))
            have KW := Lib.hid (fun (W2 W : World) (hb : Wr [] W W2) (h : Hid (Wr [] wx.drew W) ∧ W.cell? ⟨w.heap.size, 0, none⟩ = some (.int .i64 p.dl) ∧ W.cell? ⟨w.heap.size, 1, none⟩ = some (.slice A1 p.acts.length c1) ∧ W.cell? ⟨w.heap.size, 2, none⟩ = some (.slice A2 p.lks.length c2) ∧ W.cell? ⟨w.heap.size, 3, none⟩ = some (.slice A3 p.ress.length c3) ∧ W.cell? ⟨w.heap.size, 4, none⟩ = some (.slice A4 p.stk.length c4) ∧ W.cell? ⟨gx, 0, none⟩ = some (.int .i64 m.ki) ∧ W.cell? ⟨gx, 1, none⟩ = some (.int .i64 m.ac) ∧ W.cell? ⟨gx, 2, none⟩ = some (.int .i64 m.va) ∧ W.cell? ⟨b, o + q * 3, none⟩ = some (.int .i64 y.ki) ∧ W.cell? ⟨b, o + q * 3 + 1, none⟩ = some (.int .i64 y.ac) ∧ W.cell? ⟨b, o + q * 3 + 2, none⟩ = some (.int .i64 y.va)) => CE.out W2 (h.1.out.trans hb))
            clear e0 e1 e2 e3 e4 ef p0 p1 p2 pf hle hlp hz0 hz1 hz2 hlb S4
            refine wp_region_held_drew (S := fun W => Hid (Wr [] wx.drew W) ∧ W.cell? ⟨w.heap.size, 0, none⟩ = some (.int .i64 p.dl) ∧ W.cell? ⟨w.heap.size, 1, none⟩ = some (.slice A1 p.acts.length c1) ∧ W.cell? ⟨w.heap.size, 2, none⟩ = some (.slice A2 p.lks.length c2) ∧ W.cell? ⟨w.heap.size, 3, none⟩ = some (.slice A3 p.ress.length c3) ∧ W.cell? ⟨w.heap.size, 4, none⟩ = some (.slice A4 p.stk.length c4) ∧ W.cell? ⟨gx, 0, none⟩ = some (.int .i64 m.ki) ∧ W.cell? ⟨gx, 1, none⟩ = some (.int .i64 m.ac) ∧ W.cell? ⟨gx, 2, none⟩ = some (.int .i64 m.va) ∧ W.cell? ⟨b, o + q * 3, none⟩ = some (.int .i64 y.ki) ∧ W.cell? ⟨b, o + q * 3 + 1, none⟩ = some (.int .i64 y.ac) ∧ W.cell? ⟨b, o + q * 3 + 2, none⟩ = some (.int .i64 y.va)) (by kernel_rfl) INIT.out (fun hHeld => ?_)
            refine wpAnyH_take (i := 0) (v := ?_) rfl (by kernel_rfl) (by kernel_rfl) (by kernel_rfl) (fun _ _ _ h => h) (Or.inl ⟨by rfl, ?_⟩) (by assumption) ?_
            rotate_left
            · (intro W hSw; (try dsimp only at hSw); go_simp <;> with_reducible rfl)
            (try simp only [Act.put, List.getElem_toArray, List.getElem_cons_zero, List.setIfInBounds_toArray, List.set_cons_succ, List.set_cons_zero])
            refine wpAnyH_take (i := 1) (v := ?_) rfl (by kernel_rfl) (by kernel_rfl) (by kernel_rfl) (fun _ _ _ h => h) (Or.inl ⟨by rfl, ?_⟩) (by assumption) ?_
            rotate_left
            · (intro W hSw; (try dsimp only at hSw); go_simp <;> with_reducible rfl)
            (try simp only [Act.put, List.getElem_toArray, List.getElem_cons_succ, List.getElem_cons_zero, List.setIfInBounds_toArray, List.set_cons_succ, List.set_cons_zero])
            refine wpAnyH_ready (rs := [2]) (by kernel_rfl) (by simp) ?_
            refine AllReadyH.cons rfl (fun K hK => ?_) AllReadyH.nil
            go_simp
            go_at_call 48
            refine (LL.out).mono ?_
            rintro e w6 ⟨rfl, bb⟩
            have S6 := Lib.hid (S5.out.go bb)
            (first | done | go_wp2_with fail)
            refine hK.out _ _ (KW.out _ _ (Wr.of_below bb (Nat.le_refl _)) (by assumption)) (fun hHeld2 => ?_)
            clear hK K bb S5
            refine wpAnyH_take (i := 3) (v := ?_) rfl (by kernel_rfl) (by kernel_rfl) (by kernel_rfl) (fun _ _ _ h => h) (Or.inl ⟨by rfl, ?_⟩) (by assumption) ?_
            rotate_left
            · (intro W hSw; (try dsimp only at hSw); go_simp <;> with_reducible rfl)
            (try simp only [Act.put, List.getElem_toArray, List.getElem_cons_succ, List.getElem_cons_zero, List.setIfInBounds_toArray, List.set_cons_succ, List.set_cons_zero])
            refine wpAnyH_take (i := 4) (v := ?_) rfl (by kernel_rfl) (by kernel_rfl) (by kernel_rfl) (fun _ _ _ h => h) (Or.inl ⟨by rfl, ?_⟩) (by assumption) ?_
            rotate_left
            · (intro W hSw; (try dsimp only at hSw); go_simp <;> with_reducible rfl)
            (try simp only [Act.put, List.getElem_toArray, List.getElem_cons_succ, List.getElem_cons_zero, List.setIfInBounds_toArray, List.set_cons_succ, List.set_cons_zero])
            refine wpAnyH_take (i := 5) (v := ?_) rfl (by kernel_rfl) (by kernel_rfl) (by kernel_rfl) (fun _ _ _ h => h) (Or.inl ⟨by rfl, ?_⟩) (by assumption) ?_
            rotate_left
            · (intro W hSw; (try dsimp only at hSw); go_simp <;> with_reducible rfl)
            (try simp only [Act.put, List.getElem_toArray, List.getElem_cons_succ, List.getElem_cons_zero, List.setIfInBounds_toArray, List.set_cons_succ, List.set_cons_zero])
            refine wpAnyH_take (i := 6) (v := ?_) rfl (by kernel_rfl) (by kernel_rfl) (by kernel_rfl) (fun _ _ _ h => h) (Or.inl ⟨by rfl, ?_⟩) (by assumption) ?_
            rotate_left
            · (intro W hSw; (try dsimp only at hSw); go_simp <;> with_reducible rfl)
            (try simp only [Act.put, List.getElem_toArray, List.getElem_cons_succ, List.getElem_cons_zero, List.setIfInBounds_toArray, List.set_cons_succ, List.set_cons_zero])
            refine wpAnyH_take (i := 7) (v := ?_) rfl (by kernel_rfl) (by kernel_rfl) (by kernel_rfl) (fun _ _ _ h => h) (Or.inl ⟨by rfl, ?_⟩) (by assumption) ?_
            rotate_left
            · (intro W hSw; (try dsimp only at hSw); go_simp <;> with_reducible rfl)
            (try simp only [Act.put, List.getElem_toArray, List.getElem_cons_succ, List.getElem_cons_zero, List.setIfInBounds_toArray, List.set_cons_succ, List.set_cons_zero])
            refine wpAnyH_take (i := 8) (v := ?_) rfl (by kernel_rfl) (by kernel_rfl) (by kernel_rfl) (fun _ _ _ h => h) (Or.inl ⟨by rfl, ?_⟩) (by assumption) ?_
            rotate_left
            · (intro W hSw; (try dsimp only at hSw); go_simp <;> with_reducible rfl)
            (try simp only [Act.put, List.getElem_toArray, List.getElem_cons_succ, List.getElem_cons_zero, List.setIfInBounds_toArray, List.set_cons_succ, List.set_cons_zero])
            refine wpAnyH_take (i := 9) (v := ?_) rfl (by kernel_rfl) (by kernel_rfl) (by kernel_rfl) (fun _ _ _ h => h) (Or.inl ⟨by rfl, ?_⟩) (by assumption) ?_
            rotate_left
            · (intro W hSw; (try dsimp only at hSw); go_simp <;> with_reducible rfl)
            (try simp only [Act.put, List.getElem_toArray, List.getElem_cons_succ, List.getElem_cons_zero, List.setIfInBounds_toArray, List.set_cons_succ, List.set_cons_zero])
            refine wpAnyH_take (i := 10) (v := ?_) rfl (by kernel_rfl) (by kernel_rfl) (by kernel_rfl) (fun _ _ _ h => h) (Or.inl ⟨by rfl, ?_⟩) (by assumption) ?_
            rotate_left
            · (intro W hSw; (try dsimp only at hSw); go_simp <;> with_reducible rfl)
            (try simp only [Act.put, List.getElem_toArray, List.getElem_cons_succ, List.getElem_cons_zero, List.setIfInBounds_toArray, List.set_cons_succ, List.set_cons_zero])
            refine wpAnyH_take (i := 11) (v := ?_) rfl (by kernel_rfl) (by kernel_rfl) (by kernel_rfl) (fun _ _ _ h => h) (Or.inl ⟨by rfl, ?_⟩) (by assumption) ?_
            rotate_left
            · (intro W hSw; (try dsimp only at hSw); go_simp <;> with_reducible rfl)
            (try simp only [Act.put, List.getElem_toArray, List.getElem_cons_succ, List.getElem_cons_zero, List.setIfInBounds_toArray, List.set_cons_succ, List.set_cons_zero])
            refine wpAnyH_take (i := 12) (v := ?_) rfl (by kernel_rfl) (by kernel_rfl) (by kernel_rfl) (fun _ _ _ h => h) (Or.inl ⟨by rfl, ?_⟩) (by assumption) ?_
            rotate_left
            · (intro W hSw; (try dsimp only at hSw); go_simp <;> with_reducible rfl)
            (try simp only [Act.put, List.getElem_toArray, List.getElem_cons_succ, List.getElem_cons_zero, List.setIfInBounds_toArray, List.set_cons_succ, List.set_cons_zero])
            refine wpAnyH_take (i := 13) (v := ?_) rfl (by kernel_rfl) (by kernel_rfl) (by kernel_rfl) (fun _ _ _ h => h) (Or.inl ⟨by rfl, ?_⟩) (by assumption) ?_
            rotate_left
            · (intro W hSw; (try dsimp only at hSw); go_simp <;> with_reducible rfl)
            (try simp only [Act.put, List.getElem_toArray, List.getElem_cons_succ, List.getElem_cons_zero, List.setIfInBounds_toArray, List.set_cons_succ, List.set_cons_zero])
            refine wpAnyH_ready (rs := [14]) (by kernel_rfl) (by simp) ?_
            refine AllReadyH.cons rfl (fun K hK => ?_) AllReadyH.nil
            go_simp
            go_at_call 49
            refine (REG.out _).mono ?_
            rintro e w7 ⟨rfl, bb⟩
            have S7 := Lib.hid (S6.out.go bb)
            (first | done | go_wp2_with fail)
            refine hK.out _ _ (KW.out _ _ (Wr.of_below bb (Nat.le_refl _)) (by assumption)) (fun hHeld14 => ?_)
            clear hK K bb S6
            generalize hcv : cmpLt y m = cv
            have hcd : decide (0 ≤ cv) = false := by rw [← hcv]; have := HCM.out; simp at this ⊢; omega
            have HCV := Lib.hid hcv
            clear hcv
            refine wpAnyH_take (i := 15) (v := ?_) rfl (by kernel_rfl) (by kernel_rfl) (by kernel_rfl) (fun _ _ _ h => h) (Or.inl ⟨by rfl, ?_⟩) (by assumption) ?_
            rotate_left
            · (intro W hSw; (try dsimp only at hSw); go_simp <;> with_reducible rfl)
            (try simp only [Act.put, List.getElem_toArray, List.getElem_cons_succ, List.getElem_cons_zero, List.setIfInBounds_toArray, List.set_cons_succ, List.set_cons_zero])
            refine wpAnyH_take (i := 16) (v := ?_) rfl (by kernel_rfl) (by kernel_rfl) (by kernel_rfl) (fun _ _ _ h => h) (Or.inl ⟨by rfl, ?_⟩) (by assumption) ?_
            rotate_left
            · (intro W hSw; (try dsimp only at hSw); go_simp <;> with_reducible rfl)
            (try simp only [Act.put, List.getElem_toArray, List.getElem_cons_succ, List.getElem_cons_zero, List.setIfInBounds_toArray, List.set_cons_succ, List.set_cons_zero])
            refine wpAnyH_take (i := 17) (v := ?_) rfl (by kernel_rfl) (by kernel_rfl) (by kernel_rfl) (fun _ _ _ h => h) (Or.inl ⟨by rfl, ?_⟩) (by assumption) ?_
            rotate_left
            · (intro W hSw; (try dsimp only at hSw); go_simp <;> with_reducible rfl)
            (try simp only [Act.put, List.getElem_toArray, List.getElem_cons_succ, List.getElem_cons_zero, List.setIfInBounds_toArray, List.set_cons_succ, List.set_cons_zero])
            refine wpAnyH_done (by kernel_rfl) ?_ _
            clear CE INIT KW
            have ST2 := Lib.hid (ASC2.out (by rw [← cmp_neg]; have := HCM.out; simpa using this))
            have S8 := Lib.hid (S7.out.drop 0)
            go_wp2
            go_roundw
            case rel => exact ⟨k + 1, by omega, by go_num, S8.out, ST1.out, ST2.out⟩
            case measure => simp [intOf]; omega
    · have hge : ¬ (k : Int) < (l.length : Int) := by omega
      have RES := Lib.hid (REND.out (fun j hj => H1.out j hj (by omega)) (fun j hj h0 => H2.out j hj (by omega) h0))
      go_wp2
      go_ret
      exact ⟨ret_boo RES.out.symm, S3.out.1⟩
end Go.Proofs.YtgbpomakomddjabGreatDoor
