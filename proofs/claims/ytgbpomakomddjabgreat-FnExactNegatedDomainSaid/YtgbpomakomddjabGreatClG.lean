/- DERIVED. CONTRACTS of chapter 14: NegatedDomain of both programs. -/
import Derived.Test.YtgbpomakomddjabGreatClM
import Derived.Test.YtgbpomakomddjabGreatDmIG
import Derived.Test.YtgbpomakomddjabGreatDmRG
import Derived.Test.YtgbpomakomddjabGreatLtA
import Derived.Test.YtgbpomakomddjabGreatRwT
import Derived.Test.YtgbpomakomddjabGreatRegZ
import Derived.Test.YtgbpomakomddjabGreatTFl
namespace Go.Proofs.YtgbpomakomddjabGreat
open Go.RowKit Go.Shelf
set_option linter.unusedVariables false

theorem rest_lens (d : Dm) (l : Lt) : (restD d l).mn.length = d.mn.length ∧ (restD d l).mx.length = d.mx.length ∧ (restD d l).md.length = d.md.length := by
  unfold restD
  split
  · unfold restA
    (repeat' split) <;> exact ⟨by simp, by simp, by simp⟩
  · exact ⟨rfl, rfl, rfl⟩
noncomputable def agK (d : Dm) (l : List Lt) (k : Nat) : Dm := (l.take k).foldl (fun d x => restD d (negL x)) d
theorem ag_zero (d : Dm) (l : List Lt) : agK d l 0 = d := rfl
theorem ag_succ {d : Dm} {l : List Lt} {k : Nat} (h : k < l.length) : agK d l (k + 1) = restD (agK d l k) (negL l[k]) := by
  rw [agK, List.take_succ_eq_append_getElem h, List.foldl_append]; rfl
theorem ag_neg (p : Pj) (l : List Lt) (k : Nat) : agK (initD p) l k = negDK p l k := rfl
theorem ag_lens (d : Dm) (l : List Lt) : ∀ k, k ≤ l.length → (agK d l k).mn.length = d.mn.length ∧ (agK d l k).mx.length = d.mx.length ∧ (agK d l k).md.length = d.md.length
  | 0, _ => ⟨rfl, rfl, rfl⟩
  | k + 1, h => by
    have h1 := ag_lens d l k (by omega)
    have h2 := rest_lens (agK d l k) (negL l[k])
    rw [ag_succ (by omega)]
    exact ⟨h2.1.trans h1.1, h2.2.1.trans h1.2.1, h2.2.2.trans h1.2.2⟩
theorem ag_sz (d : Dm) (l : List Lt) : ∀ k, k ≤ l.length → (trDm (agK d l k)).sz ≤ (trDm d).sz
  | 0, _ => Nat.le_refl _
  | k + 1, h => by
    rw [ag_succ (by omega)]
    exact Nat.le_trans (rest_sz _ _) (ag_sz d l k (by omega))
theorem ag_none (l : List Lt) : ∀ k, k ≤ l.length → agK ⟨[], [], []⟩ l k = ⟨[], [], []⟩
  | 0, _ => rfl
  | k + 1, h => by
    rw [ag_succ (by omega), ag_none l k (by omega)]
    refine rest_no fun h => ?_
    unfold thereD at h
    simp at h
    omega
theorem neg_all (p : Pj) (l : List Lt) : agK (initD p) l l.length = negDm p l := by
  rcases hok : pokB p with _ | _
  · rw [negDm_no hok, init_no hok, ag_none l _ (Nat.le_refl _)]
  · rw [negDm_yes hok]; rfl
theorem negDm_sz (p : Pj) (l : List Lt) : (trDm (negDm p l)).sz ≤ 60 := by
  rw [← neg_all]
  exact Nat.le_trans (ag_sz _ _ _ (Nat.le_refl _)) (init_sz p)
set_option maxRecDepth 100000 in
set_option maxHeartbeats 8000000 in
theorem implNegatedDomain_any (p : Pj) (l : List Lt) (v u : Value) (w : World) (hv : (trPj p).rd w v) (hk : (trPj p).ok) (hl : (trLts l).rd w u) :
    Calls Tryz.prog 14 #[v, u] w fun e w' => ∃ r F, e = .returned r ∧ (trDm (negDm p l)).own w' w.heap.size r F ∧ F.Nodup ∧ Below w.heap.size w w' := by
  have HV := Lib.hid hv
  obtain ⟨A1, c1, A2, c2, A3, c3, A4, c4, rfl, _⟩ := rdProject_t hv
  have HK := Lib.hid hk
  obtain ⟨hll, A, c, rfl, ga⟩ := rdLiteralS_t hl
  have GA := Lib.hid ga
  have RES := Lib.hid (neg_all p l)
  have LN := Lib.hid (ag_lens (initD p) l)
  have SZ0 := Lib.hid (fun k h => Nat.le_trans (ag_sz (initD p) l k h) (Nat.le_trans (init_sz p) (by omega : 60 ≤ 1048576)))
  have NX := Lib.hid (fun k (h : k < l.length) => ag_succ (d := initD p) h)
  clear hv hk hl ga
  have S0 := Lib.hid (((Sn.start w).box 36 [.int .i64 p.dl, .slice A1 p.acts.length c1, .slice A2 p.lks.length c2, .slice A3 p.ress.length c3, .slice A4 p.stk.length c4]).box 45 [.slice none 0 0, .slice none 0 0, .slice none 0 0])
  simp only [World.size_alloc] at S0
  go_enter Tryz.func14, Tryz.ntmps14
  go_wp2_with fail
  refine (implInitialDomain_any p _ _ (by exact S0.out.old HV.out) HK.out).mono ?_
  rintro e w1 ⟨u1, G1, rfl, o1, h1, b1⟩
  obtain ⟨X0, x0, X1, x1, X2, x2, rfl, _⟩ := rdDomain_t (Tr.own_rd _ _ _ o1)
  obtain ⟨F1, F2, F3, hS⟩ := (S0.out.new o1 h1 b1).undom
  have S1 := Lib.hid (hS.box 45 [.slice X0 (initD p).mn.length x0, .slice X1 (initD p).mx.length x1, .slice X2 (initD p).md.length x2])
  have S2 := Lib.hid (((S1.out.pick 3 rfl).pick 3 rfl).pick 3 rfl)
  simp only [List.eraseIdx_cons_succ, List.eraseIdx_cons_zero] at S2
  clear S0 o1 h1 b1 hS S1
  go_wp2_with fail
  generalize hd0 : initD p = d0 at S2 RES LN SZ0 NX ⊢
  clear hd0
  generalize w1.heap.size = gb at S2 ⊢
  go_loopw [12] (fun i wr => ∃ (k : Nat) (F3 : List Nat), k ≤ l.length ∧ i = .int .i64 k ∧ Sn w wr [⟨trI (agK d0 l k).mn, .slice X0 d0.mn.length x0, F1⟩, ⟨trI (agK d0 l k).mx, .slice X1 d0.mx.length x1, F2⟩, ⟨trSu (agK d0 l k).md, .slice X2 d0.md.length x2, F3⟩, boxI gb 45 [.slice X0 d0.mn.length x0, .slice X1 d0.mx.length x1, .slice X2 d0.md.length x2], boxI (w.heap.size + 1) 45 [.slice none 0 0, .slice none 0 0, .slice none 0 0], boxI w.heap.size 36 [.int .i64 p.dl, .slice A1 p.acts.length c1, .slice A2 p.lks.length c2, .slice A3 p.ress.length c3, .slice A4 p.stk.length c4]]) (fun i _ => l.length - (intOf i).toNat)
  case atStart => exact ⟨0, _, Nat.zero_le _, rfl, S2.out⟩
  case round =>
    obtain ⟨k, F4, hkl, rfl, hS⟩ := hrel
    have S3 := Lib.hid hS
    clear hS S2
    by_cases hlt : k < l.length
    · have hlt' : (k : Int) < (l.length : Int) := by omega
      obtain ⟨b, o, rfl, hb, hc⟩ := GA.out k hlt
      obtain ⟨y0, y1, y2⟩ := hc k hlt
      have hx0 := (S3.out.1.cell (p := ⟨b, o + k * 3, none⟩) hb).trans y0
      have hx1 := (S3.out.1.cell (p := ⟨b, o + k * 3 + 1, none⟩) hb).trans y1
      have hx2 := (S3.out.1.cell (p := ⟨b, o + k * 3 + 2, none⟩) hb).trans y2
      clear hc y0 y1 y2
      obtain ⟨n0, n1, n2⟩ := LN.out k hkl
      have hz := SZ0.out k hkl
      have NK := Lib.hid (NX.out k hlt)
      generalize agK d0 l k = d at S3 n0 n1 n2 hz NK
      have N0 := Lib.hid n0
      have N1 := Lib.hid n1
      have N2 := Lib.hid n2
      rw [← n0, ← n1, ← n2] at S3
      clear n0 n1 n2
      generalize l[k] = m at hx0 hx1 hx2 NK
      have S4 := Lib.hid (S3.out.box 56 [.int .i64 m.ki, .int .i64 m.ac, .int .i64 m.va])
      clear S3
      go_wp2_with fail
      refine (implNegate_any m _).mono ?_
      rintro e w4 ⟨rfl, b4⟩
      have S5 := Lib.hid ((S4.out.go b4).drop 0)
      simp only [List.eraseIdx_cons_zero] at S5
      clear S4 b4 hx0 hx1 hx2
      go_wp2_with fail
      refine (inPlace_any d (negL m) _ _ _ _ _ _ _ _ _ _ _ _ _ hz S5.out).mono ?_
      rintro e w5 ⟨rfl, F5, hS⟩
      have S6 := Lib.hid hS
      rw [N0.out, N1.out, N2.out] at S6
      rw [← NK.out] at S6
      clear hS S5
      go_wp2
      go_roundw
      case rel => exact ⟨k + 1, F5, by omega, by go_num, S6.out⟩
      case measure => simp [intOf]; omega
    · have hge : ¬ (k : Int) < (l.length : Int) := by omega
      obtain rfl : k = l.length := by omega
      obtain ⟨n0, n1, n2⟩ := LN.out _ (Nat.le_refl _)
      have N0 := Lib.hid n0
      have N1 := Lib.hid n1
      have N2 := Lib.hid n2
      clear n0 n1 n2
      obtain ⟨q0, q1, q2, qf⟩ := (S3.out.bk 4 rfl).c3
      obtain ⟨e0, e1, e2, ef⟩ := (S3.out.bk 3 rfl).c3
      have hgr : gb ≠ w.heap.size + 1 := fun e => S3.out.2.apart (i := 3) (j := 4) rfl rfl (by omega) gb (by simp [boxI]) (by simp [boxI, e])
      go_wp2
      have SZ := ((S3.out.boxSet 4 rfl 0 (.slice X0 d0.mn.length x0)).boxSet 4 rfl 1 (.slice X1 d0.mx.length x1)).boxSet 4 rfl 2 (.slice X2 d0.md.length x2)
      have P := SZ.nil0
      have P := (P.pick 3 rfl).pack
      have P := (P.pick 2 rfl).pack
      have P := (P.pick 1 rfl).pack
      refine bodyPost_ret (v := .agg #[.slice X0 d0.mn.length x0, .slice X1 d0.mx.length x1, .slice X2 d0.md.length x2]) (by simp [results, Tryz.results14, go_sem, q0, q1, q2]) rfl (by first | exact ⟨_, _, rfl, by rw [← RES.out]; exact (P.own 0 rfl).1, (P.own 0 rfl).2, SZ.1⟩ | exact ⟨_, by rw [← RES.out]; exact (P.own 0 rfl).1, (P.own 0 rfl).2, SZ.1⟩ | exact ⟨_, rfl, _, by rw [← RES.out]; exact (P.own 0 rfl).1, (P.own 0 rfl).2, SZ.1⟩)
set_option maxRecDepth 100000 in
set_option maxHeartbeats 8000000 in
theorem specAgainst_any (d : Dm) (l : List Lt) (v u : Value) (w : World) {BB : Nat} {GG : List Nat} (ho : (trDm d).own w BB v GG) (hsz : (trDm d).sz ≤ 1048576) (hl : (trLts l).rd w u) :
    Calls Tryz.prog 42 #[v, u] w fun e w' => ∃ r F, e = .returned r ∧ (trDm (agK d l l.length)).own w' w.heap.size r F ∧ F.Nodup ∧ Below w.heap.size w w' := by
  have HO := Lib.hid ho
  obtain ⟨D1, t1, D2, t2, D3, t3, rfl, _⟩ := rdDomain_t (Tr.own_rd _ _ _ ho)
  obtain ⟨hll, A, c, rfl, ga⟩ := rdLiteralS_t hl
  have GA := Lib.hid ga
  have SZ0 := Lib.hid (fun k h => Nat.le_trans (ag_sz d l k h) hsz)
  have NX := Lib.hid (fun k (h : k < l.length) => ag_succ (d := d) h)
  have CP := Lib.hid (fun w1 u1 G1 (h : (trDm d).own w1 BB u1 G1) => specCopyD_any d u1 w1 h hsz)
  clear ho hl ga
  have S0 := Lib.hid (((Sn.start w).box 45 [.slice D1 d.mn.length t1, .slice D2 d.mx.length t2, .slice D3 d.md.length t3]).box 45 [.slice none 0 0, .slice none 0 0, .slice none 0 0])
  simp only [World.size_alloc] at S0
  go_enter Tryz.func42, Tryz.ntmps42
  go_wp2_with fail
  refine (CP.out _ _ _ (Tr.own_below HO.out S0.out.1 (Nat.le_refl _))).mono ?_
  rintro e w1 ⟨u1, G1, rfl, o1, h1, b1⟩
  obtain ⟨X0, x0, X1, x1, X2, x2, rfl, _⟩ := rdDomain_t (Tr.own_rd _ _ _ o1)
  have S2 := Lib.hid (((S0.out.new o1 h1 b1).box 45 [.slice X0 d.mn.length x0, .slice X1 d.mx.length x1, .slice X2 d.md.length x2]).pick 1 rfl)
  simp only [List.eraseIdx_cons_succ, List.eraseIdx_cons_zero] at S2
  clear S0 o1 h1 b1 CP HO
  go_wp2_with fail
  generalize w1.heap.size = gb at S2 ⊢
  go_loopw [12] (fun i wr => ∃ (k : Nat) (X0 : Option Addr) (x0 : Nat) (X1 : Option Addr) (x1 : Nat) (X2 : Option Addr) (x2 : Nat) (F : List Nat), k ≤ l.length ∧ i = .int .i64 k ∧ Sn w wr [⟨trDm (agK d l k), .agg #[.slice X0 (agK d l k).mn.length x0, .slice X1 (agK d l k).mx.length x1, .slice X2 (agK d l k).md.length x2], F⟩, boxI gb 45 [.slice X0 (agK d l k).mn.length x0, .slice X1 (agK d l k).mx.length x1, .slice X2 (agK d l k).md.length x2], boxI (w.heap.size + 1) 45 [.slice none 0 0, .slice none 0 0, .slice none 0 0], boxI w.heap.size 45 [.slice D1 d.mn.length t1, .slice D2 d.mx.length t2, .slice D3 d.md.length t3]]) (fun i _ => l.length - (intOf i).toNat)
  case atStart => exact ⟨0, X0, x0, X1, x1, X2, x2, _, Nat.zero_le _, rfl, S2.out⟩
  case round =>
    clear S2
    obtain ⟨k, X0, x0, X1, x1, X2, x2, F4, hkl, rfl, hS⟩ := hrel
    have S3 := Lib.hid hS
    clear hS
    by_cases hlt : k < l.length
    · have hlt' : (k : Int) < (l.length : Int) := by omega
      obtain ⟨b, o, rfl, hb, hc⟩ := GA.out k hlt
      obtain ⟨y0, y1, y2⟩ := hc k hlt
      have hx0 := (S3.out.1.cell (p := ⟨b, o + k * 3, none⟩) hb).trans y0
      have hx1 := (S3.out.1.cell (p := ⟨b, o + k * 3 + 1, none⟩) hb).trans y1
      have hx2 := (S3.out.1.cell (p := ⟨b, o + k * 3 + 2, none⟩) hb).trans y2
      clear hc y0 y1 y2
      have hz := SZ0.out k hkl
      have NK := Lib.hid (NX.out k hlt)
      generalize agK d l k = dk at S3 hz NK
      generalize l[k] = m at hx0 hx1 hx2 NK
      have S4 := Lib.hid (S3.out.box 56 [.int .i64 m.ki, .int .i64 m.ac, .int .i64 m.va])
      clear S3
      go_wp2_with fail
      obtain ⟨q0, q1, q2, qf⟩ := (S4.out.bk 2 rfl).c3
      obtain ⟨p0, p1, p2, pf⟩ := (S4.out.bk 0 rfl).c3
      have hlq := (S4.out.bk 2 rfl).lt
      have hlp := (S4.out.bk 0 rfl).lt
      generalize hgx : wr.heap.size = gx at S4 p0 p1 p2 pf hlp ⊢
      generalize World.alloc wr _ = wx at S4 q0 q1 q2 qf p0 p1 p2 pf hlp hlq ⊢
      clear hgx hx0 hx1 hx2
      have S5 := Lib.hid S4.out.drew1
      have CE := Lib.hid (fun (W : World) (h : Wr [] wx.drew W) => show Hid (Wr [] wx.drew W) ∧ W.cell? ⟨gb, 0, none⟩ = some (.slice X0 dk.mn.length x0) ∧ W.cell? ⟨gb, 1, none⟩ = some (.slice X1 dk.mx.length x1) ∧ W.cell? ⟨gb, 2, none⟩ = some (.slice X2 dk.md.length x2) ∧ W.cell? ⟨gx, 0, none⟩ = some (.int .i64 m.ki) ∧ W.cell? ⟨gx, 1, none⟩ = some (.int .i64 m.ac) ∧ W.cell? ⟨gx, 2, none⟩ = some (.int .i64 m.va) from ⟨Lib.hid h, (wr_cell h (p := ⟨gb, 0, none⟩) hlq (by simp)).trans (by exact by simpa using q0), (wr_cell h (p := ⟨gb, 1, none⟩) hlq (by simp)).trans (by exact by simpa using q1), (wr_cell h (p := ⟨gb, 2, none⟩) hlq (by simp)).trans (by exact by simpa using q2), (wr_cell h (p := ⟨gx, 0, none⟩) hlp (by simp)).trans (by exact by simpa using p0), (wr_cell h (p := ⟨gx, 1, none⟩) hlp (by simp)).trans (by exact by simpa using p1), (wr_cell h (p := ⟨gx, 2, none⟩) hlp (by simp)).trans (by exact by simpa using p2)⟩)
      have INIT := Lib.hid (CE.out _ (Wr.refl _ _))
      have KW := Lib.hid (fun (W2 W : World) (hb : Wr [] W W2) (h : Hid (Wr [] wx.drew W) ∧ W.cell? ⟨gb, 0, none⟩ = some (.slice X0 dk.mn.length x0) ∧ W.cell? ⟨gb, 1, none⟩ = some (.slice X1 dk.mx.length x1) ∧ W.cell? ⟨gb, 2, none⟩ = some (.slice X2 dk.md.length x2) ∧ W.cell? ⟨gx, 0, none⟩ = some (.int .i64 m.ki) ∧ W.cell? ⟨gx, 1, none⟩ = some (.int .i64 m.ac) ∧ W.cell? ⟨gx, 2, none⟩ = some (.int .i64 m.va)) => CE.out W2 (h.1.out.trans hb))
      clear q0 q1 q2 qf p0 p1 p2 pf hlp hlq S4
      refine wpAnyZ_start 4 (fun W => Hid (Wr [] wx.drew W) ∧ W.cell? ⟨gb, 0, none⟩ = some (.slice X0 dk.mn.length x0) ∧ W.cell? ⟨gb, 1, none⟩ = some (.slice X1 dk.mx.length x1) ∧ W.cell? ⟨gb, 2, none⟩ = some (.slice X2 dk.md.length x2) ∧ W.cell? ⟨gx, 0, none⟩ = some (.int .i64 m.ki) ∧ W.cell? ⟨gx, 1, none⟩ = some (.int .i64 m.ac) ∧ W.cell? ⟨gx, 2, none⟩ = some (.int .i64 m.va)) (by kernel_rfl) INIT.out (fun hHeld => ?_)
      clear CE INIT
      generalize hwd : wx.drew = wd at S5 KW hHeld ⊢
      clear hwd
      refine wpAnyZ_take (i := 0) (v := ?_) rfl (by kernel_rfl) (by kernel_rfl) (by kernel_rfl) (fun _ _ _ h => h) (Or.inl ⟨by rfl, ?_⟩) (by assumption) ?_
      rotate_left
      · (intro W hSw; (try dsimp only at hSw); go_simp <;> with_reducible rfl)
      (try simp only [Act.put])
      refine wpAnyZ_take (i := 1) (v := ?_) rfl (by kernel_rfl) (by kernel_rfl) (by kernel_rfl) (fun _ _ _ h => h) (Or.inl ⟨by rfl, ?_⟩) (by assumption) ?_
      rotate_left
      · (intro W hSw; (try dsimp only at hSw); go_simp <;> with_reducible rfl)
      (try simp only [Act.put])
      refine wpAnyZ_one (i := 2) (by kernel_rfl) rfl (fun K hK => ?_)
      go_simp
      go_at_call 78
      refine (specNegate_any m _).mono ?_
      rintro e w2 ⟨rfl, bb7⟩
      (first | done | go_wp2_with fail)
      refine hK.out _ _ (KW.out _ _ (Wr.of_below bb7 (Nat.le_refl _)) hHeld) (fun hHeld2 => ?_)
      clear hK K
      have S6 := Lib.hid (S5.out.go bb7)
      clear S5 bb7
      refine wpAnyZ_one (i := 3) (by kernel_rfl) rfl (fun K hK => ?_)
      go_simp
      go_at_call 77
      refine (specRestrict_any dk (negL m) _ _ (by exact (S6.out.own 1 rfl).1) hz).mono ?_
      rintro e w3 ⟨v7, F7, rfl, o7, h7, bb8⟩
      (first | done | go_wp2_with fail)
      refine hK.out _ _ (KW.out _ _ (Wr.of_below bb8 (Nat.le_refl _)) hHeld2) (fun hHeld3 => ?_)
      clear hK K
      obtain ⟨Y0, y0, Y1, y1, Y2, y2, rfl, _⟩ := rdDomain_t (Tr.own_rd _ _ _ o7)
      have S7 := Lib.hid (S6.out.new o7 h7 bb8)
      clear S6 o7 h7 bb8
      obtain ⟨e0, e1, e2, ef⟩ := (S7.out.bk 3 rfl).c3
      refine wpAnyZ_last (by kernel_rfl) (by kernel_rfl) rfl (fun K hK => ?_)
      go_simp
      refine hK.out _ _ ?_
      clear hK K
      have S8 := Lib.hid (((((S7.out.boxSet 3 rfl 0 (.slice Y0 (restD dk (negL m)).mn.length y0)).boxSet 3 rfl 1 (.slice Y1 (restD dk (negL m)).mx.length y1)).boxSet 3 rfl 2 (.slice Y2 (restD dk (negL m)).md.length y2)).drop 1).drop 1)
      simp only [List.set_cons_zero, List.set_cons_succ, List.eraseIdx_cons_succ, List.eraseIdx_cons_zero] at S8
      go_wp2
      go_roundw
      case rel => exact ⟨k + 1, Y0, y0, Y1, y1, Y2, y2, F7, by omega, by go_num, by rw [NK.out]; exact S8.out⟩
      case measure => simp [intOf]; omega
    · have hge : ¬ (k : Int) < (l.length : Int) := by omega
      obtain rfl : k = l.length := by omega
      obtain ⟨q0, q1, q2, qf⟩ := (S3.out.bk 2 rfl).c3
      obtain ⟨e0, e1, e2, ef⟩ := (S3.out.bk 1 rfl).c3
      have hgr : gb ≠ w.heap.size + 1 := fun e => S3.out.2.apart (i := 1) (j := 2) rfl rfl (by omega) gb (by simp [boxI]) (by simp [boxI, e])
      go_wp2
      have SZ := ((S3.out.boxSet 2 rfl 0 (.slice X0 (agK d l l.length).mn.length x0)).boxSet 2 rfl 1 (.slice X1 (agK d l l.length).mx.length x1)).boxSet 2 rfl 2 (.slice X2 (agK d l l.length).md.length x2)
      refine bodyPost_ret (v := .agg #[.slice X0 (agK d l l.length).mn.length x0, .slice X1 (agK d l l.length).mx.length x1, .slice X2 (agK d l l.length).md.length x2]) (by simp [results, Tryz.results42, go_sem, q0, q1, q2]) rfl (by first | exact ⟨_, _, rfl, (SZ.own 0 rfl).1, (SZ.own 0 rfl).2, SZ.1⟩ | exact ⟨_, (SZ.own 0 rfl).1, (SZ.own 0 rfl).2, SZ.1⟩ | exact ⟨_, rfl, _, (SZ.own 0 rfl).1, (SZ.own 0 rfl).2, SZ.1⟩)
theorem init1_sz {p : Pj} (h : pokB p = true) : (trDm (init1 p)).sz ≤ 1048576 := by
  have := init_sz p
  rw [init_yes h] at this
  omega
set_option maxRecDepth 100000 in
set_option maxHeartbeats 8000000 in
theorem specNegatedDomain_any (p : Pj) (l : List Lt) (v u : Value) (w : World) (hv : (trPj p).rd w v) (hk : (trPj p).ok) (hl : (trLts l).rd w u) :
    Calls Tryz.prog 13 #[v, u] w fun e w' => ∃ r F, e = .returned r ∧ (trDm (negDm p l)).own w' w.heap.size r F ∧ F.Nodup ∧ Below w.heap.size w w' := by
  have HV := Lib.hid hv
  obtain ⟨A1, c1, A2, c2, A3, c3, A4, c4, rfl, _⟩ := rdProject_t hv
  have HK := Lib.hid hk
  have HL := Lib.hid hl
  obtain ⟨A, c, rfl⟩ := rdT_slice hl
  clear hv hk hl
  have S0 := Lib.hid (((Sn.start w).box 36 [.int .i64 p.dl, .slice A1 p.acts.length c1, .slice A2 p.lks.length c2, .slice A3 p.ress.length c3, .slice A4 p.stk.length c4]).box 45 [.slice none 0 0, .slice none 0 0, .slice none 0 0])
  simp only [World.size_alloc] at S0
  go_enter Tryz.func13, Tryz.ntmps13
  go_wp2_with fail
  refine (specProjectOk_any p _ _ (by exact S0.out.old HV.out) HK.out).mono ?_
  rintro e w1 ⟨rfl, b⟩
  have S1 := Lib.hid (S0.out.go b)
  clear S0 b
  rcases hok : pokB p with _ | _
  · have HR := Lib.hid (negDm_no (l := l) hok)
    clear hok
    obtain ⟨q0, q1, q2, qf⟩ := (S1.out.bk 0 rfl).c3
    go_wp2
    have SZ := ((S1.out.boxSet 0 rfl 0 (.slice none 0 0)).boxSet 0 rfl 1 (.slice none 0 0)).boxSet 0 rfl 2 (.slice none 0 0)
    have P := (((SZ.nil0.nilR 25 1 cellsI1).pack.nilI).pack.nilI).pack
    refine bodyPost_ret (v := .agg #[.slice none 0 0, .slice none 0 0, .slice none 0 0]) (by simp [results, Tryz.results13, go_sem, q0, q1, q2]) rfl (by first | exact ⟨_, _, rfl, by rw [HR.out]; exact (P.own 0 rfl).1, (P.own 0 rfl).2, SZ.1⟩ | exact ⟨_, by rw [HR.out]; exact (P.own 0 rfl).1, (P.own 0 rfl).2, SZ.1⟩ | exact ⟨_, rfl, _, by rw [HR.out]; exact (P.own 0 rfl).1, (P.own 0 rfl).2, SZ.1⟩)
  have HR := Lib.hid (show agK (init1 p) l l.length = negDm p l by rw [← init_yes hok]; exact neg_all p l)
  have HOK := Lib.hid hok
  clear hok
  obtain ⟨e0, e1, e2, e3, e4, ef⟩ := (S1.out.bk 1 rfl).c5
  go_wp2_with fail
  clear e0 e1 e2 e3 e4 ef
  refine (specL12Of_any p _ _ (by exact S1.out.old HV.out) HK.out HOK.out).mono ?_
  rintro e w2 ⟨u2, F2, rfl, o2, h2, b2⟩
  have S2 := Lib.hid (S1.out.new o2 h2 b2)
  clear o2 h2 b2 S1
  go_wp2_with fail
  refine (specAgainst_any (init1 p) l _ _ _ (by exact (S2.out.own 0 rfl).1) (init1_sz HOK.out) (by exact S2.out.old HL.out)).mono ?_
  rintro e w3 ⟨u3, F3, rfl, o3, h3, b3⟩
  rw [HR.out] at o3
  obtain ⟨X0, x0, X1, x1, X2, x2, rfl, _⟩ := rdDomain_t (Tr.own_rd _ _ _ o3)
  have S3 := Lib.hid (S2.out.new o3 h3 b3)
  clear o3 h3 b3 S2
  obtain ⟨q0, q1, q2, qf⟩ := (S3.out.bk 2 rfl).c3
  go_wp2
  have SZ := ((S3.out.boxSet 2 rfl 0 (.slice X0 (negDm p l).mn.length x0)).boxSet 2 rfl 1 (.slice X1 (negDm p l).mx.length x1)).boxSet 2 rfl 2 (.slice X2 (negDm p l).md.length x2)
  refine bodyPost_ret (v := .agg #[.slice X0 (negDm p l).mn.length x0, .slice X1 (negDm p l).mx.length x1, .slice X2 (negDm p l).md.length x2]) (by simp [results, Tryz.results13, go_sem, q0, q1, q2]) rfl (by first | exact ⟨_, _, rfl, (SZ.own 0 rfl).1, (SZ.own 0 rfl).2, SZ.1⟩ | exact ⟨_, (SZ.own 0 rfl).1, (SZ.own 0 rfl).2, SZ.1⟩ | exact ⟨_, rfl, _, (SZ.own 0 rfl).1, (SZ.own 0 rfl).2, SZ.1⟩)
end Go.Proofs.YtgbpomakomddjabGreat
