/- DERIVED. CONTRACTS of chapter 10: UsageAt of the program (by a row of all times) and of the model. -/
import Derived.Test.YtaglfdkeomjpdabScG
import Derived.Test.YtaglfdkeomjpdabElm
import Derived.Test.YtaglfdkeomjpdabRegZ
namespace Go.Proofs.Ytaglfdkeomjpdab
open Go.RowKit Go.Shelf
set_option linter.unusedVariables false

/-- The row behind k activities, and j times of the next. -/
def rowJ (p : Pj) (s : Sc) (r k j : Nat) : List Int := (List.range 72).map fun (t : Nat) => useK p s r (t : Int) k + if stA s k ≤ (t : Int) ∧ (t : Int) < stA s k + (j : Int) then usA p s r k else 0
def rowK (p : Pj) (s : Sc) (r k : Nat) : List Int := (List.range 72).map fun (t : Nat) => useK p s r (t : Int) k
theorem rowJ_len (p : Pj) (s : Sc) (r k j : Nat) : (rowJ p s r k j).length = 72 := by simp [rowJ]
theorem rowK_len (p : Pj) (s : Sc) (r k : Nat) : (rowK p s r k).length = 72 := by simp [rowK]
theorem rowK_zero (p : Pj) (s : Sc) (r : Nat) : rowK p s r 0 = List.replicate 72 0 := by
  apply List.ext_getElem
  · simp [rowK]
  · intro i h1 h2
    rw [List.getElem_replicate]
    simp only [rowK, List.getElem_map, useK]
theorem rowJ_zero (p : Pj) (s : Sc) (r k : Nat) : rowJ p s r k 0 = rowK p s r k := by
  unfold rowJ rowK
  apply List.map_congr_left
  intro t _
  rw [if_neg (by omega)]
  exact Int.add_zero _
theorem rowJ_next {p : Pj} {s : Sc} {r k j x : Nat} (hx : stA s k = (x : Int)) (hl : x + j < 72) : (rowJ p s r k j).set (x + j) (useK p s r ((x + j : Nat) : Int) k + usA p s r k) = rowJ p s r k (j + 1) := by
  apply List.ext_getElem
  · simp [rowJ]
  · intro i h1 h2
    rw [List.getElem_set]
    simp only [rowJ, List.getElem_map, List.getElem_range, hx]
    by_cases h : x + j = i
    · subst h
      rw [if_pos rfl, if_pos (by omega)]
    · rw [if_neg h]
      by_cases h3 : (x : Int) ≤ (i : Int) ∧ (i : Int) < (x : Int) + (j : Int)
      · rw [if_pos h3, if_pos (by omega)]
      · rw [if_neg h3, if_neg (by omega)]
theorem rowJ_at {p : Pj} {s : Sc} {r k j x : Nat} (hx : stA s k = (x : Int)) (hl : x + j < 72) : (rowJ p s r k j)[x + j]'(by rw [rowJ_len]; exact hl) = useK p s r ((x + j : Nat) : Int) k := by
  simp only [rowJ, List.getElem_map, List.getElem_range, hx]
  rw [if_neg (by omega), Int.add_zero]
theorem rowJ_full {p : Pj} {s : Sc} {r k y : Nat} (hy : (mdA p s k).du = (y : Int)) : rowJ p s r k y = rowK p s r (k + 1) := by
  unfold rowJ rowK
  apply List.map_congr_left
  intro t _
  rw [useK]
  congr 1
  unfold runA endA
  rw [hy]
  simp only [Bool.and_eq_true, decide_eq_true_eq]
theorem use_far {p : Pj} {s : Sc} {r : Nat} {t : Int} (h : Form p s) (ht : ¬ (0 ≤ t ∧ t < 72)) : ∀ k, k ≤ p.acts.length → useK p s r t k = 0
  | 0, _ => rfl
  | k + 1, hk => by
    have i := use_far (r := r) h ht k (by omega)
    have a := h.st k (by omega)
    have b := h.en (a := k) (by omega)
    have hr : runA p s t k = false := by
      by_cases e : stA s k ≤ t
      · exact runA_hi (by omega)
      · exact runA_lo e
    rw [useK_no hr, i]
theorem amt_row {p : Pj} {s : Sc} {r n : Nat} {t : Int} (h : Form p s) (hn : n ≤ p.acts.length) : ((amtB (rowK p s r n) t).getD 0) = useK p s r t n := by
  by_cases ht : 0 ≤ t ∧ t < 72
  · obtain ⟨x, rfl⟩ : ∃ x : Nat, t = (x : Int) := ⟨t.toNat, by omega⟩
    rw [amt_yes (by rw [rowK_len]; omega)]
    simp [rowK]
  · rw [amt_no (by rw [rowK_len]; exact ht), use_far h ht n hn]
    rfl

set_option maxRecDepth 100000 in
set_option maxHeartbeats 8000000 in
theorem usageRow_any (p : Pj) (s : Sc) (r : Nat) (v u : Value) (w : World) (hv : (trPj p).rd w v) (hs : (trSc s).rd w u) (hf : Form p s) (hr : r < p.ress.length) :
    Calls Try.prog 54 #[v, u, .int .i64 (r : Int)] w fun e w' => ∃ u F, e = .returned u ∧ (trI (rowK p s r p.acts.length)).own w' w.heap.size u F ∧ F.Nodup ∧ Below w.heap.size w w' := by
  have HV := Lib.hid hv
  obtain ⟨A1, c1, A2, c2, A3, c3, A4, c4, rfl, _⟩ := rdProject_t hv
  clear hv
  have HQ := Lib.hid hs
  obtain ⟨E1, f1, E2, f2, rfl, q1, q2⟩ := rdSchedule_t hs
  obtain ⟨ht1, B8, d8, he, x1⟩ := rdI (rd_flat q1)
  injection he with he _ he2
  subst he he2
  have X1 := Lib.hid x1
  obtain ⟨ht2, B9, d9, he, x2⟩ := rdI (rd_flat q2)
  injection he with he _ he2
  subst he he2
  have X2 := Lib.hid x2
  clear hs q1 q2 x1 x2
  have S0 := Lib.hid (((Sn.start w).box 34 [.int .i64 p.dl, .slice A1 p.acts.length c1, .slice A2 p.lks.length c2, .slice A3 p.ress.length c3, .slice A4 p.stk.length c4]).box 41 [.slice E1 s.st.length f1, .slice E2 s.mo.length f2])
  simp only [World.size_alloc] at S0
  go_enter Try.func54, Try.ntmps54
  have h6 := hf.n6
  have H1 := Lib.hid hf.h1
  have HF := Lib.hid hf
  rw [H1.out] at HQ S0 ⊢
  obtain ⟨q0, q1, qf⟩ := (S0.out.bk 0 rfl).c2
  obtain ⟨i0, hi0, hz0, hz1, hz2⟩ := info_parts infoInt
  clear hf
  go_wp2_with (at_make; refine wpList_make_full _ rfl _ _ 25 rfl (World.alloc (World.alloc w (.cells #[.int .i64 p.dl, .slice A1 p.acts.length c1, .slice A2 p.lks.length c2, .slice A3 p.ress.length c3, .slice A4 p.stk.length c4] 34)) (.cells #[.slice E1 p.acts.length f1, .slice E2 s.mo.length f2] 41)).heap.size 3 i0 (.int .i64 0) 1 Try.underlying25 hi0 hz0 hz1 .i64 .i64 _ _ 72 rfl rfl rfl (by simp) (by rw [hz2]; omega) (by unfold maxLen; omega) (Nat.le_refl _) ?_; intro w1 hown1 hgrow1; have S1 := Lib.hid (S0.out.newI hown1 ((Below.refl _ _).grown hgrow1 (Nat.le_refl _) (by simp))); clear q0 q1 qf hown1 hgrow1 S0; obtain ⟨q0, q1, qf⟩ := (S1.out.bk 1 rfl).c2)
  clear q0 q1 qf
  simp only [World.size_alloc] at S1 ⊢
  rw [show (madeCells (Value.int .i64 0).cells (72 * 1)).toList = (rowK p s r 0).map (.int .i64) from by rw [rowK_zero]; kernel_rfl] at S1
  generalize w.heap.size + 1 + 1 = g at S1 ⊢
  go_loopw [18] (fun i wr => ∃ k : Nat, k ≤ p.acts.length ∧ i = .int .i64 k ∧ Sn w wr [⟨trI (rowK p s r k), .slice (some ⟨g, 0, none⟩) 72 72, [g]⟩, boxI (w.heap.size + 1) 41 [.slice E1 p.acts.length f1, .slice E2 s.mo.length f2], boxI w.heap.size 34 [.int .i64 p.dl, .slice A1 p.acts.length c1, .slice A2 p.lks.length c2, .slice A3 p.ress.length c3, .slice A4 p.stk.length c4]]) (fun i _ => p.acts.length - (intOf i).toNat)
  case atStart => exact ⟨0, Nat.zero_le _, rfl, S1.out⟩
  case round =>
    obtain ⟨k, hkl, rfl, hS⟩ := hrel
    have S2 := Lib.hid hS
    clear hS S1
    by_cases hlt : k < p.acts.length
    · have hlt' : (k : Int) < (p.acts.length : Int) := by omega
      have k0 : (0 : Int) ≤ (k : Int) := by omega
      obtain ⟨b8, o8, rfl, hb8, hc8⟩ := X1.out k (by rw [H1.out]; exact hlt)
      have y8 := (S2.out.1.cell (p := ⟨b8, o8 + k, none⟩) hb8).trans (hc8 k (by rw [H1.out]; exact hlt))
      rw [← stA_at] at y8
      have hst := HF.out.st k hlt
      have hdu := HF.out.du hlt
      have hus := HF.out.us hlt hr
      obtain ⟨x, hx⟩ : ∃ x : Nat, stA s k = (x : Int) := ⟨(stA s k).toNat, by omega⟩
      obtain ⟨y, hy⟩ : ∃ y : Nat, (mdA p s k).du = (y : Int) := ⟨(mdA p s k).du.toNat, by omega⟩
      rw [hx] at y8 hst
      rw [hy] at hdu
      obtain ⟨e0, e1, e2, e3, e4, ef⟩ := (S2.out.bk 2 rfl).c5
      obtain ⟨q0, q1, qf⟩ := (S2.out.bk 1 rfl).c2
      clear hc8
      go_wp2_with fail
      clear e0 e1 e2 e3 e4 ef
      clear q0 q1 qf
      clear y8
      refine (implMode_at p s k _ _ w _ (by exact S2.out.1) (by exact HV.out) (by exact HQ.out) HF.out hlt).mono ?_
      rintro e w2 ⟨M1, m1, M2, m2, rfl, rm, b⟩
      obtain ⟨N1, n1, N2, n2, he, ru, _⟩ := rdMode_t rm
      obtain ⟨rfl, rfl⟩ : M1 = N1 ∧ m1 = n1 := by
        injection he with he
        injection he with he
        simp at he
        exact ⟨he.1.1, he.1.2⟩
      obtain ⟨hlu, N, n, he, gu⟩ := rdI (rd_flat ru)
      injection he with he _ he2
      subst he he2
      obtain ⟨b7, o7, rfl, hb7, hc7⟩ := gu r (by rw [hus.1]; exact hr)
      have y7 := hc7 r (by rw [hus.1]; exact hr)
      have hua : (mdA p s k).us[r]'(by rw [hus.1]; exact hr) = usA p s r k := by simp [usA, List.getD, List.getElem?_eq_getElem (show r < (mdA p s k).us.length by rw [hus.1]; exact hr)]
      rw [hua] at y7
      have S3 := Lib.hid ((S2.out.go b).box 160 [.int .i64 (mdA p s k).du, .slice (some ⟨b7, o7, none⟩) (mdA p s k).us.length m1, .slice M2 (mdA p s k).co.length m2])
      rw [hy] at S3 ⊢
      have hw : IntKind.i64.wrap ((x : Int) + (y : Int)) = ((x + y : Nat) : Int) := by rw [IntKind.wrap_i64]; omega
      have a1 : (x : Int) ≤ ((x + y : Nat) : Int) := by omega
      have a2 : ((x + y : Nat) : Int) ≤ 72 := by omega
      have a3 : (0 : Int) ≤ (x : Int) := by omega
      have hw2 : IntKind.i64.wrap (((x + y : Nat) : Int) - (x : Int)) = (y : Int) := by rw [IntKind.wrap_i64]; omega
      have HUS := Lib.hid hus
      clear S2 b rm hc7 hua hus
      go_wp2_with fail
      simp only [Nat.add_sub_cancel_left]
      generalize w2.heap.size = gm at S3 ⊢
      generalize World.alloc w2 _ = w3 at S3 ⊢
      rw [← rowJ_zero] at S3
      go_loopw [38] (fun i wr => ∃ j : Nat, j ≤ y ∧ i = .int .i64 j ∧ Sn w wr [boxI gm 160 [.int .i64 (y : Int), .slice (some ⟨b7, o7, none⟩) (mdA p s k).us.length m1, .slice M2 (mdA p s k).co.length m2], ⟨trI (rowJ p s r k j), .slice (some ⟨g, 0, none⟩) 72 72, [g]⟩, boxI (w.heap.size + 1) 41 [.slice (some ⟨b8, o8, none⟩) p.acts.length f1, .slice E2 s.mo.length f2], boxI w.heap.size 34 [.int .i64 p.dl, .slice A1 p.acts.length c1, .slice A2 p.lks.length c2, .slice A3 p.ress.length c3, .slice A4 p.stk.length c4]]) (fun i _ => y - (intOf i).toNat)
      case atStart => exact ⟨0, Nat.zero_le _, rfl, S3.out⟩
      case round =>
        obtain ⟨j, hjl, rfl, hS⟩ := hrel
        have S4 := Lib.hid hS
        clear hS S3
        by_cases hlt2 : j < y
        · have hlt2' : (j : Int) < (y : Int) := by omega
          have j0 : (0 : Int) ≤ (j : Int) := by omega
          have r0 : (0 : Int) ≤ (r : Int) := by omega
          have hrl : (r : Int) < ((mdA p s k).us.length : Int) := by rw [HUS.out.1]; omega
          have hub := HUS.out.2
          have hxj : x + j < 72 := by omega
          have NX := Lib.hid (rowJ_next (p := p) (r := r) hx hxj)
          have hat := rowJ_at (p := p) (r := r) hx hxj
          have huse := useK_hi (t := ((x + j : Nat) : Int)) HF.out hr k hkl
          have P4 := S4.out.pick 1 rfl
          have hc4 := (show Sn w wr (⟨trI (rowJ p s r k j), .slice (some ⟨g, 0, none⟩) (rowJ p s r k j).length 72, [g]⟩ :: _) from by rw [rowJ_len]; exact P4).cellI (i := x + j) (by rw [rowJ_len]; exact hxj)
          rw [hat] at hc4
          have y7' := (S4.out.1.cell (p := ⟨b7, o7 + r, none⟩) hb7).trans y7
          obtain ⟨e0, e1, e2, ef⟩ := (S4.out.bk 0 rfl).c3
          generalize (mdA p s k).us.length = nu at S4 e1 hrl ⊢
          generalize (mdA p s k).co.length = nc at S4 e2 ⊢
          generalize hu2 : useK p s r ((x + j : Nat) : Int) k = uu at hc4 NX huse
          generalize hu3 : usA p s r k = ua at y7' NX hub
          have hw3 : IntKind.i64.wrap (uu + ua) = uu + ua := by rw [IntKind.wrap_i64]; omega
          clear hat hu2 hu3
          go_wp2_with fail
          have hgl := (S4.out.bk 0 rfl).lt
          have hg2 := (Tr.own_lt _ _ _ (S4.out.own 1 rfl).1 g (by simp)).2
          have hz4 := S4.out.1.size
          have S5 := Lib.hid S4.out.drew1
          have CE := Lib.hid (fun (W : World) (h : Wr [] wr.drew W) => show Hid (Wr [] wr.drew W) ∧ W.cell? ⟨g, x + j, none⟩ = some (.int .i64 uu) ∧ W.cell? ⟨gm, 1, none⟩ = some (.slice (some ⟨b7, o7, none⟩) nu m1) ∧ W.cell? ⟨b7, o7 + r, none⟩ = some (.int .i64 ua) from ⟨Lib.hid h, (wr_cell h (p := ⟨g, x + j, none⟩) hg2 (by simp)).trans (by exact by simpa using hc4.1), (wr_cell h (p := ⟨gm, 1, none⟩) hgl (by simp)).trans (by exact by simpa using e1), (wr_cell h (p := ⟨b7, o7 + r, none⟩) (by show b7 < _; simp; omega) (by simp)).trans (by exact by simpa using y7')⟩)
          have INIT := Lib.hid (CE.out _ (Wr.refl _ _))
          have KW := Lib.hid (fun (W2 W : World) (hb : Wr [] W W2) (h : Hid (Wr [] wr.drew W) ∧ W.cell? ⟨g, x + j, none⟩ = some (.int .i64 uu) ∧ W.cell? ⟨gm, 1, none⟩ = some (.slice (some ⟨b7, o7, none⟩) nu m1) ∧ W.cell? ⟨b7, o7 + r, none⟩ = some (.int .i64 ua)) => CE.out W2 (h.1.out.trans hb))
          clear hc4 y7' e0 e1 e2 ef P4
          refine wpAnyZ_start 11 (fun W => Hid (Wr [] wr.drew W) ∧ W.cell? ⟨g, x + j, none⟩ = some (.int .i64 uu) ∧ W.cell? ⟨gm, 1, none⟩ = some (.slice (some ⟨b7, o7, none⟩) nu m1) ∧ W.cell? ⟨b7, o7 + r, none⟩ = some (.int .i64 ua)) (by kernel_rfl) INIT.out (fun hHeld => ?_)
          clear CE KW INIT
          generalize wr.drew = wd at S5 hHeld ⊢
          refine wpAnyZ_take (i := 0) (v := ?_) rfl (by kernel_rfl) (by kernel_rfl) (by kernel_rfl) (fun _ _ _ h => h) (Or.inl ⟨by rfl, ?_⟩) (by assumption) ?_
          rotate_left
          · (intro W hSw; (try dsimp only at hSw); go_simp <;> with_reducible rfl)
          (try simp only [Act.put])
          refine wpAnyZ_take (i := 1) (v := ?_) rfl (by kernel_rfl) (by kernel_rfl) (by kernel_rfl) (fun _ _ _ h => h) (Or.inl ⟨by rfl, ?_⟩) (by assumption) ?_
          rotate_left
          · (intro W hSw; (try dsimp only at hSw); go_simp <;> with_reducible rfl)
          (try simp only [Act.put])
          refine wpAnyZ_take (i := 2) (v := ?_) rfl (by kernel_rfl) (by kernel_rfl) (by kernel_rfl) (fun _ _ _ h => h) (Or.inl ⟨by rfl, ?_⟩) (by assumption) ?_
          rotate_left
          · (intro W hSw; (try dsimp only at hSw); go_simp <;> with_reducible rfl)
          (try simp only [Act.put])
          refine wpAnyZ_take (i := 3) (v := ?_) rfl (by kernel_rfl) (by kernel_rfl) (by kernel_rfl) (fun _ _ _ h => h) (Or.inl ⟨by rfl, ?_⟩) (by assumption) ?_
          rotate_left
          · (intro W hSw; (try dsimp only at hSw); go_simp <;> with_reducible rfl)
          (try simp only [Act.put])
          refine wpAnyZ_take (i := 4) (v := ?_) rfl (by kernel_rfl) (by kernel_rfl) (by kernel_rfl) (fun _ _ _ h => h) (Or.inl ⟨by rfl, ?_⟩) (by assumption) ?_
          rotate_left
          · (intro W hSw; (try dsimp only at hSw); go_simp <;> with_reducible rfl)
          (try simp only [Act.put])
          refine wpAnyZ_take (i := 5) (v := ?_) rfl (by kernel_rfl) (by kernel_rfl) (by kernel_rfl) (fun _ _ _ h => h) (Or.inl ⟨by rfl, ?_⟩) (by assumption) ?_
          rotate_left
          · (intro W hSw; (try dsimp only at hSw); go_simp <;> with_reducible rfl)
          (try simp only [Act.put])
          refine wpAnyZ_take (i := 6) (v := ?_) rfl (by kernel_rfl) (by kernel_rfl) (by kernel_rfl) (fun _ _ _ h => h) (Or.inl ⟨by rfl, ?_⟩) (by assumption) ?_
          rotate_left
          · (intro W hSw; (try dsimp only at hSw); go_simp <;> with_reducible rfl)
          (try simp only [Act.put])
          refine wpAnyZ_take (i := 7) (v := ?_) rfl (by kernel_rfl) (by kernel_rfl) (by kernel_rfl) (fun _ _ _ h => h) (Or.inl ⟨by rfl, ?_⟩) (by assumption) ?_
          rotate_left
          · (intro W hSw; (try dsimp only at hSw); go_simp <;> with_reducible rfl)
          (try simp only [Act.put])
          refine wpAnyZ_take (i := 8) (v := ?_) rfl (by kernel_rfl) (by kernel_rfl) (by kernel_rfl) (fun _ _ _ h => h) (Or.inl ⟨by rfl, ?_⟩) (by assumption) ?_
          rotate_left
          · (intro W hSw; (try dsimp only at hSw); go_simp <;> with_reducible rfl)
          (try simp only [Act.put])
          refine wpAnyZ_take (i := 9) (v := ?_) rfl (by kernel_rfl) (by kernel_rfl) (by kernel_rfl) (fun _ _ _ h => h) (Or.inl ⟨by rfl, ?_⟩) (by assumption) ?_
          rotate_left
          · (intro W hSw; (try dsimp only at hSw); go_simp <;> with_reducible rfl)
          (try simp only [Act.put])
          refine wpAnyZ_take (i := 10) (v := ?_) rfl (by kernel_rfl) (by kernel_rfl) (by kernel_rfl) (fun _ _ _ h => h) (Or.inl ⟨by rfl, ?_⟩) (by assumption) ?_
          rotate_left
          · (intro W hSw; (try dsimp only at hSw); go_simp <;> with_reducible rfl)
          (try simp only [Act.put])
          have P5 := (show Sn w wd (⟨trI (rowJ p s r k j), .slice (some ⟨g, 0, none⟩) (rowJ p s r k j).length 72, [g]⟩ :: _) from by rw [rowJ_len]; exact S5.out.pick 1 rfl)
          have hfz := (P5.cellI (i := x + j) (by rw [rowJ_len]; exact hxj)).2
          have P6 := P5.setI (x + j) (uu + ua)
          rw [NX.out, rowJ_len] at P6
          have S6 := Lib.hid (P6.pick 1 rfl)
          clear P5 P6
          refine wpAnyZ_last (by kernel_rfl) (by kernel_rfl) rfl (fun K hK => ?_)
          go_simp
          refine hK.out _ _ ?_
          clear hK K
          generalize World.setCell wd _ _ = w6 at S6 ⊢
          clear hfz hHeld S5 S4 NX
          go_wp2
          go_roundw
          case rel => exact ⟨j + 1, by omega, by go_num, S6.out⟩
          case measure => simp [intOf]; omega
        · have hge : ¬ (j : Int) < (y : Int) := by omega
          obtain rfl : j = y := by omega
          rw [rowJ_full hy] at S4
          have S5 := Lib.hid (S4.out.drop 0)
          go_wp2
          go_roundw
          case rel => exact ⟨k + 1, by omega, by go_num, S5.out⟩
          case measure => simp [intOf]; omega
    · have hge : ¬ (k : Int) < (p.acts.length : Int) := by omega
      obtain rfl : k = p.acts.length := by omega
      go_wp2
      go_ret
      first
        | exact ⟨_, rfl, _, (S2.out.own 0 rfl).1, (S2.out.own 0 rfl).2, S2.out.1⟩
        | exact ⟨_, (S2.out.own 0 rfl).1, (S2.out.own 0 rfl).2, S2.out.1⟩
        | exact ⟨_, _, rfl, (S2.out.own 0 rfl).1, (S2.out.own 0 rfl).2, S2.out.1⟩

set_option maxRecDepth 100000 in
set_option maxHeartbeats 8000000 in
theorem implUsageAt_any (p : Pj) (s : Sc) (r t : Int) (v u : Value) (w : World) (hv : (trPj p).rd w v) (hk : (trPj p).ok) (hs : (trSc s).rd w u) :
    Calls Try.prog 19 #[v, u, .int .i64 r, .int .i64 t] w fun e w' => e = .returned (.int .i64 (useB p s r t)) ∧ Below w.heap.size w w' := by
  have HK := Lib.hid hk
  clear hk
  have HV := Lib.hid hv
  obtain ⟨A1, c1, A2, c2, A3, c3, A4, c4, rfl, _⟩ := rdProject_t hv
  have HQ := Lib.hid hs
  obtain ⟨E1, f1, E2, f2, rfl, _⟩ := rdSchedule_t hs
  clear hv hs
  have S0 := Lib.hid (((Sn.start w).box 34 [.int .i64 p.dl, .slice A1 p.acts.length c1, .slice A2 p.lks.length c2, .slice A3 p.ress.length c3, .slice A4 p.stk.length c4]).box 41 [.slice E1 s.st.length f1, .slice E2 s.mo.length f2])
  simp only [World.size_alloc] at S0
  go_enter Try.func19, Try.ntmps19
  go_wp2_with fail
  refine (implForm_any p s _ _ _ (by exact S0.out.old HV.out) HK.out (by exact S0.out.old HQ.out)).mono ?_
  rintro e w1 ⟨rfl, b⟩
  have S1 := Lib.hid (S0.out.go b)
  clear S0 b
  rcases hok : formB p s with _ | _
  · have HR := Lib.hid (use_bad (r := r) (t := t) hok)
    clear hok
    go_wp2
    go_ret
    exact ⟨ret_numZ HR.out.symm, S1.out.1⟩
  have HF := Lib.hid (form_of hok)
  obtain ⟨e0, e1, e2, e3, e4, ef⟩ := (S1.out.bk 1 rfl).c5
  go_wp2_with fail
  clear e0 e1 e2 e3 e4 ef
  refine (isBelow_any r (p.ress.length : Int) _).mono ?_
  rintro e w5 ⟨rfl, rfl⟩
  by_cases hin : 0 ≤ r ∧ r < (p.ress.length : Int)
  · obtain ⟨x, rfl⟩ : ∃ x : Nat, r = (x : Int) := ⟨r.toNat, by omega⟩
    have hx : x < p.ress.length := by omega
    have HR := Lib.hid ((use_yes (t := t) hok hx).trans (amt_row (r := x) (t := t) HF.out (Nat.le_refl _)).symm)
    rw [inB_yes (show (0 : Int) ≤ (x : Int) ∧ (x : Int) ≤ (p.ress.length : Int) - 1 by omega)]
    obtain ⟨e0, e1, e2, e3, e4, ef⟩ := (S1.out.bk 1 rfl).c5
    obtain ⟨q0, q1, qf⟩ := (S1.out.bk 0 rfl).c2
    clear hok hin
    go_wp2_with fail
    clear e0 e1 e2 e3 e4 ef
    clear q0 q1 qf
    refine (usageRow_any p s x _ _ _ (by exact S1.out.old HV.out) (by exact S1.out.old HQ.out) HF.out hx).mono ?_
    rintro e w2 ⟨u2, F2, rfl, o, h, b⟩
    have S2 := Lib.hid (S1.out.new o h b)
    clear S1 o h b
    go_wp2_with fail
    refine (elemI_any (rowK p s x p.acts.length) t _ _ (by exact rd_flat (S2.out.rd 0 rfl))).mono ?_
    rintro e w3 ⟨rfl, rfl⟩
    generalize amtB (rowK p s x p.acts.length) t = am at HR ⊢
    rcases am with _ | am
    · have HR2 := Lib.hid (show useB p s (x : Int) t = 0 from HR.out)
      unfold optI
      go_wp2
      go_ret
      exact ⟨ret_numZ HR2.out.symm, S2.out.1⟩
    · have HR2 := Lib.hid (show useB p s (x : Int) t = am from HR.out)
      unfold optI
      go_wp2
      go_ret
      exact ⟨ret_numZ HR2.out.symm, S2.out.1⟩
  · have HR := Lib.hid (use_out (p := p) (s := s) (t := t) hin)
    rw [inB_no (show ¬ ((0 : Int) ≤ r ∧ r ≤ (p.ress.length : Int) - 1) by omega)]
    clear hin hok
    go_wp2
    go_ret
    exact ⟨ret_numZ HR.out.symm, S1.out.1⟩

end Go.Proofs.Ytaglfdkeomjpdab
