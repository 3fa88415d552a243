/- DERIVED. CONTRACTS of chapter 14: ClauseStatus of both programs. -/
import Derived.Test.YtgbpomakomddjabClM
import Derived.Test.YtgbpomakomddjabDmQG
import Derived.Test.YtgbpomakomddjabRwT
import Derived.Test.YtgbpomakomddjabRegZ
import Derived.Maps.AppendAt
namespace Go.Proofs.Ytgbpomakomddjab
open Go.RowKit Go.Shelf
set_option linter.unusedVariables false

theorem openK_no {d : Dm} {l : List Lt} {k : Nat} (h : k < l.length) (h0 : ¬ lvalD d l[k] = 0) : openK d l (k + 1) = openK d l k := by rw [openK_succ h, if_neg h0]
theorem openK_yes {d : Dm} {l : List Lt} {k : Nat} (h : k < l.length) (h0 : lvalD d l[k] = 0) : openK d l (k + 1) = openK d l k ++ [l[k]] := by rw [openK_succ h, if_pos h0]
theorem openK_len (d : Dm) (l : List Lt) (k : Nat) : (openK d l k).length ≤ k := Nat.le_trans (List.length_filter_le _ _) (by rw [List.length_take]; omega)
theorem stat_0 {d : Dm} {l : List Lt} (h : ∀ j, (hj : j < l.length) → ¬ lvalD d l[j] = 1) (h0 : (openK d l l.length).length = 0) : statD d l = (-1, litNone) := by rw [stat_rest h, if_pos h0]
theorem stat_1 {d : Dm} {l : List Lt} {x : Lt} (h : ∀ j, (hj : j < l.length) → ¬ lvalD d l[j] = 1) (h0 : openK d l l.length = [x]) : statD d l = (0, x) := by rw [stat_rest h, h0]; rfl
theorem stat_2 {d : Dm} {l : List Lt} (h : ∀ j, (hj : j < l.length) → ¬ lvalD d l[j] = 1) (h0 : ¬ (openK d l l.length).length = 0) (h1 : ¬ (openK d l l.length).length = 1) : statD d l = (0, litNone) := by rw [stat_rest h, if_neg h0, if_neg h1]
theorem Sn.formT1 {w0 W : World} {L : List Item} {l : List Lt} {v : Value} {F : List Nat} (h : Sn w0 W (⟨rowT l, v, F⟩ :: L)) (hn : 0 < l.length) : ∃ g c, v = .slice (some ⟨g, 0, none⟩) l.length c ∧ g < W.heap.size ∧ l.length ≤ c := by
  rcases ownsT_cases h.ownT with ⟨_, h0⟩ | ⟨g, c, e, _, hl, hc⟩
  · omega
  · exact ⟨g, c, e, hl, hc⟩
theorem step_ne {d : Dm} {l : List Lt} {k : Nat} (hlt : k < l.length) (hall : ∀ j, (h : j < l.length) → j < k → ¬ lvalD d l[j] = 1) (hp : ¬ lvalD d l[k] = 1) : ∀ j, (h : j < l.length) → j < k + 1 → ¬ lvalD d l[j] = 1 := fun j hj hjk => by
  by_cases e : j = k
  · subst e; exact hp
  · exact hall j hj (by omega)
set_option maxRecDepth 100000 in
set_option maxHeartbeats 8000000 in
theorem implClauseStatus_any (d : Dm) (l : List Lt) (v u : Value) (w : World) (hd : (trDm d).rd w v) (hl : (trLts l).rd w u) (hlen : l.length ≤ 1048576) :
    Calls Try.prog 9 #[v, u] w fun e w' => e = .returned (.tuple #[.int .i64 (statD d l).1, ltV (statD d l).2]) ∧ Below w.heap.size w w' := by
  have HD := Lib.hid hd
  obtain ⟨D1, t1, D2, t2, D3, t3, rfl, _⟩ := rdDomain_t hd
  obtain ⟨hll, A, c, rfl, ga⟩ := rdLiteralS_t hl
  have GA := Lib.hid ga
  clear hd hl ga
  have R1 := Lib.hid (fun j hj h => @stat_one d l j hj h)
  have R2 := Lib.hid (fun h h0 => @stat_0 d l h h0)
  have R3 := Lib.hid (fun x h h0 => @stat_1 d l x h h0)
  have R4 := Lib.hid (fun h h0 h1 => @stat_2 d l h h0 h1)
  generalize statD d l = res at R1 R2 R3 R4 ⊢
  obtain ⟨i0, hi0, hz0, hz1, hz2⟩ := info_parts infoLiteral_t
  have S0 := Lib.hid (((Sn.start w).box 33 [.slice D1 d.mn.length t1, .slice D2 d.mx.length t2, .slice D3 d.md.length t3]).box 30 [.int .i64 0, .int .i64 0, .int .i64 0])
  simp only [World.size_alloc] at S0
  have S1 := Lib.hid S0.out.nilT
  clear S0
  go_enter Try.func9, Try.ntmps9
  go_wp2
  go_loopw [6, 11] (fun u i wr => ∃ (k : Nat) (F : List Nat), k ≤ l.length ∧ i = .int .i64 k ∧ Sn w wr [⟨rowT (openK d l k), u, F⟩, boxI (w.heap.size + 1) 30 [.int .i64 0, .int .i64 0, .int .i64 0], boxI w.heap.size 33 [.slice D1 d.mn.length t1, .slice D2 d.mx.length t2, .slice D3 d.md.length t3]] ∧ ∀ j, (h : j < l.length) → j < k → ¬ lvalD d l[j] = 1) (fun _ i _ => l.length - (intOf i).toNat)
  case atStart => exact ⟨0, _, Nat.zero_le _, rfl, S1.out, fun j _ h => absurd h (by omega)⟩
  case round =>
    obtain ⟨k, F0, hkl, rfl, hS, hall⟩ := hrel
    have S3 := Lib.hid hS
    have HA := Lib.hid hall
    clear hS S1 hall
    by_cases hlt : k < l.length
    · have hlt' : (k : Int) < (l.length : Int) := by omega
      obtain ⟨b, o, rfl, hb, hc⟩ := GA.out k hlt
      obtain ⟨x0, x1, x2⟩ := hc k hlt
      have hx0 := (S3.out.1.cell (p := ⟨b, o + k * 3, none⟩) hb).trans x0
      have hx1 := (S3.out.1.cell (p := ⟨b, o + k * 3 + 1, none⟩) hb).trans x1
      have hx2 := (S3.out.1.cell (p := ⟨b, o + k * 3 + 2, none⟩) hb).trans x2
      clear hc x0 x1 x2
      have OY := Lib.hid (fun h => openK_yes (d := d) hlt h)
      have ON := Lib.hid (fun h => openK_no (d := d) hlt h)
      have HR1 := Lib.hid (fun h => R1.out k hlt h)
      have HST := Lib.hid (fun h => step_ne hlt HA.out h)
      have hTl := openK_len d l k
      generalize l[k] = m at hx0 hx1 hx2 OY ON HR1 HST
      have S4 := Lib.hid (S3.out.box 30 [.int .i64 m.ki, .int .i64 m.ac, .int .i64 m.va])
      clear S3
      obtain ⟨q0, q1, q2, qf⟩ := (S4.out.bk 3 rfl).c3
      go_wp2_with fail
      clear q0 q1 q2 qf
      refine (implLiteralValue_any d m _ _ (by exact S4.out.old HD.out)).mono ?_
      rintro e w5 ⟨rfl, b5⟩
      have S5 := Lib.hid (S4.out.go b5)
      clear S4 b5 hx0 hx1 hx2
      generalize lvalD d m = lv at OY ON HR1 HST ⊢
      by_cases h1 : lv = 1
      · have RES := Lib.hid (HR1.out h1)
        clear OY ON HR1 HST
        subst h1
        obtain ⟨z0, z1, z2, zf⟩ := (S5.out.bk 2 rfl).c3
        go_wp2
        have SZ := ((S5.out.boxSet 2 rfl 0 (.int .i64 0)).boxSet 2 rfl 1 (.int .i64 0)).boxSet 2 rfl 2 (.int .i64 0)
        refine bodyPost_ret (v := .tuple #[.int .i64 (1), .agg #[.int .i64 0, .int .i64 0, .int .i64 0]]) (by simp [results, Try.results9, go_sem, z0, z1, z2]) rfl ⟨by rw [RES.out]; rfl, SZ.1⟩
      by_cases h0 : lv = 0
      · have NX := Lib.hid (OY.out h0)
        have ST := Lib.hid (HST.out h1)
        clear OY ON HR1 HST h1
        subst h0
        generalize hT : openK d l k = T at S5 NX hTl
        clear hT
        have S6 := Lib.hid (S5.out.pick 1 rfl)
        simp only [List.eraseIdx_cons_succ, List.eraseIdx_cons_zero] at S6
        clear S5
        obtain ⟨p0, p1, p2, pf⟩ := (S6.out.bk 1 rfl).c3
        have OW := Lib.hid (S6.out.ownT)
        have hzs := S6.out.1.size
        go_wp2_with (first | (at_builtin; refine wpList_append_own_at _ rfl (.tmp 23) (.tmp 25) 35 rfl w.heap.size 30 i0 (.agg #[.int .i64 0, .int .i64 0, .int .i64 0]) 3 24 Try.underlying35 hi0 hz0 hz1 hz2 rfl (by decide) _ (T.length) (cells3 T) rfl (by exact OW.out.alloc _) ⟨_, 0, none⟩ 1 1 [.int .i64 m.ki, .int .i64 m.ac, .int .i64 m.va] rfl rfl ?cq1 ?cq2 ?cq3 ?cq4 ?cq5 ?_) | fail)
        try case cq1 => (intro j u hj; first | exact three_cells _ _ _ _ _ j u hj | (have h9 := three_cells (World.alloc wr (.cells #[.int .i64 m.ki, .int .i64 m.ac, .int .i64 m.va] 30)) (.int .i64 m.ki) (.int .i64 m.ac) (.int .i64 m.va) 30 j u hj; first | exact h9 | simpa only [World.size_alloc] using h9))
        try case cq2 => simp [Value.oneCell']
        try case cq3 => unfold maxLen; omega
        try case cq4 => omega
        try case cq5 => first | omega | (simp at hzs ⊢; omega)
        intro v8 w7 hown8 hg8 _ hat8
        obtain ⟨F7, h9⟩ := S6.out.appT m ((Below.refl _ _).alloc (Nat.le_refl _) _) hown8 (by simp) hg8 (by simpa using hat8)
        have S7 := Lib.hid (h9.drop 1)
        simp only [List.eraseIdx_cons_succ, List.eraseIdx_cons_zero] at S7
        clear hown8 hg8 hat8 h9 OW hzs S6
        go_wp2
        go_roundw
        case rel => exact ⟨k + 1, F7, by omega, by go_num, by rw [NX.out]; exact S7.out, ST.out⟩
        case measure => simp [intOf]; omega
      · have NX := Lib.hid (ON.out h0)
        have ST := Lib.hid (HST.out h1)
        have g1 : (lv == 1) = false := by simpa using h1
        have g0 : (lv == 0) = false := by simpa using h0
        clear OY ON HR1 HST h1 h0
        have S6 := Lib.hid (S5.out.drop 0)
        go_wp2
        go_roundw
        case rel => exact ⟨k + 1, F0, by omega, by go_num, by rw [NX.out]; exact S6.out, ST.out⟩
        case measure => simp [intOf]; omega
    · have hge : ¬ (k : Int) < (l.length : Int) := by omega
      obtain rfl : k = l.length := by omega
      have HAL := Lib.hid (fun j (hj : j < l.length) => HA.out j hj hj)
      have hTl := openK_len d l l.length
      have R2' := Lib.hid (fun h0 => R2.out HAL.out h0)
      have R3' := Lib.hid (fun x h0 => R3.out x HAL.out h0)
      have R4' := Lib.hid (fun h0 h1 => R4.out HAL.out h0 h1)
      generalize openK d l l.length = T at S3 hTl R2' R3' R4' ⊢
      obtain ⟨U, cu, rfl⟩ := rdT_slice (l := T) (by have := S3.out.rd 0 rfl; rw [rowT_tr] at this; exact this)
      by_cases t0 : T.length = 0
      · have RES := Lib.hid (R2'.out t0)
        have g0 : ((T.length : Int) == 0) = true := beq_iff_eq.2 (by omega)
        clear R2' R3' R4' t0
        obtain ⟨z0, z1, z2, zf⟩ := (S3.out.bk 1 rfl).c3
        go_wp2
        have SZ := ((S3.out.boxSet 1 rfl 0 (.int .i64 0)).boxSet 1 rfl 1 (.int .i64 0)).boxSet 1 rfl 2 (.int .i64 0)
        refine bodyPost_ret (v := .tuple #[.int .i64 (-1), .agg #[.int .i64 0, .int .i64 0, .int .i64 0]]) (by simp [results, Try.results9, go_sem, z0, z1, z2]) rfl ⟨by rw [RES.out]; rfl, SZ.1⟩
      by_cases t1 : T.length = 1
      · obtain ⟨x, rfl⟩ := List.length_eq_one_iff.1 t1
        have RES := Lib.hid (R3'.out x rfl)
        clear R2' R3' R4' t0 t1 hTl
        obtain ⟨g, cu2, he, hg, _⟩ := S3.out.formT1 (by simp)
        injection he with he _ he2
        subst he he2
        obtain ⟨a0, a1, a2⟩ := x
        have y0 := cellN_at S3.out.ownT (j := 0) (u := .int .i64 a0) rfl
        have y1 := cellN_at S3.out.ownT (j := 1) (u := .int .i64 a1) rfl
        have y2 := cellN_at S3.out.ownT (j := 2) (u := .int .i64 a2) rfl
        have S4 := Lib.hid S3.out.drew1
        go_wp2_with fail
        have CE := Lib.hid (fun (W : World) (h : Wr [] wr.drew W) => show Hid (Wr [] wr.drew W) ∧ W.cell? ⟨g, 0, none⟩ = some (.int .i64 a0) ∧ W.cell? ⟨g, 1, none⟩ = some (.int .i64 a1) ∧ W.cell? ⟨g, 2, none⟩ = some (.int .i64 a2) from ⟨Lib.hid h, (wr_cell h (p := ⟨g, 0, none⟩) hg (by simp)).trans (by exact by simpa using y0), (wr_cell h (p := ⟨g, 1, none⟩) hg (by simp)).trans (by exact by simpa using y1), (wr_cell h (p := ⟨g, 2, none⟩) hg (by simp)).trans (by exact by simpa using y2)⟩)
        have INIT := Lib.hid (CE.out _ (Wr.refl _ _))
        have KW := Lib.hid (fun (W2 W : World) (hb : Wr [] W W2) (h : Hid (Wr [] wr.drew W) ∧ W.cell? ⟨g, 0, none⟩ = some (.int .i64 a0) ∧ W.cell? ⟨g, 1, none⟩ = some (.int .i64 a1) ∧ W.cell? ⟨g, 2, none⟩ = some (.int .i64 a2)) => CE.out W2 (h.1.out.trans hb))
        clear y0 y1 y2
        refine wpAnyZ_start 4 (fun W => Hid (Wr [] wr.drew W) ∧ W.cell? ⟨g, 0, none⟩ = some (.int .i64 a0) ∧ W.cell? ⟨g, 1, none⟩ = some (.int .i64 a1) ∧ W.cell? ⟨g, 2, none⟩ = some (.int .i64 a2)) (by kernel_rfl) INIT.out (fun hHeld => ?_)
        clear CE INIT
        generalize hwd : wr.drew = wd at S4 KW hHeld ⊢
        clear hwd
        refine wpAnyZ_take (i := 0) (v := ?_) rfl (by kernel_rfl) (by kernel_rfl) (by kernel_rfl) (fun _ _ _ h => h) (Or.inl ⟨by rfl, ?_⟩) (by assumption) ?_
        rotate_left
        · (intro W hSw; (try dsimp only at hSw); go_simp <;> with_reducible rfl)
        (try simp only [Act.put])
        refine wpAnyZ_take (i := 1) (v := ?_) rfl (by kernel_rfl) (by kernel_rfl) (by kernel_rfl) (fun _ _ _ h => h) (Or.inl ⟨by rfl, ?_⟩) (by assumption) ?_
        rotate_left
        · (intro W hSw; (try dsimp only at hSw); go_simp <;> with_reducible rfl)
        (try simp only [Act.put])
        refine wpAnyZ_take (i := 2) (v := ?_) rfl (by kernel_rfl) (by kernel_rfl) (by kernel_rfl) (fun _ _ _ h => h) (Or.inl ⟨by rfl, ?_⟩) (by assumption) ?_
        rotate_left
        · (intro W hSw; (try dsimp only at hSw); go_simp <;> with_reducible rfl)
        (try simp only [Act.put])
        refine wpAnyZ_take (i := 3) (v := ?_) rfl (by kernel_rfl) (by kernel_rfl) (by kernel_rfl) (fun _ _ _ h => h) (Or.inl ⟨by rfl, ?_⟩) (by assumption) ?_
        rotate_left
        · (intro W hSw; (try dsimp only at hSw); go_simp <;> with_reducible rfl)
        (try simp only [Act.put])
        obtain ⟨z0, z1, z2, zf⟩ := (S4.out.bk 1 rfl).c3
        refine wpAnyZ_last (by kernel_rfl) (by kernel_rfl) rfl (fun K hK => ?_)
        go_simp
        refine hK.out _ _ ?_
        clear hK K
        go_wp2
        have SZ := ((S4.out.boxSet 1 rfl 0 (.int .i64 a0)).boxSet 1 rfl 1 (.int .i64 a1)).boxSet 1 rfl 2 (.int .i64 a2)
        refine bodyPost_ret (v := .tuple #[.int .i64 0, .agg #[.int .i64 a0, .int .i64 a1, .int .i64 a2]]) (by simp [results, Try.results9, go_sem, z0, z1, z2]) rfl ⟨by rw [RES.out]; rfl, SZ.1⟩
      · have RES := Lib.hid (R4'.out t0 t1)
        have g0 : ((T.length : Int) == 0) = false := by rw [beq_eq_false_iff_ne]; omega
        have g1 : ((T.length : Int) == 1) = false := by rw [beq_eq_false_iff_ne]; omega
        clear R2' R3' R4' t0 t1
        obtain ⟨z0, z1, z2, zf⟩ := (S3.out.bk 1 rfl).c3
        go_wp2
        have SZ := ((S3.out.boxSet 1 rfl 0 (.int .i64 0)).boxSet 1 rfl 1 (.int .i64 0)).boxSet 1 rfl 2 (.int .i64 0)
        refine bodyPost_ret (v := .tuple #[.int .i64 (0), .agg #[.int .i64 0, .int .i64 0, .int .i64 0]]) (by simp [results, Try.results9, go_sem, z0, z1, z2]) rfl ⟨by rw [RES.out]; rfl, SZ.1⟩
set_option maxRecDepth 100000 in
set_option maxHeartbeats 8000000 in
theorem specClauseStatus_any (d : Dm) (l : List Lt) (v u : Value) (w : World) (hd : (trDm d).rd w v) (hl : (trLts l).rd w u) (hlen : l.length ≤ 1048576) :
    Calls Try.prog 6 #[v, u] w fun e w' => e = .returned (.tuple #[.int .i64 (statD d l).1, ltV (statD d l).2]) ∧ Below w.heap.size w w' := by
  have HD := Lib.hid hd
  obtain ⟨D1, t1, D2, t2, D3, t3, rfl, _⟩ := rdDomain_t hd
  obtain ⟨hll, A, c, rfl, ga⟩ := rdLiteralS_t hl
  have GA := Lib.hid ga
  clear hd hl ga
  have R1 := Lib.hid (fun j hj h => @stat_one d l j hj h)
  have R2 := Lib.hid (fun h h0 => @stat_0 d l h h0)
  have R3 := Lib.hid (fun x h h0 => @stat_1 d l x h h0)
  have R4 := Lib.hid (fun h h0 h1 => @stat_2 d l h h0 h1)
  generalize statD d l = res at R1 R2 R3 R4 ⊢
  obtain ⟨i0, hi0, hz0, hz1, hz2⟩ := info_parts infoLiteral_t
  have S0 := Lib.hid (((Sn.start w).box 33 [.slice D1 d.mn.length t1, .slice D2 d.mx.length t2, .slice D3 d.md.length t3]).box 30 [.int .i64 0, .int .i64 0, .int .i64 0])
  simp only [World.size_alloc] at S0
  have S1 := Lib.hid (S0.out.box 30 [.int .i64 0, .int .i64 0, .int .i64 0])
  clear S0
  go_enter Try.func6, Try.ntmps6
  go_wp2
  simp only [World.size_alloc] at S1
  generalize hgo : w.heap.size + 1 + 1 = go at S1 ⊢
  go_loopw [6, 13] (fun u i wr => ∃ (k : Nat) (one : Lt), k ≤ l.length ∧ i = .int .i64 k ∧ u = .int .i64 ((openK d l k).length : Nat) ∧ (∀ x, openK d l k = [x] → one = x) ∧ Sn w wr [boxI go 30 [.int .i64 one.ki, .int .i64 one.ac, .int .i64 one.va], boxI (w.heap.size + 1) 30 [.int .i64 0, .int .i64 0, .int .i64 0], boxI w.heap.size 33 [.slice D1 d.mn.length t1, .slice D2 d.mx.length t2, .slice D3 d.md.length t3]] ∧ ∀ j, (h : j < l.length) → j < k → ¬ lvalD d l[j] = 1) (fun _ i _ => l.length - (intOf i).toNat)
  case atStart => exact ⟨0, litNone, Nat.zero_le _, rfl, rfl, (fun x h => by cases h), S1.out, fun j _ h => absurd h (by omega)⟩
  case round =>
    obtain ⟨k, one, hkl, rfl, rfl, hone, hS, hall⟩ := hrel
    have S3 := Lib.hid hS
    have HA := Lib.hid hall
    have HO := Lib.hid hone
    clear hS S1 hall hone
    by_cases hlt : k < l.length
    · have hlt' : (k : Int) < (l.length : Int) := by omega
      obtain ⟨b, o, rfl, hb, hc⟩ := GA.out k hlt
      obtain ⟨x0, x1, x2⟩ := hc k hlt
      have hx0 := (S3.out.1.cell (p := ⟨b, o + k * 3, none⟩) hb).trans x0
      have hx1 := (S3.out.1.cell (p := ⟨b, o + k * 3 + 1, none⟩) hb).trans x1
      have hx2 := (S3.out.1.cell (p := ⟨b, o + k * 3 + 2, none⟩) hb).trans x2
      clear hc x0 x1 x2
      have OY := Lib.hid (fun h => openK_yes (d := d) hlt h)
      have ON := Lib.hid (fun h => openK_no (d := d) hlt h)
      have HR1 := Lib.hid (fun h => R1.out k hlt h)
      have HST := Lib.hid (fun h => step_ne hlt HA.out h)
      have hTl := openK_len d l k
      generalize l[k] = m at hx0 hx1 hx2 OY ON HR1 HST
      have S4 := Lib.hid (S3.out.box 30 [.int .i64 m.ki, .int .i64 m.ac, .int .i64 m.va])
      clear S3
      obtain ⟨q0, q1, q2, qf⟩ := (S4.out.bk 3 rfl).c3
      go_wp2_with fail
      clear q0 q1 q2 qf
      refine (specLiteralValue_any d m _ _ (by exact S4.out.old HD.out)).mono ?_
      rintro e w5 ⟨rfl, b5⟩
      have S5 := Lib.hid (S4.out.go b5)
      clear S4 b5 hx0 hx1 hx2
      generalize lvalD d m = lv at OY ON HR1 HST ⊢
      by_cases h1 : lv = 1
      · have RES := Lib.hid (HR1.out h1)
        clear OY ON HR1 HST
        subst h1
        obtain ⟨z0, z1, z2, zf⟩ := (S5.out.bk 2 rfl).c3
        go_wp2
        have SZ := ((S5.out.boxSet 2 rfl 0 (.int .i64 0)).boxSet 2 rfl 1 (.int .i64 0)).boxSet 2 rfl 2 (.int .i64 0)
        refine bodyPost_ret (v := .tuple #[.int .i64 (1), .agg #[.int .i64 0, .int .i64 0, .int .i64 0]]) (by simp [results, Try.results6, go_sem, z0, z1, z2]) rfl ⟨by rw [RES.out]; rfl, SZ.1⟩
      by_cases h0 : lv = 0
      · have NX := Lib.hid (OY.out h0)
        have ST := Lib.hid (HST.out h1)
        clear OY ON HR1 HST h1
        subst h0
        generalize openK d l k = T at NX hTl HO ⊢
        obtain ⟨p0, p1, p2, pf⟩ := (S5.out.bk 0 rfl).c3
        obtain ⟨r0, r1, r2, rf⟩ := (S5.out.bk 1 rfl).c3
        go_wp2
        have S6 := Lib.hid ((((S5.out.boxSet 1 rfl 0 (.int .i64 m.ki)).boxSet 1 rfl 1 (.int .i64 m.ac)).boxSet 1 rfl 2 (.int .i64 m.va)).drop 0)
        simp only [List.set_cons_zero, List.set_cons_succ, List.eraseIdx_cons_zero] at S6
        go_roundw
        case rel => exact ⟨k + 1, m, by omega, by go_num, by rw [NX.out, List.length_append]; first | rfl | go_num, (fun x h => by rw [NX.out] at h; have h2 := List.append_eq_singleton_iff.1 h; rcases h2 with ⟨_, h2⟩ | ⟨_, h2⟩; injection h2; cases h2), S6.out, ST.out⟩
        case measure => simp [intOf]; omega
      · have NX := Lib.hid (ON.out h0)
        have ST := Lib.hid (HST.out h1)
        have g1 : (lv == 1) = false := by simpa using h1
        have g0 : (lv == 0) = false := by simpa using h0
        clear OY ON HR1 HST h1 h0
        have S6 := Lib.hid (S5.out.drop 0)
        go_wp2
        go_roundw
        case rel => exact ⟨k + 1, one, by omega, by go_num, by rw [NX.out], by rw [NX.out]; exact HO.out, S6.out, ST.out⟩
        case measure => simp [intOf]; omega
    · have hge : ¬ (k : Int) < (l.length : Int) := by omega
      obtain rfl : k = l.length := by omega
      have HAL := Lib.hid (fun j (hj : j < l.length) => HA.out j hj hj)
      have hTl := openK_len d l l.length
      have R2' := Lib.hid (fun h0 => R2.out HAL.out h0)
      have R3' := Lib.hid (fun x h0 => R3.out x HAL.out h0)
      have R4' := Lib.hid (fun h0 h1 => R4.out HAL.out h0 h1)
      generalize openK d l l.length = T at hTl R2' R3' R4' HO ⊢
      by_cases t0 : T.length = 0
      · have RES := Lib.hid (R2'.out t0)
        have g0 : ((T.length : Int) == 0) = true := beq_iff_eq.2 (by omega)
        clear R2' R3' R4' t0
        obtain ⟨z0, z1, z2, zf⟩ := (S3.out.bk 1 rfl).c3
        go_wp2
        have SZ := ((S3.out.boxSet 1 rfl 0 (.int .i64 0)).boxSet 1 rfl 1 (.int .i64 0)).boxSet 1 rfl 2 (.int .i64 0)
        refine bodyPost_ret (v := .tuple #[.int .i64 (-1), .agg #[.int .i64 0, .int .i64 0, .int .i64 0]]) (by simp [results, Try.results6, go_sem, z0, z1, z2]) rfl ⟨by rw [RES.out]; rfl, SZ.1⟩
      by_cases t1 : T.length = 1
      · obtain ⟨x, rfl⟩ := List.length_eq_one_iff.1 t1
        have RES := Lib.hid (R3'.out x rfl)
        obtain rfl := HO.out x rfl
        clear R2' R3' R4' t0 t1 hTl
        obtain ⟨a0, a1, a2⟩ := one
        obtain ⟨p0, p1, p2, pf⟩ := (S3.out.bk 0 rfl).c3
        have hlz := (S3.out.bk 0 rfl).lt
        have S4 := Lib.hid S3.out.drew1
        go_wp2_with fail
        have CE := Lib.hid (fun (W : World) (h : Wr [] wr.drew W) => show Hid (Wr [] wr.drew W) ∧ W.cell? ⟨go, 0, none⟩ = some (.int .i64 a0) ∧ W.cell? ⟨go, 1, none⟩ = some (.int .i64 a1) ∧ W.cell? ⟨go, 2, none⟩ = some (.int .i64 a2) from ⟨Lib.hid h, (wr_cell h (p := ⟨go, 0, none⟩) hlz (by simp)).trans (by exact by simpa using p0), (wr_cell h (p := ⟨go, 1, none⟩) hlz (by simp)).trans (by exact by simpa using p1), (wr_cell h (p := ⟨go, 2, none⟩) hlz (by simp)).trans (by exact by simpa using p2)⟩)
        have INIT := Lib.hid (CE.out _ (Wr.refl _ _))
        have KW := Lib.hid (fun (W2 W : World) (hb : Wr [] W W2) (h : Hid (Wr [] wr.drew W) ∧ W.cell? ⟨go, 0, none⟩ = some (.int .i64 a0) ∧ W.cell? ⟨go, 1, none⟩ = some (.int .i64 a1) ∧ W.cell? ⟨go, 2, none⟩ = some (.int .i64 a2)) => CE.out W2 (h.1.out.trans hb))
        clear p0 p1 p2 pf hlz
        refine wpAnyZ_start 2 (fun W => Hid (Wr [] wr.drew W) ∧ W.cell? ⟨go, 0, none⟩ = some (.int .i64 a0) ∧ W.cell? ⟨go, 1, none⟩ = some (.int .i64 a1) ∧ W.cell? ⟨go, 2, none⟩ = some (.int .i64 a2)) (by kernel_rfl) INIT.out (fun hHeld => ?_)
        clear CE INIT
        generalize hwd : wr.drew = wd at S4 KW hHeld ⊢
        clear hwd
        refine wpAnyZ_take (i := 0) (v := ?_) rfl (by kernel_rfl) (by kernel_rfl) (by kernel_rfl) (fun _ _ _ h => h) (Or.inl ⟨by rfl, ?_⟩) (by assumption) ?_
        rotate_left
        · (intro W hSw; (try dsimp only at hSw); go_simp <;> with_reducible rfl)
        (try simp only [Act.put])
        refine wpAnyZ_take (i := 1) (v := ?_) rfl (by kernel_rfl) (by kernel_rfl) (by kernel_rfl) (fun _ _ _ h => h) (Or.inl ⟨by rfl, ?_⟩) (by assumption) ?_
        rotate_left
        · (intro W hSw; (try dsimp only at hSw); go_simp <;> with_reducible rfl)
        (try simp only [Act.put])
        obtain ⟨z0, z1, z2, zf⟩ := (S4.out.bk 1 rfl).c3
        refine wpAnyZ_last (by kernel_rfl) (by kernel_rfl) rfl (fun K hK => ?_)
        go_simp
        refine hK.out _ _ ?_
        clear hK K
        go_wp2
        have SZ := ((S4.out.boxSet 1 rfl 0 (.int .i64 a0)).boxSet 1 rfl 1 (.int .i64 a1)).boxSet 1 rfl 2 (.int .i64 a2)
        refine bodyPost_ret (v := .tuple #[.int .i64 0, .agg #[.int .i64 a0, .int .i64 a1, .int .i64 a2]]) (by simp [results, Try.results6, go_sem, z0, z1, z2]) rfl ⟨by rw [RES.out]; rfl, SZ.1⟩
      · have RES := Lib.hid (R4'.out t0 t1)
        have g0 : ((T.length : Int) == 0) = false := by rw [beq_eq_false_iff_ne]; omega
        have g1 : (1 : Int) < (T.length : Int) := by omega
        clear R2' R3' R4' t0 t1
        obtain ⟨z0, z1, z2, zf⟩ := (S3.out.bk 1 rfl).c3
        go_wp2
        have SZ := ((S3.out.boxSet 1 rfl 0 (.int .i64 0)).boxSet 1 rfl 1 (.int .i64 0)).boxSet 1 rfl 2 (.int .i64 0)
        refine bodyPost_ret (v := .tuple #[.int .i64 (0), .agg #[.int .i64 0, .int .i64 0, .int .i64 0]]) (by simp [results, Try.results6, go_sem, z0, z1, z2]) rfl ⟨by rw [RES.out]; rfl, SZ.1⟩
end Go.Proofs.Ytgbpomakomddjab
