/- DERIVED. CONTRACTS of chapter 14: WithoutLiteral of both programs. -/
import Derived.Test.YtgbpomakomddjaaClM
import Derived.Test.YtgbpomakomddjaaRwT
import Derived.Test.YtgbpomakomddjaaConT
import Derived.Test.YtgbpomakomddjaaLtO
namespace Go.Proofs.Ytgbpomakomddjaa
open Go.RowKit Go.Shelf
set_option linter.unusedVariables false

theorem nilOk_atW (a : Addr) (n c : Nat) : NilOk (.slice (some a) n c) := by
  intro _ _ h; injection h with h; cases h
theorem rdT_dropZ {w : World} {b n c c' : Nat} {l : List Lt} (h : (trLts l).rd w (.slice (some ⟨b, 0, none⟩) n c)) {k m : Nat} (hk : k ≤ l.length) (hm : m = l.length - k) : (trLts (l.drop k)).rd w (.slice (some ⟨b, k * 3, none⟩) m c') := by
  have := rdT_drop (c' := c') h hk hm
  rwa [Nat.zero_add] at this
theorem rdT_dropE {w : World} {A : Option Addr} {c' k : Nat} {l : List Lt} (h : l.length ≤ k) : (trLts (l.drop k)).rd w (.slice A (l.length - k) c') := by
  refine mk_rdT ⟨by rw [List.length_drop]; unfold maxLen; omega, cells3_len _, A, c', by rw [List.length_drop], .inl (by rw [List.length_drop]; omega)⟩
set_option maxRecDepth 100000 in
set_option maxHeartbeats 8000000 in
theorem specWithout_any (l : List Lt) (a : Int) (v : Value) (w : World) (hv : (trLts l).rd w v) (hlen : l.length ≤ 1048576) :
    Calls Try.prog 13 #[v, .int .i64 a] w fun e w' => ∃ v' F, e = .returned v' ∧ (trLts (woL l a)).own w' w.heap.size v' F ∧ F.Nodup ∧ Below w.heap.size w w' := by
  obtain ⟨hl, A, c, rfl, ga⟩ := rdLiteralS_t hv
  have GA := Lib.hid ga
  clear hv ga
  obtain ⟨i0, hi0, hz0, hz1, hz2⟩ := info_parts infoLiteral_t
  have S1 := Lib.hid (Sn.start w).emptyT
  go_enter Try.func13, Try.ntmps13
  go_wp2
  go_loopw [5, 11] (fun u i wr => ∃ (k : Nat) (F : List Nat), k ≤ l.length ∧ i = .int .i64 k ∧ Sn w wr [⟨rowT (woL (l.take k) a), u, F⟩]) (fun _ i _ => l.length - (intOf i).toNat)
  case atStart => exact ⟨0, _, Nat.zero_le _, rfl, by rw [List.take_zero, woL_nil]; exact S1.out⟩
  case round =>
    obtain ⟨k, F0, hkl, rfl, hS⟩ := hrel
    have S2 := Lib.hid hS
    clear hS S1
    by_cases hlt : k < l.length
    · have hlt' : (k : Int) < (l.length : Int) := by omega
      obtain ⟨b, o, rfl, hb, hc⟩ := GA.out k hlt
      obtain ⟨x0, x1, x2⟩ := hc k hlt
      have hx0 := (S2.out.1.cell (p := ⟨b, o + k * 3, none⟩) hb).trans x0
      have hx1 := (S2.out.1.cell (p := ⟨b, o + k * 3 + 1, none⟩) hb).trans x1
      have hx2 := (S2.out.1.cell (p := ⟨b, o + k * 3 + 2, none⟩) hb).trans x2
      clear hc x0 x1 x2
      have hT := woL_len (l.take k) a
      rw [List.length_take, Nat.min_eq_left hkl] at hT
      have NX := Lib.hid (woL_snoc a hlt)
      generalize l[k] = m at hx0 hx1 hx2 NX
      generalize woL (l.take k) a = T at S2 NX hT
      by_cases he : (k : Int) = a
      · have h1 : ((k : Int) == a) = true := by simpa using he
        have h2 : ((k : Int) != a) = false := by simpa using he
        have HE := Lib.hid he
        clear he
        have S3 := Lib.hid (S2.out.box 45 [.int .i64 m.ki, .int .i64 m.ac, .int .i64 m.va])
        have S4 := Lib.hid (S3.out.drop 0)
        go_wp2
        go_roundw
        case rel => exact ⟨k + 1, _, by omega, by go_num, by rw [NX.out, if_pos HE.out]; exact S4.out⟩
        case measure => simp [intOf]; omega
      · have h1 : ((k : Int) == a) = false := by simpa using he
        have h2 : ((k : Int) != a) = true := by simpa using he
        have HE := Lib.hid he
        clear he
        have S3 := Lib.hid ((S2.out.box 45 [.int .i64 m.ki, .int .i64 m.ac, .int .i64 m.va]).pick 1 rfl)
        simp only [List.eraseIdx_cons_succ, List.eraseIdx_cons_zero] at S3
        clear S2
        have OW := Lib.hid (S3.out.ownT)
        have hzs := S3.out.1.size
        go_wp2_with (first | (at_builtin; refine wpList_append_own_at _ rfl (.tmp 19) (.tmp 21) 25 rfl w.heap.size 45 i0 (.agg #[.int .i64 0, .int .i64 0, .int .i64 0]) 3 24 Try.underlying25 hi0 hz0 hz1 hz2 rfl (by decide) _ (T.length) (cells3 T) rfl (by exact OW.out.alloc _) ⟨_, 0, none⟩ 1 1 [.int .i64 m.ki, .int .i64 m.ac, .int .i64 m.va] rfl rfl ?cq1 ?cq2 ?cq3 ?cq4 ?cq5 ?_) | fail)
        try case cq1 => (intro j u hj; first | exact three_cells _ _ _ _ _ j u hj | (have h9 := three_cells (World.alloc wr (.cells #[.int .i64 m.ki, .int .i64 m.ac, .int .i64 m.va] 45)) (.int .i64 m.ki) (.int .i64 m.ac) (.int .i64 m.va) 45 j u hj; first | exact h9 | simpa only [World.size_alloc] using h9))
        try case cq2 => simp [Value.oneCell']
        try case cq3 => unfold maxLen; omega
        try case cq4 => omega
        try case cq5 => first | omega | (simp at hzs ⊢; omega)
        intro v8 w5 hown8 hg8 _ hat8
        obtain ⟨F5, h9⟩ := S3.out.appT (⟨m.ki, m.ac, m.va⟩ : Lt) ((Below.refl _ _).alloc (Nat.le_refl _) _) hown8 (by simp) hg8 (by simpa using hat8)
        have S5 := Lib.hid (h9.drop 1)
        simp only [List.eraseIdx_cons_succ, List.eraseIdx_cons_zero] at S5
        clear hown8 hg8 hat8 h9 OW hzs S3
        go_wp2
        go_roundw
        case rel => exact ⟨k + 1, F5, by omega, by go_num, by rw [NX.out, if_neg HE.out]; exact S5.out⟩
        case measure => simp [intOf]; omega
    · have hge : ¬ (k : Int) < (l.length : Int) := by omega
      obtain rfl : k = l.length := by omega
      rw [List.take_length] at S2
      have P := (S2.out.own 0 rfl)
      rw [rowT_tr] at P
      go_wp2
      go_ret
      first | exact ⟨_, _, rfl, P.1, P.2, S2.out.1⟩ | exact ⟨_, P.1, P.2, S2.out.1⟩ | exact ⟨_, rfl, _, P.1, P.2, S2.out.1⟩
set_option maxRecDepth 100000 in
set_option maxHeartbeats 8000000 in
theorem implWithout_any (l : List Lt) (a : Int) (v : Value) (w : World) {B0 : Nat} {G0 : List Nat} (ho : (trLts l).own w B0 v G0) (hlen : l.length ≤ 1048576) :
    Calls Try.prog 14 #[v, .int .i64 a] w fun e w' => ∃ v' F, e = .returned v' ∧ (trLts (woL l a)).own w' w.heap.size v' F ∧ F.Nodup ∧ Below w.heap.size w w' := by
  have OR := Lib.hid (ownT_row ho)
  have HR := Lib.hid (Tr.own_rd _ _ _ ho)
  rcases hb : inB a 0 ((l.length : Int) - 1) with _ | _
  · have h9 : ¬ inB a 0 ((l.length : Int) - 1) = true := by rw [hb]; simp
    rw [inB_iff] at h9
    have RES := Lib.hid (woL_no (l := l) (a := a) (by omega))
    clear h9
    have HB := Lib.hid hb
    clear hb ho
    obtain ⟨A, c, rfl⟩ := rdT_slice HR.out
    go_enter Try.func14, Try.ntmps14
    go_wp2_with fail
    refine (isBelowB_any a (l.length : Int) _).mono ?_
    rintro e w1 ⟨rfl, b⟩
    have S1 := Lib.hid ((Sn.start w).go b)
    clear b
    rw [HB.out]
    go_wp2_with fail
    refine (cloneT_any l _ _ (by exact own_below OR.out S1.out.1 (Nat.le_refl _)) (by omega)).mono ?_
    rintro e w2 ⟨v2, rfl, o, b⟩
    have S2 := Lib.hid (S1.out.newT o b)
    have P := (S2.out.own 0 rfl)
    rw [rowT_tr] at P
    go_wp2
    go_ret
    first | exact ⟨_, _, rfl, by rw [RES.out]; exact P.1, P.2, S2.out.1⟩ | exact ⟨_, by rw [RES.out]; exact P.1, P.2, S2.out.1⟩ | exact ⟨_, rfl, _, by rw [RES.out]; exact P.1, P.2, S2.out.1⟩
  · have hin := inB_iff.1 hb
    obtain ⟨n, rfl⟩ : ∃ n : Nat, a = (n : Int) := ⟨a.toNat, by omega⟩
    have hn : n < l.length := by omega
    have RES := Lib.hid (woL_yes hn)
    have HB := Lib.hid hb
    rcases ownsT_cases OR.out with ⟨rfl, h0⟩ | ⟨g, c, rfl, hg1, hg2, hnc⟩
    · omega
    have Q1 := Lib.hid (fun c' => rdT_take (c' := c') HR.out (k := n) (by omega))
    have Q2 := Lib.hid (fun m c' hm => rdT_drop (c' := c') (m := m) HR.out (k := n + 1) (by omega) hm)
    have hw1 : IntKind.i64.wrap ((n : Int) + 1) = ((n + 1 : Nat) : Int) := by rw [IntKind.wrap_i64]; omega
    have b1 : (n : Int) < (l.length : Int) := by omega
    have b2 : ((n + 1 : Nat) : Int) ≤ (l.length : Int) := by omega
    have b3 : (n : Int) ≤ (c : Int) := by omega
    have b4 : (l.length : Int) ≤ (c : Int) := by omega
    clear hb ho hin
    go_enter Try.func14, Try.ntmps14
    go_wp2_with fail
    refine (isBelowB_any (n : Int) (l.length : Int) _).mono ?_
    rintro e w1 ⟨rfl, b⟩
    have S1 := Lib.hid ((Sn.start w).go b)
    clear b
    rw [HB.out]
    have hc0 : ¬ c = 0 := by omega
    have N1 := Lib.hid (fun n c' => nilOk_atW ⟨g, 0, none⟩ n c')
    have S2 := Lib.hid S1.out.drew1
    have BB := Lib.hid ((Below.refl w1.heap.size w1).drew)
    go_wp2_with fail
    by_cases hcc : c = n + 1
    · have b5 : (n : Int) ≤ (n : Int) + 1 := by omega
      have b6 : (l.length : Int) ≤ (n : Int) + 1 := by omega
      have b7 : (n : Int) + 1 ≤ (l.length : Int) := by omega
      have b8 : (0 : Int) ≤ (n : Int) + 1 := by omega
      subst hcc
      refine wp_region_held_drew (S := fun W => Hid (Below w1.heap.size w1 W)) (by kernel_rfl) BB.out (fun hHeld => ?_)
      refine wpAnyH_take (i := 0) (v := ?_) rfl (by kernel_rfl) (by kernel_rfl) (by kernel_rfl) (fun _ _ _ h => h) (Or.inl ⟨by rfl, ?_⟩) (by assumption) ?_
      rotate_left
      · (intro W hSw; (try dsimp only at hSw); go_simp <;> with_reducible rfl)
      (try simp only [Act.put, List.getElem_toArray, List.getElem_cons_zero, List.setIfInBounds_toArray, List.set_cons_succ, List.set_cons_zero])
      refine wpAnyH_take (i := 1) (v := ?_) rfl (by kernel_rfl) (by kernel_rfl) (by kernel_rfl) (fun _ _ _ h => h) (Or.inl ⟨by rfl, ?_⟩) (by assumption) ?_
      rotate_left
      · (intro W hSw; (try dsimp only at hSw); go_simp <;> with_reducible rfl)
      (try simp only [Act.put, List.getElem_toArray, List.getElem_cons_succ, List.getElem_cons_zero, List.setIfInBounds_toArray, List.set_cons_succ, List.set_cons_zero])
      refine wpAnyH_take (i := 2) (v := ?_) rfl (by kernel_rfl) (by kernel_rfl) (by kernel_rfl) (fun _ _ _ h => h) (Or.inl ⟨by rfl, ?_⟩) (by assumption) ?_
      rotate_left
      · (intro W hSw; (try dsimp only at hSw); go_simp <;> with_reducible rfl)
      (try simp only [Act.put, List.getElem_toArray, List.getElem_cons_succ, List.getElem_cons_zero, List.setIfInBounds_toArray, List.set_cons_succ, List.set_cons_zero])
      refine wpAnyH_take (i := 3) (v := ?_) rfl (by kernel_rfl) (by kernel_rfl) (by kernel_rfl) (fun _ _ _ h => h) (Or.inl ⟨by rfl, ?_⟩) (by assumption) ?_
      rotate_left
      · (intro W hSw; (try dsimp only at hSw); go_simp <;> with_reducible rfl)
      (try simp only [Act.put, List.getElem_toArray, List.getElem_cons_succ, List.getElem_cons_zero, List.setIfInBounds_toArray, List.set_cons_succ, List.set_cons_zero])
      refine wpAnyH_take (i := 4) (v := ?_) rfl (by kernel_rfl) (by kernel_rfl) (by kernel_rfl) (fun _ _ _ h => h) (Or.inl ⟨by rfl, ?_⟩) (by assumption) ?_
      rotate_left
      · (intro W hSw; (try dsimp only at hSw); go_simp <;> with_reducible rfl)
      (try simp only [Act.put, List.getElem_toArray, List.getElem_cons_succ, List.getElem_cons_zero, List.setIfInBounds_toArray, List.set_cons_succ, List.set_cons_zero])
      refine wpAnyH_take (i := 5) (v := ?_) rfl (by kernel_rfl) (by kernel_rfl) (by kernel_rfl) (fun _ _ _ h => h) (Or.inl ⟨by rfl, ?_⟩) (by assumption) ?_
      rotate_left
      · (intro W hSw; (try dsimp only at hSw); go_simp <;> with_reducible rfl)
      (try simp only [Act.put, List.getElem_toArray, List.getElem_cons_succ, List.getElem_cons_zero, List.setIfInBounds_toArray, List.set_cons_succ, List.set_cons_zero])
      refine wpAnyH_take (i := 6) (v := ?_) rfl (by kernel_rfl) (by kernel_rfl) (by kernel_rfl) (fun _ _ _ h => h) (Or.inl ⟨by rfl, ?_⟩) (by assumption) ?_
      rotate_left
      · (intro W hSw; (try dsimp only at hSw); go_simp <;> with_reducible rfl)
      (try simp only [Act.put, List.getElem_toArray, List.getElem_cons_succ, List.getElem_cons_zero, List.setIfInBounds_toArray, List.set_cons_succ, List.set_cons_zero])
      refine wpAnyH_ready (rs := [7]) (by kernel_rfl) (by simp) ?_
      refine AllReadyH.cons rfl (fun K hK => ?_) AllReadyH.nil
      go_simp
      have BA := Lib.hid (BB.out.alloc BB.out.size (.cells #[.slice (some ⟨g, 0, none⟩) n (n + 1), .slice (some ⟨g, 0, none⟩) 0 0] 25))
      refine hK.out _ _ (Lib.hid BA.out) (fun hHeld7 => ?_)
      clear hK K
      have S3 := Lib.hid (S2.out.go ((Below.refl _ _).alloc (Nat.le_refl _) (.cells #[.slice (some ⟨g, 0, none⟩) n (n + 1), .slice (some ⟨g, 0, none⟩) 0 0] 25)))
      have R5 := Lib.hid (newVT_any w1.drew 25 [.slice (some ⟨g, 0, none⟩) n (n + 1), .slice (some ⟨g, 0, none⟩) 0 0] (by simp [maxLen]))
      have P1 := Lib.hid (Tr.rd_below S3.out.1 (Nat.le_refl _) _ _ (Q1.out (n + 1)))
      have P2 := Lib.hid (Tr.rd_below S3.out.1 (Nat.le_refl _) _ _ (show (trLts (l.drop (n + 1))).rd w (.slice (some ⟨g, 0, none⟩) 0 0) from by have h9 := rdT_dropE (w := w) (A := some ⟨g, 0, none⟩) (c' := 0) (show l.length ≤ n + 1 by omega); rwa [show l.length - (n + 1) = 0 by omega] at h9))
      have hl2 : (l.take n ++ l.drop (n + 1)).length ≤ l.length := by rw [List.length_append, List.length_take, List.length_drop]; omega
      have BC := Lib.hid BA.out
      clear BA S2
      refine wpAnyH_ready (rs := [8]) (by kernel_rfl) (by simp) ?_
      refine AllReadyH.cons rfl (fun K hK => ?_) AllReadyH.nil
      go_simp
      refine (concatT_any [.slice (some ⟨g, 0, none⟩) n (n + 1), .slice (some ⟨g, 0, none⟩) 0 0] [l.take n, l.drop (n + 1)] _ _ (by first | exact R5.out | simpa using R5.out) rfl (by simp) (two_allT (by exact ⟨P1.out, N1.out _ _⟩) (by exact ⟨P2.out, nilOk_atW _ _ _⟩)) (by rw [catT_two]; omega)).mono ?_
      rintro e w6 ⟨v6, rfl, o6, bb⟩
      rw [catT_two] at o6
      have S6 := Lib.hid (S3.out.newT o6 bb)
      (first | done | go_wp2_with fail | skip)
      refine hK.out _ _ (Lib.hid (BC.out.trans (bb.mono BC.out.size))) (fun hHeld8 => ?_)
      clear hK K bb o6 S3 R5 P1 P2
      refine wpAnyH_take (i := 9) (v := ?_) rfl (by kernel_rfl) (by kernel_rfl) (by kernel_rfl) (fun _ _ _ h => h) (Or.inl ⟨by rfl, ?_⟩) (by assumption) ?_
      rotate_left
      · (intro W hSw; (try dsimp only at hSw); go_simp <;> with_reducible rfl)
      (try simp only [Act.put, List.getElem_toArray, List.getElem_cons_succ, List.getElem_cons_zero, List.setIfInBounds_toArray, List.set_cons_succ, List.set_cons_zero])
      refine wpAnyH_done (by kernel_rfl) ?_ _
      have P := S6.out.own 0 rfl
      rw [rowT_tr, ← RES.out] at P
      go_wp2
      go_ret
      first | exact ⟨_, _, rfl, P.1, P.2, S6.out.1⟩ | exact ⟨_, P.1, P.2, S6.out.1⟩ | exact ⟨_, rfl, _, P.1, P.2, S6.out.1⟩
    · have b8 : (0 : Int) ≤ (n : Int) + 1 := by omega
      have b7 : (n : Int) + 1 ≤ (l.length : Int) := by omega
      have Q3 := Lib.hid (fun c' => rdT_dropZ (c' := c') (m := l.length - (n + 1)) HR.out (k := n + 1) (by omega) rfl)
      refine wp_region_held_drew (S := fun W => Hid (Below w1.heap.size w1 W)) (by kernel_rfl) BB.out (fun hHeld => ?_)
      refine wpAnyH_take (i := 0) (v := ?_) rfl (by kernel_rfl) (by kernel_rfl) (by kernel_rfl) (fun _ _ _ h => h) (Or.inl ⟨by rfl, ?_⟩) (by assumption) ?_
      rotate_left
      · (intro W hSw; (try dsimp only at hSw); go_simp <;> with_reducible rfl)
      (try simp only [Act.put, List.getElem_toArray, List.getElem_cons_zero, List.setIfInBounds_toArray, List.set_cons_succ, List.set_cons_zero])
      refine wpAnyH_take (i := 1) (v := ?_) rfl (by kernel_rfl) (by kernel_rfl) (by kernel_rfl) (fun _ _ _ h => h) (Or.inl ⟨by rfl, ?_⟩) (by assumption) ?_
      rotate_left
      · (intro W hSw; (try dsimp only at hSw); go_simp <;> with_reducible rfl)
      (try simp only [Act.put, List.getElem_toArray, List.getElem_cons_succ, List.getElem_cons_zero, List.setIfInBounds_toArray, List.set_cons_succ, List.set_cons_zero])
      refine wpAnyH_take (i := 2) (v := ?_) rfl (by kernel_rfl) (by kernel_rfl) (by kernel_rfl) (fun _ _ _ h => h) (Or.inl ⟨by rfl, ?_⟩) (by assumption) ?_
      rotate_left
      · (intro W hSw; (try dsimp only at hSw); go_simp <;> with_reducible rfl)
      (try simp only [Act.put, List.getElem_toArray, List.getElem_cons_succ, List.getElem_cons_zero, List.setIfInBounds_toArray, List.set_cons_succ, List.set_cons_zero])
      refine wpAnyH_take (i := 3) (v := ?_) rfl (by kernel_rfl) (by kernel_rfl) (by kernel_rfl) (fun _ _ _ h => h) (Or.inl ⟨by rfl, ?_⟩) (by assumption) ?_
      rotate_left
      · (intro W hSw; (try dsimp only at hSw); go_simp <;> with_reducible rfl)
      (try simp only [Act.put, List.getElem_toArray, List.getElem_cons_succ, List.getElem_cons_zero, List.setIfInBounds_toArray, List.set_cons_succ, List.set_cons_zero])
      refine wpAnyH_take (i := 4) (v := ?_) rfl (by kernel_rfl) (by kernel_rfl) (by kernel_rfl) (fun _ _ _ h => h) (Or.inl ⟨by rfl, ?_⟩) (by assumption) ?_
      rotate_left
      · (intro W hSw; (try dsimp only at hSw); go_simp <;> with_reducible rfl)
      (try simp only [Act.put, List.getElem_toArray, List.getElem_cons_succ, List.getElem_cons_zero, List.setIfInBounds_toArray, List.set_cons_succ, List.set_cons_zero])
      refine wpAnyH_take (i := 5) (v := ?_) rfl (by kernel_rfl) (by kernel_rfl) (by kernel_rfl) (fun _ _ _ h => h) (Or.inl ⟨by rfl, ?_⟩) (by assumption) ?_
      rotate_left
      · (intro W hSw; (try dsimp only at hSw); go_simp <;> with_reducible rfl)
      (try simp only [Act.put, List.getElem_toArray, List.getElem_cons_succ, List.getElem_cons_zero, List.setIfInBounds_toArray, List.set_cons_succ, List.set_cons_zero])
      refine wpAnyH_take (i := 6) (v := ?_) rfl (by kernel_rfl) (by kernel_rfl) (by kernel_rfl) (fun _ _ _ h => h) (Or.inl ⟨by rfl, ?_⟩) (by assumption) ?_
      rotate_left
      · (intro W hSw; (try dsimp only at hSw); go_simp <;> with_reducible rfl)
      (try simp only [Act.put, List.getElem_toArray, List.getElem_cons_succ, List.getElem_cons_zero, List.setIfInBounds_toArray, List.set_cons_succ, List.set_cons_zero])
      refine wpAnyH_ready (rs := [7]) (by kernel_rfl) (by simp) ?_
      refine AllReadyH.cons rfl (fun K hK => ?_) AllReadyH.nil
      go_simp
      have BA := Lib.hid (BB.out.alloc BB.out.size (.cells #[.slice (some ⟨g, 0, none⟩) n c, .slice (some ⟨g, (n + 1) * 3, none⟩) (l.length - (n + 1)) (c - (n + 1))] 25))
      refine hK.out _ _ (Lib.hid BA.out) (fun hHeld7 => ?_)
      clear hK K
      have S3 := Lib.hid (S2.out.go ((Below.refl _ _).alloc (Nat.le_refl _) (.cells #[.slice (some ⟨g, 0, none⟩) n c, .slice (some ⟨g, (n + 1) * 3, none⟩) (l.length - (n + 1)) (c - (n + 1))] 25)))
      have R5 := Lib.hid (newVT_any w1.drew 25 [.slice (some ⟨g, 0, none⟩) n c, .slice (some ⟨g, (n + 1) * 3, none⟩) (l.length - (n + 1)) (c - (n + 1))] (by simp [maxLen]))
      have P1 := Lib.hid (Tr.rd_below S3.out.1 (Nat.le_refl _) _ _ (Q1.out c))
      have P2 := Lib.hid (Tr.rd_below S3.out.1 (Nat.le_refl _) _ _ (Q3.out (c - (n + 1))))
      have hl2 : (l.take n ++ l.drop (n + 1)).length ≤ l.length := by rw [List.length_append, List.length_take, List.length_drop]; omega
      have BC := Lib.hid BA.out
      clear BA S2
      refine wpAnyH_ready (rs := [8]) (by kernel_rfl) (by simp) ?_
      refine AllReadyH.cons rfl (fun K hK => ?_) AllReadyH.nil
      go_simp
      refine (concatT_any [.slice (some ⟨g, 0, none⟩) n c, .slice (some ⟨g, (n + 1) * 3, none⟩) (l.length - (n + 1)) (c - (n + 1))] [l.take n, l.drop (n + 1)] _ _ (by first | exact R5.out | simpa using R5.out) rfl (by simp) (two_allT (by exact ⟨P1.out, N1.out _ _⟩) (by exact ⟨P2.out, nilOk_atW _ _ _⟩)) (by rw [catT_two]; omega)).mono ?_
      rintro e w6 ⟨v6, rfl, o6, bb⟩
      rw [catT_two] at o6
      have S6 := Lib.hid (S3.out.newT o6 bb)
      (first | done | go_wp2_with fail | skip)
      refine hK.out _ _ (Lib.hid (BC.out.trans (bb.mono BC.out.size))) (fun hHeld8 => ?_)
      clear hK K bb o6 S3 R5 P1 P2
      refine wpAnyH_take (i := 9) (v := ?_) rfl (by kernel_rfl) (by kernel_rfl) (by kernel_rfl) (fun _ _ _ h => h) (Or.inl ⟨by rfl, ?_⟩) (by assumption) ?_
      rotate_left
      · (intro W hSw; (try dsimp only at hSw); go_simp <;> with_reducible rfl)
      (try simp only [Act.put, List.getElem_toArray, List.getElem_cons_succ, List.getElem_cons_zero, List.setIfInBounds_toArray, List.set_cons_succ, List.set_cons_zero])
      refine wpAnyH_done (by kernel_rfl) ?_ _
      have P := S6.out.own 0 rfl
      rw [rowT_tr, ← RES.out] at P
      go_wp2
      go_ret
      first | exact ⟨_, _, rfl, P.1, P.2, S6.out.1⟩ | exact ⟨_, P.1, P.2, S6.out.1⟩ | exact ⟨_, rfl, _, P.1, P.2, S6.out.1⟩
end Go.Proofs.Ytgbpomakomddjaa
