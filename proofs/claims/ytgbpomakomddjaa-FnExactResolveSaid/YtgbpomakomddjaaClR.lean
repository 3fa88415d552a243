/- DERIVED. CONTRACTS of chapter 14: othersThan, Resolve of both programs. -/
import Derived.Test.YtgbpomakomddjaaClE
import Derived.Test.YtgbpomakomddjaaLtA
import Derived.Test.YtgbpomakomddjaaRwT
import Derived.Test.YtgbpomakomddjaaClI
import Derived.Test.YtgbpomakomddjaaClJ
import Derived.Test.YtgbpomakomddjaaConT
namespace Go.Proofs.Ytgbpomakomddjaa
open Go.RowKit Go.Shelf
set_option linter.unusedVariables false

def othL (l : Lt) (xs : List Lt) : List Lt := xs.filter fun x => x != l
theorem oth_len (l : Lt) (xs : List Lt) : (othL l xs).length ≤ xs.length := List.length_filter_le _ _
theorem oth_yes {l : Lt} {xs : List Lt} {k : Nat} (h : k < xs.length) (hn : ¬ xs[k] = l) : othL l (xs.take (k + 1)) = othL l (xs.take k) ++ [xs[k]] := by
  have e : (xs[k] != l) = true := by simpa using hn
  rw [othL, filter_snoc h]
  simp only [e, if_true]; rfl
theorem oth_no {l : Lt} {xs : List Lt} {k : Nat} (h : k < xs.length) (hn : xs[k] = l) : othL l (xs.take (k + 1)) = othL l (xs.take k) := by
  have e : (xs[k] != l) = false := by simp [hn]
  rw [othL, filter_snoc h]
  simp only [e, Bool.false_eq_true, if_false, List.append_nil]; rfl
theorem res_oth (a b : List Lt) (l : Lt) : resL a b l = newL (othL l a ++ othL (negL l) b) := rfl
set_option maxRecDepth 100000 in
set_option maxHeartbeats 8000000 in
theorem othersThan_any (l : Lt) (xs : List Lt) (v : Value) (w : World) (hv : (trLts xs).rd w v) (hlen : xs.length ≤ 1048576) :
    Calls Try.prog 44 #[ltV l, v] w fun e w' => ∃ v' F, e = .returned v' ∧ (trLts (othL l xs)).own w' w.heap.size v' F ∧ F.Nodup ∧ Below w.heap.size w w' := by
  obtain ⟨hl, A, c, rfl, ga⟩ := rdLiteralS_t hv
  have GA := Lib.hid ga
  clear hv ga
  obtain ⟨i0, hi0, hz0, hz1, hz2⟩ := info_parts infoLiteral_t
  obtain ⟨l0, l1, l2⟩ := l
  have S0 := Lib.hid ((Sn.start w).box 45 [.int .i64 l0, .int .i64 l1, .int .i64 l2])
  have S1 := Lib.hid S0.out.nilT
  clear S0
  unfold ltV
  go_enter Try.func44, Try.ntmps44
  go_wp2
  go_loopw [5, 10] (fun u i wr => ∃ (k : Nat) (F : List Nat), k ≤ xs.length ∧ i = .int .i64 k ∧ Sn w wr [⟨rowT (othL ⟨l0, l1, l2⟩ (xs.take k)), u, F⟩, boxI w.heap.size 45 [.int .i64 l0, .int .i64 l1, .int .i64 l2]]) (fun _ i _ => xs.length - (intOf i).toNat)
  case atStart => exact ⟨0, _, Nat.zero_le _, rfl, by simpa [othL] using S1.out⟩
  case round =>
    obtain ⟨k, F0, hkl, rfl, hS⟩ := hrel
    have S2 := Lib.hid hS
    clear hS S1
    by_cases hlt : k < xs.length
    · have hlt' : (k : Int) < (xs.length : Int) := by omega
      obtain ⟨b, o, rfl, hb, hc⟩ := GA.out k hlt
      obtain ⟨x0, x1, x2⟩ := hc k hlt
      have hx0 := (S2.out.1.cell (p := ⟨b, o + k * 3, none⟩) hb).trans x0
      have hx1 := (S2.out.1.cell (p := ⟨b, o + k * 3 + 1, none⟩) hb).trans x1
      have hx2 := (S2.out.1.cell (p := ⟨b, o + k * 3 + 2, none⟩) hb).trans x2
      clear hc x0 x1 x2
      have hT := oth_len ⟨l0, l1, l2⟩ (xs.take k)
      rw [List.length_take, Nat.min_eq_left hkl] at hT
      by_cases he : xs[k] = ⟨l0, l1, l2⟩
      · have NX := Lib.hid (oth_no hlt he)
        rw [he] at hx0 hx1 hx2
        clear he
        have S3 := Lib.hid (S2.out.box 45 [.int .i64 l0, .int .i64 l1, .int .i64 l2])
        obtain ⟨q0, q1, q2, qf⟩ := (S3.out.bk 2 rfl).c3
        have S4 := Lib.hid (S3.out.drop 0)
        go_wp2
        go_roundw
        case rel => exact ⟨k + 1, _, by omega, by go_num, by rw [NX.out]; exact S4.out⟩
        case measure => simp [intOf]; omega
      · have NX := Lib.hid (oth_yes hlt he)
        generalize hm : xs[k] = m at hx0 hx1 hx2 he NX
        clear hm
        have hTL : (othL ⟨l0, l1, l2⟩ (xs.take k)).length ≤ k := by omega
        generalize hTT : othL ⟨l0, l1, l2⟩ (xs.take k) = T at S2 hTL
        have HTT := Lib.hid hTT
        clear hTT
        obtain ⟨m0, m1, m2⟩ := m
        rcases lt_ne he with h0 | ⟨rfl, h0⟩ | ⟨rfl, rfl, h0⟩
        · have h1 : (m0 == l0) = false := by simpa using h0
          have h2 : (m0 != l0) = true := by simpa using h0
          clear he h0
          have S3 := Lib.hid ((S2.out.box 45 [.int .i64 m0, .int .i64 m1, .int .i64 m2]).pick 1 rfl)
          simp only [List.eraseIdx_cons_succ, List.eraseIdx_cons_zero] at S3
          clear S2
          obtain ⟨q0, q1, q2, qf⟩ := (S3.out.bk 2 rfl).c3
          have OW := Lib.hid (S3.out.ownT)
          have hzs := S3.out.1.size
          go_wp2_with (first | (at_builtin; refine wpList_append_own_at _ rfl (.tmp 17) (.tmp 19) 25 rfl w.heap.size 45 i0 (.agg #[.int .i64 0, .int .i64 0, .int .i64 0]) 3 24 Try.underlying25 hi0 hz0 hz1 hz2 rfl (by decide) _ (T.length) (cells3 T) rfl (by exact OW.out.alloc _) ⟨_, 0, none⟩ 1 1 [.int .i64 m0, .int .i64 m1, .int .i64 m2] rfl rfl ?cq1 ?cq2 ?cq3 ?cq4 ?cq5 ?_) | fail)
          try case cq1 => (intro j u hj; first | exact three_cells _ _ _ _ _ j u hj | (have h9 := three_cells (World.alloc wr (.cells #[.int .i64 m0, .int .i64 m1, .int .i64 m2] 45)) (.int .i64 m0) (.int .i64 m1) (.int .i64 m2) 45 j u hj; first | exact h9 | simpa only [World.size_alloc] using h9))
          try case cq2 => simp [Value.oneCell']
          try case cq3 => unfold maxLen; omega
          try case cq4 => omega
          try case cq5 => first | omega | (simp at hzs ⊢; omega)
          intro v8 w5 hown8 hg8 _ hat8
          obtain ⟨F5, h9⟩ := S3.out.appT (⟨m0, m1, m2⟩ : Lt) ((Below.refl _ _).alloc (Nat.le_refl _) _) hown8 (by simp) hg8 (by simpa using hat8)
          have S5 := Lib.hid (h9.drop 1)
          simp only [List.eraseIdx_cons_succ, List.eraseIdx_cons_zero] at S5
          clear hown8 hg8 hat8 h9 OW hzs S3
          go_wp2
          go_roundw
          case rel => exact ⟨k + 1, F5, by omega, by go_num, by rw [NX.out, HTT.out]; exact S5.out⟩
          case measure => simp [intOf]; omega
        · have h1 : (m1 == l1) = false := by simpa using h0
          have h2 : (m1 != l1) = true := by simpa using h0
          clear he h0
          have S3 := Lib.hid ((S2.out.box 45 [.int .i64 m0, .int .i64 m1, .int .i64 m2]).pick 1 rfl)
          simp only [List.eraseIdx_cons_succ, List.eraseIdx_cons_zero] at S3
          clear S2
          obtain ⟨q0, q1, q2, qf⟩ := (S3.out.bk 2 rfl).c3
          have OW := Lib.hid (S3.out.ownT)
          have hzs := S3.out.1.size
          go_wp2_with (first | (at_builtin; refine wpList_append_own_at _ rfl (.tmp 17) (.tmp 19) 25 rfl w.heap.size 45 i0 (.agg #[.int .i64 0, .int .i64 0, .int .i64 0]) 3 24 Try.underlying25 hi0 hz0 hz1 hz2 rfl (by decide) _ (T.length) (cells3 T) rfl (by exact OW.out.alloc _) ⟨_, 0, none⟩ 1 1 [.int .i64 m0, .int .i64 m1, .int .i64 m2] rfl rfl ?cq1 ?cq2 ?cq3 ?cq4 ?cq5 ?_) | fail)
          try case cq1 => (intro j u hj; first | exact three_cells _ _ _ _ _ j u hj | (have h9 := three_cells (World.alloc wr (.cells #[.int .i64 m0, .int .i64 m1, .int .i64 m2] 45)) (.int .i64 m0) (.int .i64 m1) (.int .i64 m2) 45 j u hj; first | exact h9 | simpa only [World.size_alloc] using h9))
          try case cq2 => simp [Value.oneCell']
          try case cq3 => unfold maxLen; omega
          try case cq4 => omega
          try case cq5 => first | omega | (simp at hzs ⊢; omega)
          intro v8 w5 hown8 hg8 _ hat8
          obtain ⟨F5, h9⟩ := S3.out.appT (⟨m0, m1, m2⟩ : Lt) ((Below.refl _ _).alloc (Nat.le_refl _) _) hown8 (by simp) hg8 (by simpa using hat8)
          have S5 := Lib.hid (h9.drop 1)
          simp only [List.eraseIdx_cons_succ, List.eraseIdx_cons_zero] at S5
          clear hown8 hg8 hat8 h9 OW hzs S3
          go_wp2
          go_roundw
          case rel => exact ⟨k + 1, F5, by omega, by go_num, by rw [NX.out, HTT.out]; exact S5.out⟩
          case measure => simp [intOf]; omega
        · have h1 : (m2 == l2) = false := by simpa using h0
          have h2 : (m2 != l2) = true := by simpa using h0
          clear he h0
          have S3 := Lib.hid ((S2.out.box 45 [.int .i64 m0, .int .i64 m1, .int .i64 m2]).pick 1 rfl)
          simp only [List.eraseIdx_cons_succ, List.eraseIdx_cons_zero] at S3
          clear S2
          obtain ⟨q0, q1, q2, qf⟩ := (S3.out.bk 2 rfl).c3
          have OW := Lib.hid (S3.out.ownT)
          have hzs := S3.out.1.size
          go_wp2_with (first | (at_builtin; refine wpList_append_own_at _ rfl (.tmp 17) (.tmp 19) 25 rfl w.heap.size 45 i0 (.agg #[.int .i64 0, .int .i64 0, .int .i64 0]) 3 24 Try.underlying25 hi0 hz0 hz1 hz2 rfl (by decide) _ (T.length) (cells3 T) rfl (by exact OW.out.alloc _) ⟨_, 0, none⟩ 1 1 [.int .i64 m0, .int .i64 m1, .int .i64 m2] rfl rfl ?cq1 ?cq2 ?cq3 ?cq4 ?cq5 ?_) | fail)
          try case cq1 => (intro j u hj; first | exact three_cells _ _ _ _ _ j u hj | (have h9 := three_cells (World.alloc wr (.cells #[.int .i64 m0, .int .i64 m1, .int .i64 m2] 45)) (.int .i64 m0) (.int .i64 m1) (.int .i64 m2) 45 j u hj; first | exact h9 | simpa only [World.size_alloc] using h9))
          try case cq2 => simp [Value.oneCell']
          try case cq3 => unfold maxLen; omega
          try case cq4 => omega
          try case cq5 => first | omega | (simp at hzs ⊢; omega)
          intro v8 w5 hown8 hg8 _ hat8
          obtain ⟨F5, h9⟩ := S3.out.appT (⟨m0, m1, m2⟩ : Lt) ((Below.refl _ _).alloc (Nat.le_refl _) _) hown8 (by simp) hg8 (by simpa using hat8)
          have S5 := Lib.hid (h9.drop 1)
          simp only [List.eraseIdx_cons_succ, List.eraseIdx_cons_zero] at S5
          clear hown8 hg8 hat8 h9 OW hzs S3
          go_wp2
          go_roundw
          case rel => exact ⟨k + 1, F5, by omega, by go_num, by rw [NX.out, HTT.out]; exact S5.out⟩
          case measure => simp [intOf]; omega

    · have hge : ¬ (k : Int) < (xs.length : Int) := by omega
      obtain rfl : k = xs.length := by omega
      rw [List.take_length] at S2
      have P := (S2.out.own 0 rfl)
      rw [rowT_tr] at P
      go_wp2
      go_ret
      first | exact ⟨_, _, rfl, P.1, P.2, S2.out.1⟩ | exact ⟨_, P.1, P.2, S2.out.1⟩ | exact ⟨_, rfl, _, P.1, P.2, S2.out.1⟩
theorem specNegate_v {l0 l1 l2 n0 n1 n2 : Int} (h : negL ⟨l0, l1, l2⟩ = ⟨n0, n1, n2⟩) (w : World) : Calls Try.prog 43 #[.agg #[.int .i64 l0, .int .i64 l1, .int .i64 l2]] w fun e w' => e = .returned (.agg #[.int .i64 n0, .int .i64 n1, .int .i64 n2]) ∧ Below w.heap.size w w' := by
  have := specNegate_any ⟨l0, l1, l2⟩ w
  rw [h] at this
  exact this
theorem implNegate_v {l0 l1 l2 n0 n1 n2 : Int} (h : negL ⟨l0, l1, l2⟩ = ⟨n0, n1, n2⟩) (w : World) : Calls Try.prog 45 #[.agg #[.int .i64 l0, .int .i64 l1, .int .i64 l2]] w fun e w' => e = .returned (.agg #[.int .i64 n0, .int .i64 n1, .int .i64 n2]) ∧ Below w.heap.size w w' := by
  have := implNegate_any ⟨l0, l1, l2⟩ w
  rw [h] at this
  exact this
set_option maxRecDepth 100000 in
set_option maxHeartbeats 8000000 in
theorem specResolve_any (a b : List Lt) (l : Lt) (v u : Value) (w : World) (ha : (trLts a).rd w v) (hb : (trLts b).rd w u) (hlb : a.length + b.length ≤ 1048576) :
    Calls Try.prog 24 #[v, u, ltV l] w fun e w' => ∃ v' F, e = .returned v' ∧ (trLts (resL a b l)).own w' w.heap.size v' F ∧ F.Nodup ∧ Below w.heap.size w w' := by
  rw [res_oth]
  obtain ⟨hl, A, c, rfl, ga⟩ := rdLiteralS_t ha
  have GA := Lib.hid ga
  obtain ⟨hl2, B, c2, rfl, gb⟩ := rdLiteralS_t hb
  have GB := Lib.hid gb
  clear ha hb ga gb
  obtain ⟨i0, hi0, hz0, hz1, hz2⟩ := info_parts infoLiteral_t
  obtain ⟨l0, l1, l2⟩ := l
  generalize hnn : negL ⟨l0, l1, l2⟩ = nn
  obtain ⟨n0, n1, n2⟩ := nn
  have HNN := Lib.hid hnn
  clear hnn
  have S0 := Lib.hid ((Sn.start w).box 45 [.int .i64 l0, .int .i64 l1, .int .i64 l2])
  have S1 := Lib.hid S0.out.emptyT
  clear S0
  unfold ltV
  go_enter Try.func24, Try.ntmps24
  go_wp2
  go_loopw [7, 15] (fun u i wr => ∃ (k : Nat) (F : List Nat), k ≤ a.length ∧ i = .int .i64 k ∧ Sn w wr [⟨rowT (othL ⟨l0, l1, l2⟩ (a.take k)), u, F⟩, boxI w.heap.size 45 [.int .i64 l0, .int .i64 l1, .int .i64 l2]]) (fun _ i _ => a.length - (intOf i).toNat)
  case atStart => exact ⟨0, _, Nat.zero_le _, rfl, by simpa [othL] using S1.out⟩
  case round =>
    obtain ⟨k, F0, hkl, rfl, hS⟩ := hrel
    have S2 := Lib.hid hS
    clear hS S1
    by_cases hlt : k < a.length
    · have hlt' : (k : Int) < (a.length : Int) := by omega
      obtain ⟨b, o, rfl, hb, hc⟩ := GA.out k hlt
      obtain ⟨x0, x1, x2⟩ := hc k hlt
      have hx0 := (S2.out.1.cell (p := ⟨b, o + k * 3, none⟩) hb).trans x0
      have hx1 := (S2.out.1.cell (p := ⟨b, o + k * 3 + 1, none⟩) hb).trans x1
      have hx2 := (S2.out.1.cell (p := ⟨b, o + k * 3 + 2, none⟩) hb).trans x2
      clear hc x0 x1 x2
      have hT := oth_len ⟨l0, l1, l2⟩ (a.take k)
      rw [List.length_take, Nat.min_eq_left hkl] at hT
      by_cases he : a[k] = ⟨l0, l1, l2⟩
      · have NX := Lib.hid (oth_no hlt he)
        rw [he] at hx0 hx1 hx2
        clear he
        have S3 := Lib.hid (S2.out.box 45 [.int .i64 l0, .int .i64 l1, .int .i64 l2])
        obtain ⟨q0, q1, q2, qf⟩ := (S3.out.bk 2 rfl).c3
        have S4 := Lib.hid (S3.out.drop 0)
        go_wp2
        go_roundw
        case rel => exact ⟨k + 1, _, by omega, by go_num, by rw [NX.out]; exact S4.out⟩
        case measure => simp [intOf]; omega
      · have NX := Lib.hid (oth_yes hlt he)
        generalize hm : a[k] = m at hx0 hx1 hx2 he NX
        clear hm
        have hTL : (othL ⟨l0, l1, l2⟩ (a.take k)).length ≤ k := by omega
        generalize hTT : othL ⟨l0, l1, l2⟩ (a.take k) = T at S2 hTL
        have HTT := Lib.hid hTT
        clear hTT
        obtain ⟨m0, m1, m2⟩ := m
        rcases lt_ne he with h0 | ⟨rfl, h0⟩ | ⟨rfl, rfl, h0⟩
        · have h1 : (m0 == l0) = false := by simpa using h0
          have h2 : (m0 != l0) = true := by simpa using h0
          clear he h0
          have S3 := Lib.hid ((S2.out.box 45 [.int .i64 m0, .int .i64 m1, .int .i64 m2]).pick 1 rfl)
          simp only [List.eraseIdx_cons_succ, List.eraseIdx_cons_zero] at S3
          clear S2
          obtain ⟨q0, q1, q2, qf⟩ := (S3.out.bk 2 rfl).c3
          have OW := Lib.hid (S3.out.ownT)
          have hzs := S3.out.1.size
          go_wp2_with (first | (at_builtin; refine wpList_append_own_at _ rfl (.tmp 22) (.tmp 24) 25 rfl w.heap.size 45 i0 (.agg #[.int .i64 0, .int .i64 0, .int .i64 0]) 3 24 Try.underlying25 hi0 hz0 hz1 hz2 rfl (by decide) _ (T.length) (cells3 T) rfl (by exact OW.out.alloc _) ⟨_, 0, none⟩ 1 1 [.int .i64 m0, .int .i64 m1, .int .i64 m2] rfl rfl ?cq1 ?cq2 ?cq3 ?cq4 ?cq5 ?_) | fail)
          try case cq1 => (intro j u hj; first | exact three_cells _ _ _ _ _ j u hj | (have h9 := three_cells (World.alloc wr (.cells #[.int .i64 m0, .int .i64 m1, .int .i64 m2] 45)) (.int .i64 m0) (.int .i64 m1) (.int .i64 m2) 45 j u hj; first | exact h9 | simpa only [World.size_alloc] using h9))
          try case cq2 => simp [Value.oneCell']
          try case cq3 => unfold maxLen; omega
          try case cq4 => omega
          try case cq5 => first | omega | (simp at hzs ⊢; omega)
          intro v8 w5 hown8 hg8 _ hat8
          obtain ⟨F5, h9⟩ := S3.out.appT (⟨m0, m1, m2⟩ : Lt) ((Below.refl _ _).alloc (Nat.le_refl _) _) hown8 (by simp) hg8 (by simpa using hat8)
          have S5 := Lib.hid (h9.drop 1)
          simp only [List.eraseIdx_cons_succ, List.eraseIdx_cons_zero] at S5
          clear hown8 hg8 hat8 h9 OW hzs S3
          go_wp2
          go_roundw
          case rel => exact ⟨k + 1, F5, by omega, by go_num, by rw [NX.out, HTT.out]; exact S5.out⟩
          case measure => simp [intOf]; omega
        · have h1 : (m1 == l1) = false := by simpa using h0
          have h2 : (m1 != l1) = true := by simpa using h0
          clear he h0
          have S3 := Lib.hid ((S2.out.box 45 [.int .i64 m0, .int .i64 m1, .int .i64 m2]).pick 1 rfl)
          simp only [List.eraseIdx_cons_succ, List.eraseIdx_cons_zero] at S3
          clear S2
          obtain ⟨q0, q1, q2, qf⟩ := (S3.out.bk 2 rfl).c3
          have OW := Lib.hid (S3.out.ownT)
          have hzs := S3.out.1.size
          go_wp2_with (first | (at_builtin; refine wpList_append_own_at _ rfl (.tmp 22) (.tmp 24) 25 rfl w.heap.size 45 i0 (.agg #[.int .i64 0, .int .i64 0, .int .i64 0]) 3 24 Try.underlying25 hi0 hz0 hz1 hz2 rfl (by decide) _ (T.length) (cells3 T) rfl (by exact OW.out.alloc _) ⟨_, 0, none⟩ 1 1 [.int .i64 m0, .int .i64 m1, .int .i64 m2] rfl rfl ?cq1 ?cq2 ?cq3 ?cq4 ?cq5 ?_) | fail)
          try case cq1 => (intro j u hj; first | exact three_cells _ _ _ _ _ j u hj | (have h9 := three_cells (World.alloc wr (.cells #[.int .i64 m0, .int .i64 m1, .int .i64 m2] 45)) (.int .i64 m0) (.int .i64 m1) (.int .i64 m2) 45 j u hj; first | exact h9 | simpa only [World.size_alloc] using h9))
          try case cq2 => simp [Value.oneCell']
          try case cq3 => unfold maxLen; omega
          try case cq4 => omega
          try case cq5 => first | omega | (simp at hzs ⊢; omega)
          intro v8 w5 hown8 hg8 _ hat8
          obtain ⟨F5, h9⟩ := S3.out.appT (⟨m0, m1, m2⟩ : Lt) ((Below.refl _ _).alloc (Nat.le_refl _) _) hown8 (by simp) hg8 (by simpa using hat8)
          have S5 := Lib.hid (h9.drop 1)
          simp only [List.eraseIdx_cons_succ, List.eraseIdx_cons_zero] at S5
          clear hown8 hg8 hat8 h9 OW hzs S3
          go_wp2
          go_roundw
          case rel => exact ⟨k + 1, F5, by omega, by go_num, by rw [NX.out, HTT.out]; exact S5.out⟩
          case measure => simp [intOf]; omega
        · have h1 : (m2 == l2) = false := by simpa using h0
          have h2 : (m2 != l2) = true := by simpa using h0
          clear he h0
          have S3 := Lib.hid ((S2.out.box 45 [.int .i64 m0, .int .i64 m1, .int .i64 m2]).pick 1 rfl)
          simp only [List.eraseIdx_cons_succ, List.eraseIdx_cons_zero] at S3
          clear S2
          obtain ⟨q0, q1, q2, qf⟩ := (S3.out.bk 2 rfl).c3
          have OW := Lib.hid (S3.out.ownT)
          have hzs := S3.out.1.size
          go_wp2_with (first | (at_builtin; refine wpList_append_own_at _ rfl (.tmp 22) (.tmp 24) 25 rfl w.heap.size 45 i0 (.agg #[.int .i64 0, .int .i64 0, .int .i64 0]) 3 24 Try.underlying25 hi0 hz0 hz1 hz2 rfl (by decide) _ (T.length) (cells3 T) rfl (by exact OW.out.alloc _) ⟨_, 0, none⟩ 1 1 [.int .i64 m0, .int .i64 m1, .int .i64 m2] rfl rfl ?cq1 ?cq2 ?cq3 ?cq4 ?cq5 ?_) | fail)
          try case cq1 => (intro j u hj; first | exact three_cells _ _ _ _ _ j u hj | (have h9 := three_cells (World.alloc wr (.cells #[.int .i64 m0, .int .i64 m1, .int .i64 m2] 45)) (.int .i64 m0) (.int .i64 m1) (.int .i64 m2) 45 j u hj; first | exact h9 | simpa only [World.size_alloc] using h9))
          try case cq2 => simp [Value.oneCell']
          try case cq3 => unfold maxLen; omega
          try case cq4 => omega
          try case cq5 => first | omega | (simp at hzs ⊢; omega)
          intro v8 w5 hown8 hg8 _ hat8
          obtain ⟨F5, h9⟩ := S3.out.appT (⟨m0, m1, m2⟩ : Lt) ((Below.refl _ _).alloc (Nat.le_refl _) _) hown8 (by simp) hg8 (by simpa using hat8)
          have S5 := Lib.hid (h9.drop 1)
          simp only [List.eraseIdx_cons_succ, List.eraseIdx_cons_zero] at S5
          clear hown8 hg8 hat8 h9 OW hzs S3
          go_wp2
          go_roundw
          case rel => exact ⟨k + 1, F5, by omega, by go_num, by rw [NX.out, HTT.out]; exact S5.out⟩
          case measure => simp [intOf]; omega

    · have hge : ¬ (k : Int) < (a.length : Int) := by omega
      obtain rfl : k = a.length := by omega
      rw [List.take_length] at S2
      have S6 := S2
      clear S2
      go_wp2
      go_loopw [7, 29] (fun u i wr => ∃ (k : Nat) (F : List Nat), k ≤ b.length ∧ i = .int .i64 k ∧ Sn w wr [⟨rowT (othL ⟨l0, l1, l2⟩ a ++ othL ⟨n0, n1, n2⟩ (b.take k)), u, F⟩, boxI w.heap.size 45 [.int .i64 l0, .int .i64 l1, .int .i64 l2]]) (fun _ i _ => b.length - (intOf i).toNat)
      case atStart => exact ⟨0, _, Nat.zero_le _, rfl, by simpa [othL] using S6.out⟩
      case round =>
        obtain ⟨k, F0, hkl, rfl, hS⟩ := hrel
        have S2 := Lib.hid hS
        clear hS S6
        by_cases hlt : k < b.length
        · have hlt' : (k : Int) < (b.length : Int) := by omega
          obtain ⟨b9, o, rfl, hb, hc⟩ := GB.out k hlt
          obtain ⟨x0, x1, x2⟩ := hc k hlt
          have hx0 := (S2.out.1.cell (p := ⟨b9, o + k * 3, none⟩) hb).trans x0
          have hx1 := (S2.out.1.cell (p := ⟨b9, o + k * 3 + 1, none⟩) hb).trans x1
          have hx2 := (S2.out.1.cell (p := ⟨b9, o + k * 3 + 2, none⟩) hb).trans x2
          clear hc x0 x1 x2
          have hT := oth_len ⟨n0, n1, n2⟩ (b.take k)
          rw [List.length_take, Nat.min_eq_left hkl] at hT
          by_cases he : b[k] = ⟨n0, n1, n2⟩
          · have NX := Lib.hid (oth_no hlt he)
            rw [he] at hx0 hx1 hx2
            clear he
            have S3 := Lib.hid (S2.out.box 45 [.int .i64 n0, .int .i64 n1, .int .i64 n2])
            go_wp2_with fail
            obtain ⟨p0, p1, p2, pf⟩ := (S3.out.bk 0 rfl).c3
            obtain ⟨q0, q1, q2, qf⟩ := (S3.out.bk 2 rfl).c3
            have hlp := (S3.out.bk 0 rfl).lt
            have hlq := (S3.out.bk 2 rfl).lt
            generalize hgx : wr.heap.size = gx at S3 p0 p1 p2 pf hlp ⊢
            generalize World.alloc wr _ = wx at S3 p0 p1 p2 pf q0 q1 q2 qf hlp hlq ⊢
            clear hgx
            have S7 := Lib.hid S3.out.drew1
            have CE := Lib.hid (fun (W : World) (h : Wr [] wx.drew W) => show Hid (Wr [] wx.drew W) ∧ W.cell? ⟨gx, 0, none⟩ = some (.int .i64 n0) ∧ W.cell? ⟨gx, 1, none⟩ = some (.int .i64 n1) ∧ W.cell? ⟨gx, 2, none⟩ = some (.int .i64 n2) ∧ W.cell? ⟨w.heap.size, 0, none⟩ = some (.int .i64 l0) ∧ W.cell? ⟨w.heap.size, 1, none⟩ = some (.int .i64 l1) ∧ W.cell? ⟨w.heap.size, 2, none⟩ = some (.int .i64 l2) from ⟨Lib.hid h, (wr_cell h (p := ⟨gx, 0, none⟩) hlp (by simp)).trans (by exact by simpa using p0), (wr_cell h (p := ⟨gx, 1, none⟩) hlp (by simp)).trans (by exact by simpa using p1), (wr_cell h (p := ⟨gx, 2, none⟩) hlp (by simp)).trans (by exact by simpa using p2), (wr_cell h (p := ⟨w.heap.size, 0, none⟩) hlq (by simp)).trans (by exact by simpa using q0), (wr_cell h (p := ⟨w.heap.size, 1, none⟩) hlq (by simp)).trans (by exact by simpa using q1), (wr_cell h (p := ⟨w.heap.size, 2, none⟩) hlq (by simp)).trans (by exact by simpa using q2)⟩)
            have INIT := Lib.hid (CE.out _ (Wr.refl _ _))
            have KW := Lib.hid (fun (W2 W : World) (hb : Wr [] W W2) (h : Hid (Wr [] wx.drew W) ∧ W.cell? ⟨gx, 0, none⟩ = some (.int .i64 n0) ∧ W.cell? ⟨gx, 1, none⟩ = some (.int .i64 n1) ∧ W.cell? ⟨gx, 2, none⟩ = some (.int .i64 n2) ∧ W.cell? ⟨w.heap.size, 0, none⟩ = some (.int .i64 l0) ∧ W.cell? ⟨w.heap.size, 1, none⟩ = some (.int .i64 l1) ∧ W.cell? ⟨w.heap.size, 2, none⟩ = some (.int .i64 l2)) => CE.out W2 (h.1.out.trans hb))
            clear p0 p1 p2 pf q0 q1 q2 qf hlp hlq S3
            refine wp_region_held_drew (S := fun W => Hid (Wr [] wx.drew W) ∧ W.cell? ⟨gx, 0, none⟩ = some (.int .i64 n0) ∧ W.cell? ⟨gx, 1, none⟩ = some (.int .i64 n1) ∧ W.cell? ⟨gx, 2, none⟩ = some (.int .i64 n2) ∧ W.cell? ⟨w.heap.size, 0, none⟩ = some (.int .i64 l0) ∧ W.cell? ⟨w.heap.size, 1, none⟩ = some (.int .i64 l1) ∧ W.cell? ⟨w.heap.size, 2, none⟩ = some (.int .i64 l2)) (by kernel_rfl) INIT.out (fun hHeld => ?_)
            refine wpAnyH_take (i := 0) (v := ?_) rfl (by kernel_rfl) (by kernel_rfl) (by kernel_rfl) (fun _ _ _ h => h) (Or.inl ⟨by rfl, ?_⟩) (by assumption) ?_
            rotate_left
            · (intro W hSw; (try dsimp only at hSw); go_simp <;> with_reducible rfl)
            (try simp only [Act.put, List.getElem_toArray, List.getElem_cons_zero, List.setIfInBounds_toArray, List.set_cons_succ, List.set_cons_zero])
            refine wpAnyH_take (i := 1) (v := ?_) rfl (by kernel_rfl) (by kernel_rfl) (by kernel_rfl) (fun _ _ _ h => h) (Or.inl ⟨by rfl, ?_⟩) (by assumption) ?_
            rotate_left
            · (intro W hSw; (try dsimp only at hSw); go_simp <;> with_reducible rfl)
            (try simp only [Act.put, List.getElem_toArray, List.getElem_cons_succ, List.getElem_cons_zero, List.setIfInBounds_toArray, List.set_cons_succ, List.set_cons_zero])
            refine wpAnyH_ready (rs := [2]) (by kernel_rfl) (by simp) ?_
            refine AllReadyH.cons rfl (fun K hK => ?_) AllReadyH.nil
            go_simp
            go_at_call 43
            refine (specNegate_v HNN.out _).mono ?_
            rintro e w8 ⟨rfl, bb⟩
            have S8 := Lib.hid (S7.out.go bb)
            (first | done | go_wp2_with fail)
            refine hK.out _ _ (KW.out _ _ (Wr.of_below bb (Nat.le_refl _)) (by assumption)) (fun hHeld2 => ?_)
            clear hK K bb S7
            refine wpAnyH_take (i := 3) (v := ?_) rfl (by kernel_rfl) (by kernel_rfl) (by kernel_rfl) (fun _ _ _ h => h) (Or.inl ⟨by rfl, ?_⟩) (by assumption) ?_
            rotate_left
            · (intro W hSw; (try dsimp only at hSw); go_simp <;> with_reducible rfl)
            (try simp only [Act.put, List.getElem_toArray, List.getElem_cons_succ, List.getElem_cons_zero, List.setIfInBounds_toArray, List.set_cons_succ, List.set_cons_zero])
            refine wpAnyH_done (by kernel_rfl) ?_ _
            clear CE INIT KW
            have S4 := Lib.hid (S8.out.drop 0)
            go_wp2
            go_roundw
            case rel => exact ⟨k + 1, _, by omega, by go_num, by rw [NX.out]; exact S4.out⟩
            case measure => simp [intOf]; omega
          · have NX := Lib.hid (oth_yes hlt he)
            generalize hm : b[k] = m at hx0 hx1 hx2 he NX
            clear hm
            have hTL : (othL ⟨l0, l1, l2⟩ a ++ othL ⟨n0, n1, n2⟩ (b.take k)).length ≤ a.length + k := by rw [List.length_append]; have := oth_len ⟨l0, l1, l2⟩ a; omega
            generalize hTT : othL ⟨l0, l1, l2⟩ a ++ othL ⟨n0, n1, n2⟩ (b.take k) = T at S2 hTL
            have HTT := Lib.hid hTT
            clear hTT
            obtain ⟨m0, m1, m2⟩ := m
            rcases lt_ne he with h0 | ⟨rfl, h0⟩ | ⟨rfl, rfl, h0⟩
            · have h1 : (m0 == n0) = false := by simpa using h0
              have h2 : (m0 != n0) = true := by simpa using h0
              clear he h0
              have S3 := Lib.hid ((S2.out.box 45 [.int .i64 m0, .int .i64 m1, .int .i64 m2]).pick 1 rfl)
              simp only [List.eraseIdx_cons_succ, List.eraseIdx_cons_zero] at S3
              clear S2
              go_wp2_with fail
              obtain ⟨p0, p1, p2, pf⟩ := (S3.out.bk 1 rfl).c3
              obtain ⟨q0, q1, q2, qf⟩ := (S3.out.bk 2 rfl).c3
              have hlp := (S3.out.bk 1 rfl).lt
              have hlq := (S3.out.bk 2 rfl).lt
              generalize hgx : wr.heap.size = gx at S3 p0 p1 p2 pf hlp ⊢
              generalize World.alloc wr _ = wx at S3 p0 p1 p2 pf q0 q1 q2 qf hlp hlq ⊢
              clear hgx
              have S7 := Lib.hid S3.out.drew1
              have CE := Lib.hid (fun (W : World) (h : Wr [] wx.drew W) => show Hid (Wr [] wx.drew W) ∧ W.cell? ⟨gx, 0, none⟩ = some (.int .i64 m0) ∧ W.cell? ⟨gx, 1, none⟩ = some (.int .i64 m1) ∧ W.cell? ⟨gx, 2, none⟩ = some (.int .i64 m2) ∧ W.cell? ⟨w.heap.size, 0, none⟩ = some (.int .i64 l0) ∧ W.cell? ⟨w.heap.size, 1, none⟩ = some (.int .i64 l1) ∧ W.cell? ⟨w.heap.size, 2, none⟩ = some (.int .i64 l2) from ⟨Lib.hid h, (wr_cell h (p := ⟨gx, 0, none⟩) hlp (by simp)).trans (by exact by simpa using p0), (wr_cell h (p := ⟨gx, 1, none⟩) hlp (by simp)).trans (by exact by simpa using p1), (wr_cell h (p := ⟨gx, 2, none⟩) hlp (by simp)).trans (by exact by simpa using p2), (wr_cell h (p := ⟨w.heap.size, 0, none⟩) hlq (by simp)).trans (by exact by simpa using q0), (wr_cell h (p := ⟨w.heap.size, 1, none⟩) hlq (by simp)).trans (by exact by simpa using q1), (wr_cell h (p := ⟨w.heap.size, 2, none⟩) hlq (by simp)).trans (by exact by simpa using q2)⟩)
              have INIT := Lib.hid (CE.out _ (Wr.refl _ _))
              have KW := Lib.hid (fun (W2 W : World) (hb : Wr [] W W2) (h : Hid (Wr [] wx.drew W) ∧ W.cell? ⟨gx, 0, none⟩ = some (.int .i64 m0) ∧ W.cell? ⟨gx, 1, none⟩ = some (.int .i64 m1) ∧ W.cell? ⟨gx, 2, none⟩ = some (.int .i64 m2) ∧ W.cell? ⟨w.heap.size, 0, none⟩ = some (.int .i64 l0) ∧ W.cell? ⟨w.heap.size, 1, none⟩ = some (.int .i64 l1) ∧ W.cell? ⟨w.heap.size, 2, none⟩ = some (.int .i64 l2)) => CE.out W2 (h.1.out.trans hb))
              clear p0 p1 p2 pf q0 q1 q2 qf hlp hlq S3
              refine wp_region_held_drew (S := fun W => Hid (Wr [] wx.drew W) ∧ W.cell? ⟨gx, 0, none⟩ = some (.int .i64 m0) ∧ W.cell? ⟨gx, 1, none⟩ = some (.int .i64 m1) ∧ W.cell? ⟨gx, 2, none⟩ = some (.int .i64 m2) ∧ W.cell? ⟨w.heap.size, 0, none⟩ = some (.int .i64 l0) ∧ W.cell? ⟨w.heap.size, 1, none⟩ = some (.int .i64 l1) ∧ W.cell? ⟨w.heap.size, 2, none⟩ = some (.int .i64 l2)) (by kernel_rfl) INIT.out (fun hHeld => ?_)
              refine wpAnyH_take (i := 0) (v := ?_) rfl (by kernel_rfl) (by kernel_rfl) (by kernel_rfl) (fun _ _ _ h => h) (Or.inl ⟨by rfl, ?_⟩) (by assumption) ?_
              rotate_left
              · (intro W hSw; (try dsimp only at hSw); go_simp <;> with_reducible rfl)
              (try simp only [Act.put, List.getElem_toArray, List.getElem_cons_zero, List.setIfInBounds_toArray, List.set_cons_succ, List.set_cons_zero])
              refine wpAnyH_take (i := 1) (v := ?_) rfl (by kernel_rfl) (by kernel_rfl) (by kernel_rfl) (fun _ _ _ h => h) (Or.inl ⟨by rfl, ?_⟩) (by assumption) ?_
              rotate_left
              · (intro W hSw; (try dsimp only at hSw); go_simp <;> with_reducible rfl)
              (try simp only [Act.put, List.getElem_toArray, List.getElem_cons_succ, List.getElem_cons_zero, List.setIfInBounds_toArray, List.set_cons_succ, List.set_cons_zero])
              refine wpAnyH_ready (rs := [2]) (by kernel_rfl) (by simp) ?_
              refine AllReadyH.cons rfl (fun K hK => ?_) AllReadyH.nil
              go_simp
              go_at_call 43
              refine (specNegate_v HNN.out _).mono ?_
              rintro e w8 ⟨rfl, bb⟩
              have S8 := Lib.hid (S7.out.go bb)
              (first | done | go_wp2_with fail)
              refine hK.out _ _ (KW.out _ _ (Wr.of_below bb (Nat.le_refl _)) (by assumption)) (fun hHeld2 => ?_)
              clear hK K bb S7
              refine wpAnyH_take (i := 3) (v := ?_) rfl (by kernel_rfl) (by kernel_rfl) (by kernel_rfl) (fun _ _ _ h => h) (Or.inl ⟨by rfl, ?_⟩) (by assumption) ?_
              rotate_left
              · (intro W hSw; (try dsimp only at hSw); go_simp <;> with_reducible rfl)
              (try simp only [Act.put, List.getElem_toArray, List.getElem_cons_succ, List.getElem_cons_zero, List.setIfInBounds_toArray, List.set_cons_succ, List.set_cons_zero])
              refine wpAnyH_done (by kernel_rfl) ?_ _
              clear CE INIT KW
              have S3 := S8
              clear S8
              obtain ⟨p0, p1, p2, pf⟩ := (S3.out.bk 1 rfl).c3
              have OW := Lib.hid (S3.out.ownT)
              have hzs := S3.out.1.size
              go_wp2_with (first | (at_builtin; refine wpList_append_own_at _ rfl (.tmp 37) (.tmp 39) 25 rfl w.heap.size 45 i0 (.agg #[.int .i64 0, .int .i64 0, .int .i64 0]) 3 24 Try.underlying25 hi0 hz0 hz1 hz2 rfl (by decide) _ (T.length) (cells3 T) rfl (by exact OW.out.alloc _) ⟨_, 0, none⟩ 1 1 [.int .i64 m0, .int .i64 m1, .int .i64 m2] rfl rfl ?cr1 ?cr2 ?cr3 ?cr4 ?cr5 ?_) | fail)
              try case cr1 => (intro j u hj; first | exact three_cells _ _ _ _ _ j u hj | (have h9 := three_cells (World.alloc wr (.cells #[.int .i64 m0, .int .i64 m1, .int .i64 m2] 45)) (.int .i64 m0) (.int .i64 m1) (.int .i64 m2) 45 j u hj; first | exact h9 | simpa only [World.size_alloc] using h9))
              try case cr2 => simp [Value.oneCell']
              try case cr3 => unfold maxLen; omega
              try case cr4 => omega
              try case cr5 => first | omega | (simp at hzs ⊢; omega)
              intro v8 w5 hown8 hg8 _ hat8
              obtain ⟨F5, h9⟩ := S3.out.appT (⟨m0, m1, m2⟩ : Lt) ((Below.refl _ _).alloc (Nat.le_refl _) _) hown8 (by simp) hg8 (by simpa using hat8)
              have S5 := Lib.hid (h9.drop 1)
              simp only [List.eraseIdx_cons_succ, List.eraseIdx_cons_zero] at S5
              clear hown8 hg8 hat8 h9 OW hzs S3
              go_wp2
              go_roundw
              case rel => exact ⟨k + 1, F5, by omega, by go_num, by rw [NX.out, ← List.append_assoc, HTT.out]; exact S5.out⟩
              case measure => simp [intOf]; omega
            · have h1 : (m1 == n1) = false := by simpa using h0
              have h2 : (m1 != n1) = true := by simpa using h0
              clear he h0
              have S3 := Lib.hid ((S2.out.box 45 [.int .i64 m0, .int .i64 m1, .int .i64 m2]).pick 1 rfl)
              simp only [List.eraseIdx_cons_succ, List.eraseIdx_cons_zero] at S3
              clear S2
              go_wp2_with fail
              obtain ⟨p0, p1, p2, pf⟩ := (S3.out.bk 1 rfl).c3
              obtain ⟨q0, q1, q2, qf⟩ := (S3.out.bk 2 rfl).c3
              have hlp := (S3.out.bk 1 rfl).lt
              have hlq := (S3.out.bk 2 rfl).lt
              generalize hgx : wr.heap.size = gx at S3 p0 p1 p2 pf hlp ⊢
              generalize World.alloc wr _ = wx at S3 p0 p1 p2 pf q0 q1 q2 qf hlp hlq ⊢
              clear hgx
              have S7 := Lib.hid S3.out.drew1
              have CE := Lib.hid (fun (W : World) (h : Wr [] wx.drew W) => show Hid (Wr [] wx.drew W) ∧ W.cell? ⟨gx, 0, none⟩ = some (.int .i64 m0) ∧ W.cell? ⟨gx, 1, none⟩ = some (.int .i64 m1) ∧ W.cell? ⟨gx, 2, none⟩ = some (.int .i64 m2) ∧ W.cell? ⟨w.heap.size, 0, none⟩ = some (.int .i64 l0) ∧ W.cell? ⟨w.heap.size, 1, none⟩ = some (.int .i64 l1) ∧ W.cell? ⟨w.heap.size, 2, none⟩ = some (.int .i64 l2) from ⟨Lib.hid h, (wr_cell h (p := ⟨gx, 0, none⟩) hlp (by simp)).trans (by exact by simpa using p0), (wr_cell h (p := ⟨gx, 1, none⟩) hlp (by simp)).trans (by exact by simpa using p1), (wr_cell h (p := ⟨gx, 2, none⟩) hlp (by simp)).trans (by exact by simpa using p2), (wr_cell h (p := ⟨w.heap.size, 0, none⟩) hlq (by simp)).trans (by exact by simpa using q0), (wr_cell h (p := ⟨w.heap.size, 1, none⟩) hlq (by simp)).trans (by exact by simpa using q1), (wr_cell h (p := ⟨w.heap.size, 2, none⟩) hlq (by simp)).trans (by exact by simpa using q2)⟩)
              have INIT := Lib.hid (CE.out _ (Wr.refl _ _))
              have KW := Lib.hid (fun (W2 W : World) (hb : Wr [] W W2) (h : Hid (Wr [] wx.drew W) ∧ W.cell? ⟨gx, 0, none⟩ = some (.int .i64 m0) ∧ W.cell? ⟨gx, 1, none⟩ = some (.int .i64 m1) ∧ W.cell? ⟨gx, 2, none⟩ = some (.int .i64 m2) ∧ W.cell? ⟨w.heap.size, 0, none⟩ = some (.int .i64 l0) ∧ W.cell? ⟨w.heap.size, 1, none⟩ = some (.int .i64 l1) ∧ W.cell? ⟨w.heap.size, 2, none⟩ = some (.int .i64 l2)) => CE.out W2 (h.1.out.trans hb))
              clear p0 p1 p2 pf q0 q1 q2 qf hlp hlq S3
              refine wp_region_held_drew (S := fun W => Hid (Wr [] wx.drew W) ∧ W.cell? ⟨gx, 0, none⟩ = some (.int .i64 m0) ∧ W.cell? ⟨gx, 1, none⟩ = some (.int .i64 m1) ∧ W.cell? ⟨gx, 2, none⟩ = some (.int .i64 m2) ∧ W.cell? ⟨w.heap.size, 0, none⟩ = some (.int .i64 l0) ∧ W.cell? ⟨w.heap.size, 1, none⟩ = some (.int .i64 l1) ∧ W.cell? ⟨w.heap.size, 2, none⟩ = some (.int .i64 l2)) (by kernel_rfl) INIT.out (fun hHeld => ?_)
              refine wpAnyH_take (i := 0) (v := ?_) rfl (by kernel_rfl) (by kernel_rfl) (by kernel_rfl) (fun _ _ _ h => h) (Or.inl ⟨by rfl, ?_⟩) (by assumption) ?_
              rotate_left
              · (intro W hSw; (try dsimp only at hSw); go_simp <;> with_reducible rfl)
              (try simp only [Act.put, List.getElem_toArray, List.getElem_cons_zero, List.setIfInBounds_toArray, List.set_cons_succ, List.set_cons_zero])
              refine wpAnyH_take (i := 1) (v := ?_) rfl (by kernel_rfl) (by kernel_rfl) (by kernel_rfl) (fun _ _ _ h => h) (Or.inl ⟨by rfl, ?_⟩) (by assumption) ?_
              rotate_left
              · (intro W hSw; (try dsimp only at hSw); go_simp <;> with_reducible rfl)
              (try simp only [Act.put, List.getElem_toArray, List.getElem_cons_succ, List.getElem_cons_zero, List.setIfInBounds_toArray, List.set_cons_succ, List.set_cons_zero])
              refine wpAnyH_ready (rs := [2]) (by kernel_rfl) (by simp) ?_
              refine AllReadyH.cons rfl (fun K hK => ?_) AllReadyH.nil
              go_simp
              go_at_call 43
              refine (specNegate_v HNN.out _).mono ?_
              rintro e w8 ⟨rfl, bb⟩
              have S8 := Lib.hid (S7.out.go bb)
              (first | done | go_wp2_with fail)
              refine hK.out _ _ (KW.out _ _ (Wr.of_below bb (Nat.le_refl _)) (by assumption)) (fun hHeld2 => ?_)
              clear hK K bb S7
              refine wpAnyH_take (i := 3) (v := ?_) rfl (by kernel_rfl) (by kernel_rfl) (by kernel_rfl) (fun _ _ _ h => h) (Or.inl ⟨by rfl, ?_⟩) (by assumption) ?_
              rotate_left
              · (intro W hSw; (try dsimp only at hSw); go_simp <;> with_reducible rfl)
              (try simp only [Act.put, List.getElem_toArray, List.getElem_cons_succ, List.getElem_cons_zero, List.setIfInBounds_toArray, List.set_cons_succ, List.set_cons_zero])
              refine wpAnyH_done (by kernel_rfl) ?_ _
              clear CE INIT KW
              have S3 := S8
              clear S8
              obtain ⟨p0, p1, p2, pf⟩ := (S3.out.bk 1 rfl).c3
              have OW := Lib.hid (S3.out.ownT)
              have hzs := S3.out.1.size
              go_wp2_with (first | (at_builtin; refine wpList_append_own_at _ rfl (.tmp 37) (.tmp 39) 25 rfl w.heap.size 45 i0 (.agg #[.int .i64 0, .int .i64 0, .int .i64 0]) 3 24 Try.underlying25 hi0 hz0 hz1 hz2 rfl (by decide) _ (T.length) (cells3 T) rfl (by exact OW.out.alloc _) ⟨_, 0, none⟩ 1 1 [.int .i64 m0, .int .i64 m1, .int .i64 m2] rfl rfl ?cr1 ?cr2 ?cr3 ?cr4 ?cr5 ?_) | fail)
              try case cr1 => (intro j u hj; first | exact three_cells _ _ _ _ _ j u hj | (have h9 := three_cells (World.alloc wr (.cells #[.int .i64 m0, .int .i64 m1, .int .i64 m2] 45)) (.int .i64 m0) (.int .i64 m1) (.int .i64 m2) 45 j u hj; first | exact h9 | simpa only [World.size_alloc] using h9))
              try case cr2 => simp [Value.oneCell']
              try case cr3 => unfold maxLen; omega
              try case cr4 => omega
              try case cr5 => first | omega | (simp at hzs ⊢; omega)
              intro v8 w5 hown8 hg8 _ hat8
              obtain ⟨F5, h9⟩ := S3.out.appT (⟨m0, m1, m2⟩ : Lt) ((Below.refl _ _).alloc (Nat.le_refl _) _) hown8 (by simp) hg8 (by simpa using hat8)
              have S5 := Lib.hid (h9.drop 1)
              simp only [List.eraseIdx_cons_succ, List.eraseIdx_cons_zero] at S5
              clear hown8 hg8 hat8 h9 OW hzs S3
              go_wp2
              go_roundw
              case rel => exact ⟨k + 1, F5, by omega, by go_num, by rw [NX.out, ← List.append_assoc, HTT.out]; exact S5.out⟩
              case measure => simp [intOf]; omega
            · have h1 : (m2 == n2) = false := by simpa using h0
              have h2 : (m2 != n2) = true := by simpa using h0
              clear he h0
              have S3 := Lib.hid ((S2.out.box 45 [.int .i64 m0, .int .i64 m1, .int .i64 m2]).pick 1 rfl)
              simp only [List.eraseIdx_cons_succ, List.eraseIdx_cons_zero] at S3
              clear S2
              go_wp2_with fail
              obtain ⟨p0, p1, p2, pf⟩ := (S3.out.bk 1 rfl).c3
              obtain ⟨q0, q1, q2, qf⟩ := (S3.out.bk 2 rfl).c3
              have hlp := (S3.out.bk 1 rfl).lt
              have hlq := (S3.out.bk 2 rfl).lt
              generalize hgx : wr.heap.size = gx at S3 p0 p1 p2 pf hlp ⊢
              generalize World.alloc wr _ = wx at S3 p0 p1 p2 pf q0 q1 q2 qf hlp hlq ⊢
              clear hgx
              have S7 := Lib.hid S3.out.drew1
              have CE := Lib.hid (fun (W : World) (h : Wr [] wx.drew W) => show Hid (Wr [] wx.drew W) ∧ W.cell? ⟨gx, 0, none⟩ = some (.int .i64 m0) ∧ W.cell? ⟨gx, 1, none⟩ = some (.int .i64 m1) ∧ W.cell? ⟨gx, 2, none⟩ = some (.int .i64 m2) ∧ W.cell? ⟨w.heap.size, 0, none⟩ = some (.int .i64 l0) ∧ W.cell? ⟨w.heap.size, 1, none⟩ = some (.int .i64 l1) ∧ W.cell? ⟨w.heap.size, 2, none⟩ = some (.int .i64 l2) from ⟨Lib.hid h, (wr_cell h (p := ⟨gx, 0, none⟩) hlp (by simp)).trans (by exact by simpa using p0), (wr_cell h (p := ⟨gx, 1, none⟩) hlp (by simp)).trans (by exact by simpa using p1), (wr_cell h (p := ⟨gx, 2, none⟩) hlp (by simp)).trans (by exact by simpa using p2), (wr_cell h (p := ⟨w.heap.size, 0, none⟩) hlq (by simp)).trans (by exact by simpa using q0), (wr_cell h (p := ⟨w.heap.size, 1, none⟩) hlq (by simp)).trans (by exact by simpa using q1), (wr_cell h (p := ⟨w.heap.size, 2, none⟩) hlq (by simp)).trans (by exact by simpa using q2)⟩)
              have INIT := Lib.hid (CE.out _ (Wr.refl _ _))
              have KW := Lib.hid (fun (W2 W : World) (hb : Wr [] W W2) (h : Hid (Wr [] wx.drew W) ∧ W.cell? ⟨gx, 0, none⟩ = some (.int .i64 m0) ∧ W.cell? ⟨gx, 1, none⟩ = some (.int .i64 m1) ∧ W.cell? ⟨gx, 2, none⟩ = some (.int .i64 m2) ∧ W.cell? ⟨w.heap.size, 0, none⟩ = some (.int .i64 l0) ∧ W.cell? ⟨w.heap.size, 1, none⟩ = some (.int .i64 l1) ∧ W.cell? ⟨w.heap.size, 2, none⟩ = some (.int .i64 l2)) => CE.out W2 (h.1.out.trans hb))
              clear p0 p1 p2 pf q0 q1 q2 qf hlp hlq S3
              refine wp_region_held_drew (S := fun W => Hid (Wr [] wx.drew W) ∧ W.cell? ⟨gx, 0, none⟩ = some (.int .i64 m0) ∧ W.cell? ⟨gx, 1, none⟩ = some (.int .i64 m1) ∧ W.cell? ⟨gx, 2, none⟩ = some (.int .i64 m2) ∧ W.cell? ⟨w.heap.size, 0, none⟩ = some (.int .i64 l0) ∧ W.cell? ⟨w.heap.size, 1, none⟩ = some (.int .i64 l1) ∧ W.cell? ⟨w.heap.size, 2, none⟩ = some (.int .i64 l2)) (by kernel_rfl) INIT.out (fun hHeld => ?_)
              refine wpAnyH_take (i := 0) (v := ?_) rfl (by kernel_rfl) (by kernel_rfl) (by kernel_rfl) (fun _ _ _ h => h) (Or.inl ⟨by rfl, ?_⟩) (by assumption) ?_
              rotate_left
              · (intro W hSw; (try dsimp only at hSw); go_simp <;> with_reducible rfl)
              (try simp only [Act.put, List.getElem_toArray, List.getElem_cons_zero, List.setIfInBounds_toArray, List.set_cons_succ, List.set_cons_zero])
              refine wpAnyH_take (i := 1) (v := ?_) rfl (by kernel_rfl) (by kernel_rfl) (by kernel_rfl) (fun _ _ _ h => h) (Or.inl ⟨by rfl, ?_⟩) (by assumption) ?_
              rotate_left
              · (intro W hSw; (try dsimp only at hSw); go_simp <;> with_reducible rfl)
              (try simp only [Act.put, List.getElem_toArray, List.getElem_cons_succ, List.getElem_cons_zero, List.setIfInBounds_toArray, List.set_cons_succ, List.set_cons_zero])
              refine wpAnyH_ready (rs := [2]) (by kernel_rfl) (by simp) ?_
              refine AllReadyH.cons rfl (fun K hK => ?_) AllReadyH.nil
              go_simp
              go_at_call 43
              refine (specNegate_v HNN.out _).mono ?_
              rintro e w8 ⟨rfl, bb⟩
              have S8 := Lib.hid (S7.out.go bb)
              (first | done | go_wp2_with fail)
              refine hK.out _ _ (KW.out _ _ (Wr.of_below bb (Nat.le_refl _)) (by assumption)) (fun hHeld2 => ?_)
              clear hK K bb S7
              refine wpAnyH_take (i := 3) (v := ?_) rfl (by kernel_rfl) (by kernel_rfl) (by kernel_rfl) (fun _ _ _ h => h) (Or.inl ⟨by rfl, ?_⟩) (by assumption) ?_
              rotate_left
              · (intro W hSw; (try dsimp only at hSw); go_simp <;> with_reducible rfl)
              (try simp only [Act.put, List.getElem_toArray, List.getElem_cons_succ, List.getElem_cons_zero, List.setIfInBounds_toArray, List.set_cons_succ, List.set_cons_zero])
              refine wpAnyH_done (by kernel_rfl) ?_ _
              clear CE INIT KW
              have S3 := S8
              clear S8
              obtain ⟨p0, p1, p2, pf⟩ := (S3.out.bk 1 rfl).c3
              have OW := Lib.hid (S3.out.ownT)
              have hzs := S3.out.1.size
              go_wp2_with (first | (at_builtin; refine wpList_append_own_at _ rfl (.tmp 37) (.tmp 39) 25 rfl w.heap.size 45 i0 (.agg #[.int .i64 0, .int .i64 0, .int .i64 0]) 3 24 Try.underlying25 hi0 hz0 hz1 hz2 rfl (by decide) _ (T.length) (cells3 T) rfl (by exact OW.out.alloc _) ⟨_, 0, none⟩ 1 1 [.int .i64 m0, .int .i64 m1, .int .i64 m2] rfl rfl ?cr1 ?cr2 ?cr3 ?cr4 ?cr5 ?_) | fail)
              try case cr1 => (intro j u hj; first | exact three_cells _ _ _ _ _ j u hj | (have h9 := three_cells (World.alloc wr (.cells #[.int .i64 m0, .int .i64 m1, .int .i64 m2] 45)) (.int .i64 m0) (.int .i64 m1) (.int .i64 m2) 45 j u hj; first | exact h9 | simpa only [World.size_alloc] using h9))
              try case cr2 => simp [Value.oneCell']
              try case cr3 => unfold maxLen; omega
              try case cr4 => omega
              try case cr5 => first | omega | (simp at hzs ⊢; omega)
              intro v8 w5 hown8 hg8 _ hat8
              obtain ⟨F5, h9⟩ := S3.out.appT (⟨m0, m1, m2⟩ : Lt) ((Below.refl _ _).alloc (Nat.le_refl _) _) hown8 (by simp) hg8 (by simpa using hat8)
              have S5 := Lib.hid (h9.drop 1)
              simp only [List.eraseIdx_cons_succ, List.eraseIdx_cons_zero] at S5
              clear hown8 hg8 hat8 h9 OW hzs S3
              go_wp2
              go_roundw
              case rel => exact ⟨k + 1, F5, by omega, by go_num, by rw [NX.out, ← List.append_assoc, HTT.out]; exact S5.out⟩
              case measure => simp [intOf]; omega

        · have hge : ¬ (k : Int) < (b.length : Int) := by omega
          obtain rfl : k = b.length := by omega
          rw [List.take_length] at S2
          have hlr : (othL ⟨l0, l1, l2⟩ a ++ othL ⟨n0, n1, n2⟩ b).length ≤ 1048576 := by rw [List.length_append]; have := oth_len ⟨l0, l1, l2⟩ a; have := oth_len ⟨n0, n1, n2⟩ b; omega
          go_wp2_with fail
          refine (specNewClause_any (othL ⟨l0, l1, l2⟩ a ++ othL ⟨n0, n1, n2⟩ b) _ _ (by have := S2.out.rd 0 rfl; rwa [rowT_tr] at this) hlr).mono ?_
          rintro e w9 ⟨v9, F9, rfl, o9, h9, b9⟩
          have S9 := Lib.hid (S2.out.new o9 h9 b9)
          have P := (S9.out.own 0 rfl)
          go_wp2
          go_ret
          first | exact ⟨_, _, rfl, P.1, P.2, S9.out.1⟩ | exact ⟨_, P.1, P.2, S9.out.1⟩ | exact ⟨_, rfl, _, P.1, P.2, S9.out.1⟩
set_option maxRecDepth 100000 in
set_option maxHeartbeats 8000000 in
theorem implResolve_any (a b : List Lt) (l : Lt) (v u : Value) (w : World) (ha : (trLts a).rd w v) (hb : (trLts b).rd w u) (hlb : a.length + b.length ≤ 1048576) :
    Calls Try.prog 26 #[v, u, ltV l] w fun e w' => ∃ v' F, e = .returned v' ∧ (trLts (resL a b l)).own w' w.heap.size v' F ∧ F.Nodup ∧ Below w.heap.size w w' := by
  rw [res_oth]
  have HA := Lib.hid ha
  have HB := Lib.hid hb
  obtain ⟨A, c, rfl⟩ := rdT_slice ha
  obtain ⟨B, c2, rfl⟩ := rdT_slice hb
  clear ha hb
  obtain ⟨l0, l1, l2⟩ := l
  generalize hnn : negL ⟨l0, l1, l2⟩ = nn
  obtain ⟨n0, n1, n2⟩ := nn
  have HNN := Lib.hid hnn
  clear hnn
  have S0 := Lib.hid ((Sn.start w).box 45 [.int .i64 l0, .int .i64 l1, .int .i64 l2])
  unfold ltV
  have e1 := oth_len ⟨l0, l1, l2⟩ a
  have e2 := oth_len ⟨n0, n1, n2⟩ b
  go_enter Try.func26, Try.ntmps26
  go_wp2_with fail
  obtain ⟨q0, q1, q2, qf⟩ := (S0.out.bk 0 rfl).c3
  have hl0 := (S0.out.bk 0 rfl).lt
  generalize World.alloc w _ = wv at S0 q0 q1 q2 qf hl0 ⊢
  have S1 := Lib.hid S0.out.drew1
  have CE := Lib.hid (fun (W : World) (h : Wr [] wv.drew W) => show Hid (Wr [] wv.drew W) ∧ W.cell? ⟨w.heap.size, 0, none⟩ = some (.int .i64 l0) ∧ W.cell? ⟨w.heap.size, 1, none⟩ = some (.int .i64 l1) ∧ W.cell? ⟨w.heap.size, 2, none⟩ = some (.int .i64 l2) from ⟨Lib.hid h, (wr_cell h (p := ⟨w.heap.size, 0, none⟩) hl0 (by simp)).trans (by exact by simpa using q0), (wr_cell h (p := ⟨w.heap.size, 1, none⟩) hl0 (by simp)).trans (by exact by simpa using q1), (wr_cell h (p := ⟨w.heap.size, 2, none⟩) hl0 (by simp)).trans (by exact by simpa using q2)⟩)
  have INIT := Lib.hid (CE.out _ (Wr.refl _ _))
  have KW := Lib.hid (fun (W2 W : World) (hb : Wr [] W W2) (h : Hid (Wr [] wv.drew W) ∧ W.cell? ⟨w.heap.size, 0, none⟩ = some (.int .i64 l0) ∧ W.cell? ⟨w.heap.size, 1, none⟩ = some (.int .i64 l1) ∧ W.cell? ⟨w.heap.size, 2, none⟩ = some (.int .i64 l2)) => CE.out W2 (h.1.out.trans hb))
  clear q0 q1 q2 qf hl0 S0
  refine wp_region_held_drew (S := fun W => Hid (Wr [] wv.drew W) ∧ W.cell? ⟨w.heap.size, 0, none⟩ = some (.int .i64 l0) ∧ W.cell? ⟨w.heap.size, 1, none⟩ = some (.int .i64 l1) ∧ W.cell? ⟨w.heap.size, 2, none⟩ = some (.int .i64 l2)) (by kernel_rfl) INIT.out (fun hHeld => ?_)
  refine wpAnyH_take (i := 0) (v := ?_) rfl (by kernel_rfl) (by kernel_rfl) (by kernel_rfl) (fun _ _ _ h => h) (Or.inl ⟨by rfl, ?_⟩) (by assumption) ?_
  rotate_left
  · (intro W hSw; (try dsimp only at hSw); go_simp <;> with_reducible rfl)
  (try simp only [Act.put, List.getElem_toArray, List.getElem_cons_zero, List.setIfInBounds_toArray, List.set_cons_succ, List.set_cons_zero])
  refine wpAnyH_take (i := 1) (v := ?_) rfl (by kernel_rfl) (by kernel_rfl) (by kernel_rfl) (fun _ _ _ h => h) (Or.inl ⟨by rfl, ?_⟩) (by assumption) ?_
  rotate_left
  · (intro W hSw; (try dsimp only at hSw); go_simp <;> with_reducible rfl)
  (try simp only [Act.put, List.getElem_toArray, List.getElem_cons_succ, List.getElem_cons_zero, List.setIfInBounds_toArray, List.set_cons_succ, List.set_cons_zero])
  refine wpAnyH_take (i := 3) (v := ?_) rfl (by kernel_rfl) (by kernel_rfl) (by kernel_rfl) (fun _ _ _ h => h) (Or.inl ⟨by rfl, ?_⟩) (by assumption) ?_
  rotate_left
  · (intro W hSw; (try dsimp only at hSw); go_simp <;> with_reducible rfl)
  (try simp only [Act.put, List.getElem_toArray, List.getElem_cons_succ, List.getElem_cons_zero, List.setIfInBounds_toArray, List.set_cons_succ, List.set_cons_zero])
  refine wpAnyH_take (i := 5) (v := ?_) rfl (by kernel_rfl) (by kernel_rfl) (by kernel_rfl) (fun _ _ _ h => h) (Or.inl ⟨by rfl, ?_⟩) (by assumption) ?_
  rotate_left
  · (intro W hSw; (try dsimp only at hSw); go_simp <;> with_reducible rfl)
  (try simp only [Act.put, List.getElem_toArray, List.getElem_cons_succ, List.getElem_cons_zero, List.setIfInBounds_toArray, List.set_cons_succ, List.set_cons_zero])
  refine wpAnyH_ready (rs := [2]) (by kernel_rfl) (by simp) ?_
  refine AllReadyH.cons rfl (fun K hK => ?_) AllReadyH.nil
  go_simp
  refine (othersThan_any ⟨l0, l1, l2⟩ a _ _ (by exact S1.out.old HA.out) (by omega)).mono ?_
  rintro e w2 ⟨v2, F2, rfl, o2, h2, bb⟩
  obtain ⟨X2, y2, rfl⟩ := rdT_slice (Tr.own_rd _ _ _ o2)
  have S2 := Lib.hid (S1.out.new o2 h2 bb)
  have R2 := Lib.hid (ownT_row o2)
  (first | done | go_wp2_with fail | skip)
  refine hK.out _ _ (KW.out _ _ (Wr.of_below bb (Nat.le_refl _)) (by assumption)) (fun hHeld2 => ?_)
  clear hK K bb o2 h2 S1
  refine wpAnyH_ready (rs := [4]) (by kernel_rfl) (by simp) ?_
  refine AllReadyH.cons rfl (fun K hK => ?_) AllReadyH.nil
  go_simp
  go_at_call 45
  refine (implNegate_v HNN.out _).mono ?_
  rintro e w3 ⟨rfl, bb⟩
  have S3 := Lib.hid (S2.out.go bb)
  (first | done | go_wp2_with fail)
  refine hK.out _ _ (KW.out _ _ (Wr.of_below bb (Nat.le_refl _)) (by assumption)) (fun hHeld4 => ?_)
  clear hK K bb S2
  refine wpAnyH_ready (rs := [6]) (by kernel_rfl) (by simp) ?_
  refine AllReadyH.cons rfl (fun K hK => ?_) AllReadyH.nil
  go_simp
  refine (othersThan_any ⟨n0, n1, n2⟩ b _ _ (by exact S3.out.old HB.out) (by omega)).mono ?_
  rintro e w4 ⟨v4, F4, rfl, o4, h4, bb⟩
  obtain ⟨X4, y4, rfl⟩ := rdT_slice (Tr.own_rd _ _ _ o4)
  have S4 := Lib.hid (S3.out.new o4 h4 bb)
  (first | done | go_wp2_with fail | skip)
  refine hK.out _ _ (KW.out _ _ (Wr.of_below bb (Nat.le_refl _)) (by assumption)) (fun hHeld6 => ?_)
  clear hK K bb o4 h4 S3 R2
  have N2 := Lib.hid (nilOk_ownN (ownT_row (S4.out.own 1 rfl).1))
  have N4 := Lib.hid (nilOk_ownN (ownT_row (S4.out.own 0 rfl).1))
  have R2 := Lib.hid (S4.out.rd 1 rfl)
  have R4 := Lib.hid (S4.out.rd 0 rfl)
  refine wpAnyH_ready (rs := [7]) (by kernel_rfl) (by simp) ?_
  refine AllReadyH.cons rfl (fun K hK => ?_) AllReadyH.nil
  go_simp
  have BA := (Below.refl _ w4).alloc (Nat.le_refl _) (.cells #[.slice X2 (othL ⟨l0, l1, l2⟩ a).length y2, .slice X4 (othL ⟨n0, n1, n2⟩ b).length y4] 25)
  refine hK.out _ _ (KW.out _ _ (Wr.of_below BA (Nat.le_refl _)) (by assumption)) (fun hHeld7 => ?_)
  clear hK K
  have S5 := Lib.hid (S4.out.go BA)
  have R5 := Lib.hid (newVT_any w4 25 [.slice X2 (othL ⟨l0, l1, l2⟩ a).length y2, .slice X4 (othL ⟨n0, n1, n2⟩ b).length y4] (by simp [maxLen]))
  have Q2 := Lib.hid (Tr.rd_below BA (Nat.le_refl _) _ _ R2.out)
  have Q4 := Lib.hid (Tr.rd_below BA (Nat.le_refl _) _ _ R4.out)
  clear BA S4 R2 R4
  refine wpAnyH_ready (rs := [8]) (by kernel_rfl) (by simp) ?_
  refine AllReadyH.cons rfl (fun K hK => ?_) AllReadyH.nil
  go_simp
  refine (concatT_any [.slice X2 (othL ⟨l0, l1, l2⟩ a).length y2, .slice X4 (othL ⟨n0, n1, n2⟩ b).length y4] [othL ⟨l0, l1, l2⟩ a, othL ⟨n0, n1, n2⟩ b] _ _ (by first | exact R5.out | simpa using R5.out) rfl (by simp) (two_allT (by exact ⟨Q2.out, N2.out⟩) (by exact ⟨Q4.out, N4.out⟩)) (by rw [catT_two, List.length_append]; omega)).mono ?_
  rintro e w6 ⟨v6, rfl, o6, bb⟩
  rw [catT_two] at o6
  have S6 := Lib.hid (S5.out.newT o6 bb)
  (first | done | go_wp2_with fail | skip)
  refine hK.out _ _ (KW.out _ _ (Wr.of_below bb (Nat.le_refl _)) (by assumption)) (fun hHeld8 => ?_)
  clear hK K bb o6 S5 R5 Q2 Q4
  refine wpAnyH_ready (rs := [9]) (by kernel_rfl) (by simp) ?_
  refine AllReadyH.cons rfl (fun K hK => ?_) AllReadyH.nil
  go_simp
  refine (implNewClause_any (othL ⟨l0, l1, l2⟩ a ++ othL ⟨n0, n1, n2⟩ b) _ _ (by have := (S6.out.own 0 rfl).1; rw [rowT_tr] at this; exact this) (by rw [List.length_append]; omega)).mono ?_
  rintro e w7 ⟨v7, F7, rfl, o7, h7, bb⟩
  have S7 := Lib.hid (S6.out.new o7 h7 bb)
  (first | done | go_wp2_with fail | skip)
  refine hK.out _ _ (KW.out _ _ (Wr.of_below bb (Nat.le_refl _)) (by assumption)) (fun hHeld9 => ?_)
  clear hK K bb o7 h7 S6
  refine wpAnyH_take (i := 10) (v := ?_) rfl (by kernel_rfl) (by kernel_rfl) (by kernel_rfl) (fun _ _ _ h => h) (Or.inl ⟨by rfl, ?_⟩) (by assumption) ?_
  rotate_left
  · (intro W hSw; (try dsimp only at hSw); go_simp <;> with_reducible rfl)
  (try simp only [Act.put, List.getElem_toArray, List.getElem_cons_succ, List.getElem_cons_zero, List.setIfInBounds_toArray, List.set_cons_succ, List.set_cons_zero])
  refine wpAnyH_done (by kernel_rfl) ?_ _
  have P := S7.out.own 0 rfl
  go_wp2
  go_ret
  first | exact ⟨_, _, rfl, P.1, P.2, S7.out.1⟩ | exact ⟨_, P.1, P.2, S7.out.1⟩ | exact ⟨_, rfl, _, P.1, P.2, S7.out.1⟩
end Go.Proofs.Ytgbpomakomddjaa
