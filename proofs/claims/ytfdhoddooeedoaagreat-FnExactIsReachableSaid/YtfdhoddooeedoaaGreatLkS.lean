/- DERIVED. CONTRACTS: the links of an activity, of the model and of the program; Successors, Predecessors, Roots. -/
import Derived.Test.YtfdhoddooeedoaaGreatLkM
import Derived.Test.YtfdhoddooeedoaaGreatPrC
import Derived.Test.YtfdhoddooeedoaaGreatPrD
import Derived.Test.YtfdhoddooeedoaaGreatDats
import Derived.Test.YtfdhoddooeedoaaGreatSets
namespace Go.Proofs.YtfdhoddooeedoaaGreat
open Go.RowKit Go.Shelf
set_option linter.unusedVariables false


set_option maxRecDepth 100000 in
set_option maxHeartbeats 4000000 in
theorem specNext_any (p : Pj) (a : Int) (v : Value) (w : World) (hv : (trPj p).rd w v) (hl : p.lks.length ≤ 12) :
    Calls Tryz.prog 34 #[v, .int .i64 a, .bool false] w fun e w' => ∃ u F, e = .returned u ∧ (trI (setB (nextL p.lks a))).own w' w.heap.size u F ∧ F.Nodup ∧ Below w.heap.size w w' := by
  have HV := Lib.hid hv
  obtain ⟨A1, c1, A2, c2, A3, c3, A4, c4, rfl, r1, r2, r3, r4⟩ := rdProject_t hv
  obtain ⟨hl2, B2, d2, he, g2⟩ := rdLinkS_t r2
  injection he with he _ he2
  subst he he2
  have G2 := Lib.hid g2
  clear hv r1 r2 r3 r4 g2
  have S0 := Lib.hid (((Sn.start w).box 34 [.int .i64 p.dl, .slice A1 p.acts.length c1, .slice A2 p.lks.length c2, .slice A3 p.ress.length c3, .slice A4 p.stk.length c4]).emptyI)
  simp only [World.size_alloc] at S0
  go_enter Tryz.func34, Tryz.ntmps34
  obtain ⟨e0, e1, e2, e3, e4, ef⟩ := (S0.out.bk 1 rfl).c5
  go_wp2
  clear e0 e1 e2 e3 e4 ef
  go_loopw [7, 14] (fun u i wr => ∃ (k : Nat) (F : List Nat), k ≤ p.lks.length ∧ i = .int .i64 k ∧ Sn w wr [⟨trI (setB (nextL (p.lks.take k) a)), u, F⟩, boxI w.heap.size 34 [.int .i64 p.dl, .slice A1 p.acts.length c1, .slice A2 p.lks.length c2, .slice A3 p.ress.length c3, .slice A4 p.stk.length c4]]) (fun _ i _ => p.lks.length - (intOf i).toNat)
  case atStart => exact ⟨0, _, Nat.zero_le _, rfl, S0.out⟩
  case round =>
    obtain ⟨k, F, hkl, rfl, hS⟩ := hrel
    have S1 := Lib.hid hS
    clear hS S0
    obtain ⟨U, cu, rfl⟩ := slice_ints (S1.out.rd 0 rfl)
    by_cases hlt : k < p.lks.length
    · have hlt' : (k : Int) < (p.lks.length : Int) := by omega
      obtain ⟨b, o, rfl, hb, hc⟩ := G2.out k hlt
      obtain ⟨y0, y1, y2, y3⟩ := hc k hlt
      have hx0 := (S1.out.1.cell (p := ⟨b, o + k * 4, none⟩) hb).trans y0
      have hx1 := (S1.out.1.cell (p := ⟨b, o + k * 4 + 1, none⟩) hb).trans y1
      have hx2 := (S1.out.1.cell (p := ⟨b, o + k * 4 + 2, none⟩) hb).trans y2
      have hx3 := (S1.out.1.cell (p := ⟨b, o + k * 4 + 3, none⟩) hb).trans y3
      clear hc y0 y1 y2 y3
      have hlen : (setB (nextL (p.lks.take k) a)).length ≤ 12 := Nat.le_trans setPick_len (by simp; omega)
      have PUT := Lib.hid (fun h => put_nextL (a := a) hlt h)
      have SKP := Lib.hid (fun h => nextL_no (a := a) hlt h)
      generalize p.lks[k] = m at hx0 hx1 hx2 hx3 PUT SKP
      generalize hX : setB (nextL (p.lks.take k) a) = X at S1 hlen PUT
      have HX := Lib.hid hX
      clear hX
      have S2 := Lib.hid (S1.out.box 88 [.int .i64 m.fr, .int .i64 m.to, .bool m.fe, .int .i64 m.lag])
      clear S1
      by_cases ha : m.fr = a
      · have HP := Lib.hid (PUT.out ha)
        clear PUT SKP
        subst ha
        go_wp2_with fail
        refine (specAdd_any _ _ _ _ (rd_flat (S2.out.rd 1 rfl)) (by omega)).mono ?_
        rintro e wy ⟨v', rfl, ow, b2⟩
        rw [HP.out] at ow
        have S3 := Lib.hid (((S2.out.drop 1).drop 0).new (flat_own ow).1 (flat_own ow).2 b2)
        obtain ⟨q0, q1, q2, q3, qf⟩ := ((S2.out.bk 0 rfl).below b2 (Nat.le_refl _)).c4
        clear ow b2 S2
        go_wp2
        go_roundw
        case rel => exact ⟨k + 1, _, by omega, by go_num, S3.out⟩
        case measure => simp [intOf]; omega
      · have S3 := Lib.hid (S2.out.drop 0)
        have HT := Lib.hid (SKP.out ha)
        clear S2 PUT SKP
        go_wp2
        go_roundw
        case rel => exact ⟨k + 1, _, by omega, by go_num, by rw [HT.out, HX.out]; exact S3.out⟩
        case measure => simp [intOf]; omega
    · have hge : ¬ (k : Int) < (p.lks.length : Int) := by omega
      obtain rfl : k = p.lks.length := by omega
      go_wp2
      go_ret
      first
        | exact ⟨_, rfl, F, by rw [← List.take_length (l := p.lks)]; exact (S1.out.own 0 rfl).1, (S1.out.own 0 rfl).2, S1.out.1⟩
        | exact ⟨_, by rw [← List.take_length (l := p.lks)]; exact (S1.out.own 0 rfl).1, (S1.out.own 0 rfl).2, S1.out.1⟩
        | exact ⟨_, _, rfl, by rw [← List.take_length (l := p.lks)]; exact (S1.out.own 0 rfl).1, (S1.out.own 0 rfl).2, S1.out.1⟩


set_option maxRecDepth 100000 in
set_option maxHeartbeats 4000000 in
theorem specPrev_any (p : Pj) (a : Int) (v : Value) (w : World) (hv : (trPj p).rd w v) (hl : p.lks.length ≤ 12) :
    Calls Tryz.prog 34 #[v, .int .i64 a, .bool true] w fun e w' => ∃ u F, e = .returned u ∧ (trI (setB (prevL p.lks a))).own w' w.heap.size u F ∧ F.Nodup ∧ Below w.heap.size w w' := by
  have HV := Lib.hid hv
  obtain ⟨A1, c1, A2, c2, A3, c3, A4, c4, rfl, r1, r2, r3, r4⟩ := rdProject_t hv
  obtain ⟨hl2, B2, d2, he, g2⟩ := rdLinkS_t r2
  injection he with he _ he2
  subst he he2
  have G2 := Lib.hid g2
  clear hv r1 r2 r3 r4 g2
  have S0 := Lib.hid (((Sn.start w).box 34 [.int .i64 p.dl, .slice A1 p.acts.length c1, .slice A2 p.lks.length c2, .slice A3 p.ress.length c3, .slice A4 p.stk.length c4]).emptyI)
  simp only [World.size_alloc] at S0
  go_enter Tryz.func34, Tryz.ntmps34
  obtain ⟨e0, e1, e2, e3, e4, ef⟩ := (S0.out.bk 1 rfl).c5
  go_wp2
  clear e0 e1 e2 e3 e4 ef
  go_loopw [7, 14] (fun u i wr => ∃ (k : Nat) (F : List Nat), k ≤ p.lks.length ∧ i = .int .i64 k ∧ Sn w wr [⟨trI (setB (prevL (p.lks.take k) a)), u, F⟩, boxI w.heap.size 34 [.int .i64 p.dl, .slice A1 p.acts.length c1, .slice A2 p.lks.length c2, .slice A3 p.ress.length c3, .slice A4 p.stk.length c4]]) (fun _ i _ => p.lks.length - (intOf i).toNat)
  case atStart => exact ⟨0, _, Nat.zero_le _, rfl, S0.out⟩
  case round =>
    obtain ⟨k, F, hkl, rfl, hS⟩ := hrel
    have S1 := Lib.hid hS
    clear hS S0
    obtain ⟨U, cu, rfl⟩ := slice_ints (S1.out.rd 0 rfl)
    by_cases hlt : k < p.lks.length
    · have hlt' : (k : Int) < (p.lks.length : Int) := by omega
      obtain ⟨b, o, rfl, hb, hc⟩ := G2.out k hlt
      obtain ⟨y0, y1, y2, y3⟩ := hc k hlt
      have hx0 := (S1.out.1.cell (p := ⟨b, o + k * 4, none⟩) hb).trans y0
      have hx1 := (S1.out.1.cell (p := ⟨b, o + k * 4 + 1, none⟩) hb).trans y1
      have hx2 := (S1.out.1.cell (p := ⟨b, o + k * 4 + 2, none⟩) hb).trans y2
      have hx3 := (S1.out.1.cell (p := ⟨b, o + k * 4 + 3, none⟩) hb).trans y3
      clear hc y0 y1 y2 y3
      have hlen : (setB (prevL (p.lks.take k) a)).length ≤ 12 := Nat.le_trans setPick_len (by simp; omega)
      have PUT := Lib.hid (fun h => put_prevL (a := a) hlt h)
      have SKP := Lib.hid (fun h => prevL_no (a := a) hlt h)
      generalize p.lks[k] = m at hx0 hx1 hx2 hx3 PUT SKP
      generalize hX : setB (prevL (p.lks.take k) a) = X at S1 hlen PUT
      have HX := Lib.hid hX
      clear hX
      have S2 := Lib.hid (S1.out.box 88 [.int .i64 m.fr, .int .i64 m.to, .bool m.fe, .int .i64 m.lag])
      clear S1
      by_cases ha : m.to = a
      · have HP := Lib.hid (PUT.out ha)
        clear PUT SKP
        subst ha
        go_wp2_with fail
        refine (specAdd_any _ _ _ _ (rd_flat (S2.out.rd 1 rfl)) (by omega)).mono ?_
        rintro e wy ⟨v', rfl, ow, b2⟩
        rw [HP.out] at ow
        have S3 := Lib.hid (((S2.out.drop 1).drop 0).new (flat_own ow).1 (flat_own ow).2 b2)
        obtain ⟨q0, q1, q2, q3, qf⟩ := ((S2.out.bk 0 rfl).below b2 (Nat.le_refl _)).c4
        clear ow b2 S2
        go_wp2
        go_roundw
        case rel => exact ⟨k + 1, _, by omega, by go_num, S3.out⟩
        case measure => simp [intOf]; omega
      · have S3 := Lib.hid (S2.out.drop 0)
        have HT := Lib.hid (SKP.out ha)
        clear S2 PUT SKP
        go_wp2
        go_roundw
        case rel => exact ⟨k + 1, _, by omega, by go_num, by rw [HT.out, HX.out]; exact S3.out⟩
        case measure => simp [intOf]; omega
    · have hge : ¬ (k : Int) < (p.lks.length : Int) := by omega
      obtain rfl : k = p.lks.length := by omega
      go_wp2
      go_ret
      first
        | exact ⟨_, rfl, F, by rw [← List.take_length (l := p.lks)]; exact (S1.out.own 0 rfl).1, (S1.out.own 0 rfl).2, S1.out.1⟩
        | exact ⟨_, by rw [← List.take_length (l := p.lks)]; exact (S1.out.own 0 rfl).1, (S1.out.own 0 rfl).2, S1.out.1⟩
        | exact ⟨_, _, rfl, by rw [← List.take_length (l := p.lks)]; exact (S1.out.own 0 rfl).1, (S1.out.own 0 rfl).2, S1.out.1⟩


set_option maxRecDepth 100000 in
set_option maxHeartbeats 4000000 in
theorem implNext_any (p : Pj) (a : Int) (v : Value) (w : World) (hv : (trPj p).rd w v) (hl : p.lks.length ≤ 12) :
    Calls Tryz.prog 40 #[v, .int .i64 a] w fun e w' => ∃ u F, e = .returned u ∧ (trI (setB (nextL p.lks a))).own w' w.heap.size u F ∧ F.Nodup ∧ Below w.heap.size w w' := by
  have HV := Lib.hid hv
  obtain ⟨A1, c1, A2, c2, A3, c3, A4, c4, rfl, r1, r2, r3, r4⟩ := rdProject_t hv
  obtain ⟨hl2, B2, d2, he, g2⟩ := rdLinkS_t r2
  injection he with he _ he2
  subst he he2
  have G2 := Lib.hid g2
  clear hv r1 r2 r3 r4 g2
  have S0 := Lib.hid ((Sn.start w).box 34 [.int .i64 p.dl, .slice A1 p.acts.length c1, .slice A2 p.lks.length c2, .slice A3 p.ress.length c3, .slice A4 p.stk.length c4])
  go_enter Tryz.func40, Tryz.ntmps40
  obtain ⟨e0, e1, e2, e3, e4, ef⟩ := (S0.out.bk 0 rfl).c5
  have S1 := Lib.hid S0.out.nilI
  clear S0
  obtain ⟨i0, hi0, hz0, hz1, hz2⟩ := info_parts infoInt
  go_wp2
  clear e0 e1 e2 e3 e4 ef
  go_loopw [5, 11] (fun u i wr => ∃ (k : Nat) (F : List Nat), k ≤ p.lks.length ∧ i = .int .i64 k ∧ Sn w wr [⟨trI (nextL (p.lks.take k) a), u, F⟩, boxI w.heap.size 34 [.int .i64 p.dl, .slice A1 p.acts.length c1, .slice A2 p.lks.length c2, .slice A3 p.ress.length c3, .slice A4 p.stk.length c4]]) (fun _ i _ => p.lks.length - (intOf i).toNat)
  case atStart => exact ⟨0, _, Nat.zero_le _, rfl, S1.out⟩
  case round =>
    obtain ⟨k, F, hkl, rfl, hS⟩ := hrel
    have S2 := Lib.hid hS
    clear hS S1
    obtain ⟨U, cu, rfl⟩ := slice_ints (S2.out.rd 0 rfl)
    by_cases hlt : k < p.lks.length
    · have hlt' : (k : Int) < (p.lks.length : Int) := by omega
      obtain ⟨b, o, rfl, hb, hc⟩ := G2.out k hlt
      obtain ⟨y0, y1, y2, y3⟩ := hc k hlt
      have hx0 := (S2.out.1.cell (p := ⟨b, o + k * 4, none⟩) hb).trans y0
      have hx1 := (S2.out.1.cell (p := ⟨b, o + k * 4 + 1, none⟩) hb).trans y1
      have hx2 := (S2.out.1.cell (p := ⟨b, o + k * 4 + 2, none⟩) hb).trans y2
      have hx3 := (S2.out.1.cell (p := ⟨b, o + k * 4 + 3, none⟩) hb).trans y3
      clear hc y0 y1 y2 y3
      have hlen : (nextL (p.lks.take k) a).length ≤ 12 := Nat.le_trans (pickL_len _ _ _ _) (by simp; omega)
      have YES := Lib.hid (fun h => nextL_yes (a := a) hlt h)
      have SKP := Lib.hid (fun h => nextL_no (a := a) hlt h)
      have hz := S2.out.1.size
      generalize p.lks[k] = m at hx0 hx1 hx2 hx3 YES SKP
      generalize nextL (p.lks.take k) a = us at S2 hlen YES SKP ⊢
      have S3 := Lib.hid ((S2.out.box 88 [.int .i64 m.fr, .int .i64 m.to, .bool m.fe, .int .i64 m.lag]).pick 1 rfl)
      clear S2
      by_cases ha : m.fr = a
      · have HT := Lib.hid (YES.out ha)
        clear YES SKP
        subst ha
        have OW := Lib.hid S3.out.ownRI
        go_wp2_with (first | (at_builtin; refine wpList_append_own_at _ rfl (.tmp 19) (.tmp 22) 25 rfl w.heap.size 3 i0 (.int .i64 0) 1 8 Tryz.underlying25 hi0 hz0 hz1 hz2 rfl (by decide) (.slice U us.length cu) us.length (us.map (.int .i64)) rfl (by exact OW.out.alloc _) ⟨wr.heap.size + 1, 0, none⟩ 1 1 [.int .i64 m.to] rfl rfl ?c1 ?c2 ?c3 ?c4 ?c5 ?_))
        try case c1 =>
          intro j u hj
          have h := one_cell (wr.alloc (.cells #[.int .i64 m.fr, .int .i64 m.to, .bool m.fe, .int .i64 m.lag] 88)) (.int .i64 m.to) 3 j u hj
          rw [World.size_alloc] at h
          exact h
        case c2 => simp [Value.oneCell']
        case c3 => unfold maxLen; omega
        case c4 => omega
        case c5 => first | omega | (simp; omega)
        intro v' w8 hown8 hg8 _ hat8
        obtain ⟨F9, h9⟩ := S3.out.appI2 hown8 hg8 (by simpa using hat8)
        have S9 := Lib.hid (h9.drop 1)
        clear hown8 hg8 hat8 h9 OW S3
        go_wp2
        go_roundw
        case rel => exact ⟨k + 1, _, by omega, by go_num, by rw [HT.out]; exact S9.out⟩
        case measure => simp [intOf]; omega
      · have HT := Lib.hid (SKP.out ha)
        clear YES SKP
        have S4 := Lib.hid (S3.out.drop 1)
        clear S3
        go_wp2
        go_roundw
        case rel => exact ⟨k + 1, _, by omega, by go_num, by rw [HT.out]; exact S4.out⟩
        case measure => simp [intOf]; omega
    · have hge : ¬ (k : Int) < (p.lks.length : Int) := by omega
      obtain rfl : k = p.lks.length := by omega
      have HT := Lib.hid (show nextL (p.lks.take p.lks.length) a = nextL p.lks a by rw [List.take_length])
      rw [HT.out] at S2 ⊢
      have hlen : (nextL p.lks a).length ≤ 12 := Nat.le_trans (pickL_len _ _ _ _) hl
      generalize hus : nextL p.lks a = us at S2 hlen ⊢
      have HU := Lib.hid hus
      clear HT hus
      go_wp2_with fail
      refine (implSetOf_any us _ _ (by exact rd_flat (S2.out.rd 0 rfl)) (nilOk_own S2.out.ownRI) (by omega)).mono ?_
      rintro e wy ⟨v', rfl, ow, b2⟩
      have S3 := Lib.hid (S2.out.new (flat_own ow).1 (flat_own ow).2 b2)
      clear ow b2 S2
      go_wp2
      go_ret
      first
        | exact ⟨_, rfl, _, by rw [HU.out]; exact (S3.out.own 0 rfl).1, (S3.out.own 0 rfl).2, S3.out.1⟩
        | exact ⟨_, by rw [HU.out]; exact (S3.out.own 0 rfl).1, (S3.out.own 0 rfl).2, S3.out.1⟩
        | exact ⟨_, _, rfl, by rw [HU.out]; exact (S3.out.own 0 rfl).1, (S3.out.own 0 rfl).2, S3.out.1⟩


set_option maxRecDepth 100000 in
set_option maxHeartbeats 4000000 in
theorem implPrev_any (p : Pj) (a : Int) (v : Value) (w : World) (hv : (trPj p).rd w v) (hl : p.lks.length ≤ 12) :
    Calls Tryz.prog 47 #[v, .int .i64 a] w fun e w' => ∃ u F, e = .returned u ∧ (trI (setB (prevL p.lks a))).own w' w.heap.size u F ∧ F.Nodup ∧ Below w.heap.size w w' := by
  have HV := Lib.hid hv
  obtain ⟨A1, c1, A2, c2, A3, c3, A4, c4, rfl, r1, r2, r3, r4⟩ := rdProject_t hv
  obtain ⟨hl2, B2, d2, he, g2⟩ := rdLinkS_t r2
  injection he with he _ he2
  subst he he2
  have G2 := Lib.hid g2
  clear hv r1 r2 r3 r4 g2
  have S0 := Lib.hid ((Sn.start w).box 34 [.int .i64 p.dl, .slice A1 p.acts.length c1, .slice A2 p.lks.length c2, .slice A3 p.ress.length c3, .slice A4 p.stk.length c4])
  go_enter Tryz.func47, Tryz.ntmps47
  obtain ⟨e0, e1, e2, e3, e4, ef⟩ := (S0.out.bk 0 rfl).c5
  have S1 := Lib.hid S0.out.nilI
  clear S0
  obtain ⟨i0, hi0, hz0, hz1, hz2⟩ := info_parts infoInt
  go_wp2
  clear e0 e1 e2 e3 e4 ef
  go_loopw [5, 11] (fun u i wr => ∃ (k : Nat) (F : List Nat), k ≤ p.lks.length ∧ i = .int .i64 k ∧ Sn w wr [⟨trI (prevL (p.lks.take k) a), u, F⟩, boxI w.heap.size 34 [.int .i64 p.dl, .slice A1 p.acts.length c1, .slice A2 p.lks.length c2, .slice A3 p.ress.length c3, .slice A4 p.stk.length c4]]) (fun _ i _ => p.lks.length - (intOf i).toNat)
  case atStart => exact ⟨0, _, Nat.zero_le _, rfl, S1.out⟩
  case round =>
    obtain ⟨k, F, hkl, rfl, hS⟩ := hrel
    have S2 := Lib.hid hS
    clear hS S1
    obtain ⟨U, cu, rfl⟩ := slice_ints (S2.out.rd 0 rfl)
    by_cases hlt : k < p.lks.length
    · have hlt' : (k : Int) < (p.lks.length : Int) := by omega
      obtain ⟨b, o, rfl, hb, hc⟩ := G2.out k hlt
      obtain ⟨y0, y1, y2, y3⟩ := hc k hlt
      have hx0 := (S2.out.1.cell (p := ⟨b, o + k * 4, none⟩) hb).trans y0
      have hx1 := (S2.out.1.cell (p := ⟨b, o + k * 4 + 1, none⟩) hb).trans y1
      have hx2 := (S2.out.1.cell (p := ⟨b, o + k * 4 + 2, none⟩) hb).trans y2
      have hx3 := (S2.out.1.cell (p := ⟨b, o + k * 4 + 3, none⟩) hb).trans y3
      clear hc y0 y1 y2 y3
      have hlen : (prevL (p.lks.take k) a).length ≤ 12 := Nat.le_trans (pickL_len _ _ _ _) (by simp; omega)
      have YES := Lib.hid (fun h => prevL_yes (a := a) hlt h)
      have SKP := Lib.hid (fun h => prevL_no (a := a) hlt h)
      have hz := S2.out.1.size
      generalize p.lks[k] = m at hx0 hx1 hx2 hx3 YES SKP
      generalize prevL (p.lks.take k) a = us at S2 hlen YES SKP ⊢
      have S3 := Lib.hid ((S2.out.box 88 [.int .i64 m.fr, .int .i64 m.to, .bool m.fe, .int .i64 m.lag]).pick 1 rfl)
      clear S2
      by_cases ha : m.to = a
      · have HT := Lib.hid (YES.out ha)
        clear YES SKP
        subst ha
        have OW := Lib.hid S3.out.ownRI
        go_wp2_with (first | (at_builtin; refine wpList_append_own_at _ rfl (.tmp 19) (.tmp 22) 25 rfl w.heap.size 3 i0 (.int .i64 0) 1 8 Tryz.underlying25 hi0 hz0 hz1 hz2 rfl (by decide) (.slice U us.length cu) us.length (us.map (.int .i64)) rfl (by exact OW.out.alloc _) ⟨wr.heap.size + 1, 0, none⟩ 1 1 [.int .i64 m.fr] rfl rfl ?c1 ?c2 ?c3 ?c4 ?c5 ?_))
        try case c1 =>
          intro j u hj
          have h := one_cell (wr.alloc (.cells #[.int .i64 m.fr, .int .i64 m.to, .bool m.fe, .int .i64 m.lag] 88)) (.int .i64 m.fr) 3 j u hj
          rw [World.size_alloc] at h
          exact h
        case c2 => simp [Value.oneCell']
        case c3 => unfold maxLen; omega
        case c4 => omega
        case c5 => first | omega | (simp; omega)
        intro v' w8 hown8 hg8 _ hat8
        obtain ⟨F9, h9⟩ := S3.out.appI2 hown8 hg8 (by simpa using hat8)
        have S9 := Lib.hid (h9.drop 1)
        clear hown8 hg8 hat8 h9 OW S3
        go_wp2
        go_roundw
        case rel => exact ⟨k + 1, _, by omega, by go_num, by rw [HT.out]; exact S9.out⟩
        case measure => simp [intOf]; omega
      · have HT := Lib.hid (SKP.out ha)
        clear YES SKP
        have S4 := Lib.hid (S3.out.drop 1)
        clear S3
        go_wp2
        go_roundw
        case rel => exact ⟨k + 1, _, by omega, by go_num, by rw [HT.out]; exact S4.out⟩
        case measure => simp [intOf]; omega
    · have hge : ¬ (k : Int) < (p.lks.length : Int) := by omega
      obtain rfl : k = p.lks.length := by omega
      have HT := Lib.hid (show prevL (p.lks.take p.lks.length) a = prevL p.lks a by rw [List.take_length])
      rw [HT.out] at S2 ⊢
      have hlen : (prevL p.lks a).length ≤ 12 := Nat.le_trans (pickL_len _ _ _ _) hl
      generalize hus : prevL p.lks a = us at S2 hlen ⊢
      have HU := Lib.hid hus
      clear HT hus
      go_wp2_with fail
      refine (implSetOf_any us _ _ (by exact rd_flat (S2.out.rd 0 rfl)) (nilOk_own S2.out.ownRI) (by omega)).mono ?_
      rintro e wy ⟨v', rfl, ow, b2⟩
      have S3 := Lib.hid (S2.out.new (flat_own ow).1 (flat_own ow).2 b2)
      clear ow b2 S2
      go_wp2
      go_ret
      first
        | exact ⟨_, rfl, _, by rw [HU.out]; exact (S3.out.own 0 rfl).1, (S3.out.own 0 rfl).2, S3.out.1⟩
        | exact ⟨_, by rw [HU.out]; exact (S3.out.own 0 rfl).1, (S3.out.own 0 rfl).2, S3.out.1⟩
        | exact ⟨_, _, rfl, by rw [HU.out]; exact (S3.out.own 0 rfl).1, (S3.out.own 0 rfl).2, S3.out.1⟩


set_option maxRecDepth 100000 in
set_option maxHeartbeats 4000000 in
theorem specSuccessors_any (p : Pj) (a : Int) (v : Value) (w : World) (hv : (trPj p).rd w v) (hk : (trPj p).ok) :
    Calls Tryz.prog 10 #[v, .int .i64 a] w fun e w' => ∃ u F, e = .returned u ∧ (trI (succB p a)).own w' w.heap.size u F ∧ F.Nodup ∧ Below w.heap.size w w' := by
  have HV := Lib.hid hv
  obtain ⟨A1, c1, A2, c2, A3, c3, A4, c4, rfl, r1, r2, r3, r4⟩ := rdProject_t hv
  obtain ⟨hl2, B2, d2, he, g2⟩ := rdLinkS_t r2
  injection he with he _ he2
  subst he he2
  have G2 := Lib.hid g2
  clear hv r1 r2 r3 r4 g2
  have HK := Lib.hid hk
  clear hk G2 hl2
  have S0 := Lib.hid ((Sn.start w).box 34 [.int .i64 p.dl, .slice A1 p.acts.length c1, .slice A2 p.lks.length c2, .slice A3 p.ress.length c3, .slice A4 p.stk.length c4])
  go_enter Tryz.func10, Tryz.ntmps10
  obtain ⟨e0, e1, e2, e3, e4, ef⟩ := (S0.out.bk 0 rfl).c5
  go_wp2_with fail
  clear e0 e1 e2 e3 e4 ef
  refine (specProjectOk_any p _ _ (by exact S0.out.old HV.out) HK.out).mono ?_
  rintro e w1 ⟨rfl, b⟩
  have S1 := Lib.hid (S0.out.go b)
  clear S0 b
  rcases hok : pokB p with _ | _
  · have HS := Lib.hid (show succB p a = [] by rw [succB, if_neg (by rw [hok]; simp)])
    clear hok
    go_wp2
    go_ret
    have hnil : ∀ W : World, (trI (succB p a)).own W w.heap.size (.slice none 0 0) [] := fun W => by rw [HS.out]; exact ⟨[], [], ⟨rfl, .inl ⟨rfl, rfl⟩⟩, ⟨rfl, rfl⟩, rfl⟩
    first
      | exact ⟨[], hnil _, List.nodup_nil, S1.out.1⟩
      | exact ⟨.slice none 0 0, [], rfl, hnil _, List.nodup_nil, S1.out.1⟩
      | exact ⟨.slice none 0 0, rfl, [], hnil _, List.nodup_nil, S1.out.1⟩
  obtain ⟨e0, e1, e2, e3, e4, ef⟩ := (S1.out.bk 0 rfl).c5
  have HOK := Lib.hid hok
  have HS := Lib.hid (show succB p a = setB (nextL p.lks a) by rw [succB, if_pos hok])
  have h12 := (pok_lks hok).1
  have h6 := (pok_acts hok).1
  clear hok
  go_wp2_with fail
  refine (inD_any _ _ _ _).mono ?_
  rintro e wz ⟨rfl, hw⟩
  subst hw
  by_cases hr : 0 ≤ a ∧ a < (p.acts.length : Int)
  case neg =>
    have HS := Lib.hid (succ_out (p := p) hr)
    rw [inB_no (n := a) (lo := 0) (hi := (p.acts.length : Int) - 1) (by omega)]
    clear hr e0 e1 e2 e3 e4 ef
    go_wp2
    go_ret
    have hnil : ∀ W : World, (trI (succB p a)).own W w.heap.size (.slice none 0 0) [] := fun W => by rw [HS.out]; exact ⟨[], [], ⟨rfl, .inl ⟨rfl, rfl⟩⟩, ⟨rfl, rfl⟩, rfl⟩
    first
      | exact ⟨[], hnil _, List.nodup_nil, S1.out.1⟩
      | exact ⟨.slice none 0 0, [], rfl, hnil _, List.nodup_nil, S1.out.1⟩
      | exact ⟨.slice none 0 0, rfl, [], hnil _, List.nodup_nil, S1.out.1⟩
  rw [inB_yes (n := a) (lo := 0) (hi := (p.acts.length : Int) - 1) (by omega)]
  clear hr
  go_wp2_with fail
  clear e0 e1 e2 e3 e4 ef
  refine (specNext_any p a _ _ (by exact S1.out.old HV.out) h12).mono ?_
  rintro e w2 ⟨u, F, rfl, ow, hn, b⟩
  have S2 := Lib.hid (S1.out.new ow hn b)
  clear ow hn b S1
  go_wp2
  go_ret
  first
    | exact ⟨_, rfl, F, by rw [HS.out]; exact (S2.out.own 0 rfl).1, (S2.out.own 0 rfl).2, S2.out.1⟩
    | exact ⟨_, by rw [HS.out]; exact (S2.out.own 0 rfl).1, (S2.out.own 0 rfl).2, S2.out.1⟩
    | exact ⟨_, _, rfl, by rw [HS.out]; exact (S2.out.own 0 rfl).1, (S2.out.own 0 rfl).2, S2.out.1⟩

set_option maxRecDepth 100000 in
set_option maxHeartbeats 4000000 in
theorem implSuccessors_any (p : Pj) (a : Int) (v : Value) (w : World) (hv : (trPj p).rd w v) (hk : (trPj p).ok) :
    Calls Tryz.prog 12 #[v, .int .i64 a] w fun e w' => ∃ u F, e = .returned u ∧ (trI (succB p a)).own w' w.heap.size u F ∧ F.Nodup ∧ Below w.heap.size w w' := by
  have HV := Lib.hid hv
  obtain ⟨A1, c1, A2, c2, A3, c3, A4, c4, rfl, r1, r2, r3, r4⟩ := rdProject_t hv
  obtain ⟨hl2, B2, d2, he, g2⟩ := rdLinkS_t r2
  injection he with he _ he2
  subst he he2
  have G2 := Lib.hid g2
  clear hv r1 r2 r3 r4 g2
  have HK := Lib.hid hk
  clear hk G2 hl2
  have S0 := Lib.hid ((Sn.start w).box 34 [.int .i64 p.dl, .slice A1 p.acts.length c1, .slice A2 p.lks.length c2, .slice A3 p.ress.length c3, .slice A4 p.stk.length c4])
  go_enter Tryz.func12, Tryz.ntmps12
  obtain ⟨e0, e1, e2, e3, e4, ef⟩ := (S0.out.bk 0 rfl).c5
  go_wp2_with fail
  clear e0 e1 e2 e3 e4 ef
  refine (implProjectOk_any p _ _ (by exact S0.out.old HV.out) HK.out).mono ?_
  rintro e w1 ⟨rfl, b⟩
  have S1 := Lib.hid (S0.out.go b)
  clear S0 b
  rcases hok : pokB p with _ | _
  · have HS := Lib.hid (show succB p a = [] by rw [succB, if_neg (by rw [hok]; simp)])
    clear hok
    go_wp2
    go_ret
    have hnil : ∀ W : World, (trI (succB p a)).own W w.heap.size (.slice none 0 0) [] := fun W => by rw [HS.out]; exact ⟨[], [], ⟨rfl, .inl ⟨rfl, rfl⟩⟩, ⟨rfl, rfl⟩, rfl⟩
    first
      | exact ⟨[], hnil _, List.nodup_nil, S1.out.1⟩
      | exact ⟨.slice none 0 0, [], rfl, hnil _, List.nodup_nil, S1.out.1⟩
      | exact ⟨.slice none 0 0, rfl, [], hnil _, List.nodup_nil, S1.out.1⟩
  obtain ⟨e0, e1, e2, e3, e4, ef⟩ := (S1.out.bk 0 rfl).c5
  have HOK := Lib.hid hok
  have HS := Lib.hid (show succB p a = setB (nextL p.lks a) by rw [succB, if_pos hok])
  have h12 := (pok_lks hok).1
  clear hok
  go_wp2_with fail
  clear e0 e1 e2 e3 e4 ef
  refine (implNext_any p a _ _ (by exact S1.out.old HV.out) h12).mono ?_
  rintro e w2 ⟨u, F, rfl, ow, hn, b⟩
  have S2 := Lib.hid (S1.out.new ow hn b)
  clear ow hn b S1
  go_wp2
  go_ret
  first
    | exact ⟨_, rfl, F, by rw [HS.out]; exact (S2.out.own 0 rfl).1, (S2.out.own 0 rfl).2, S2.out.1⟩
    | exact ⟨_, by rw [HS.out]; exact (S2.out.own 0 rfl).1, (S2.out.own 0 rfl).2, S2.out.1⟩
    | exact ⟨_, _, rfl, by rw [HS.out]; exact (S2.out.own 0 rfl).1, (S2.out.own 0 rfl).2, S2.out.1⟩


set_option maxRecDepth 100000 in
set_option maxHeartbeats 4000000 in
theorem specPredecessors_any (p : Pj) (a : Int) (v : Value) (w : World) (hv : (trPj p).rd w v) (hk : (trPj p).ok) :
    Calls Tryz.prog 18 #[v, .int .i64 a] w fun e w' => ∃ u F, e = .returned u ∧ (trI (predB p a)).own w' w.heap.size u F ∧ F.Nodup ∧ Below w.heap.size w w' := by
  have HV := Lib.hid hv
  obtain ⟨A1, c1, A2, c2, A3, c3, A4, c4, rfl, r1, r2, r3, r4⟩ := rdProject_t hv
  obtain ⟨hl2, B2, d2, he, g2⟩ := rdLinkS_t r2
  injection he with he _ he2
  subst he he2
  have G2 := Lib.hid g2
  clear hv r1 r2 r3 r4 g2
  have HK := Lib.hid hk
  clear hk G2 hl2
  have S0 := Lib.hid ((Sn.start w).box 34 [.int .i64 p.dl, .slice A1 p.acts.length c1, .slice A2 p.lks.length c2, .slice A3 p.ress.length c3, .slice A4 p.stk.length c4])
  go_enter Tryz.func18, Tryz.ntmps18
  obtain ⟨e0, e1, e2, e3, e4, ef⟩ := (S0.out.bk 0 rfl).c5
  go_wp2_with fail
  clear e0 e1 e2 e3 e4 ef
  refine (specProjectOk_any p _ _ (by exact S0.out.old HV.out) HK.out).mono ?_
  rintro e w1 ⟨rfl, b⟩
  have S1 := Lib.hid (S0.out.go b)
  clear S0 b
  rcases hok : pokB p with _ | _
  · have HS := Lib.hid (show predB p a = [] by rw [predB, if_neg (by rw [hok]; simp)])
    clear hok
    go_wp2
    go_ret
    have hnil : ∀ W : World, (trI (predB p a)).own W w.heap.size (.slice none 0 0) [] := fun W => by rw [HS.out]; exact ⟨[], [], ⟨rfl, .inl ⟨rfl, rfl⟩⟩, ⟨rfl, rfl⟩, rfl⟩
    first
      | exact ⟨[], hnil _, List.nodup_nil, S1.out.1⟩
      | exact ⟨.slice none 0 0, [], rfl, hnil _, List.nodup_nil, S1.out.1⟩
      | exact ⟨.slice none 0 0, rfl, [], hnil _, List.nodup_nil, S1.out.1⟩
  obtain ⟨e0, e1, e2, e3, e4, ef⟩ := (S1.out.bk 0 rfl).c5
  have HOK := Lib.hid hok
  have HS := Lib.hid (show predB p a = setB (prevL p.lks a) by rw [predB, if_pos hok])
  have h12 := (pok_lks hok).1
  have h6 := (pok_acts hok).1
  clear hok
  go_wp2_with fail
  refine (inD_any _ _ _ _).mono ?_
  rintro e wz ⟨rfl, hw⟩
  subst hw
  by_cases hr : 0 ≤ a ∧ a < (p.acts.length : Int)
  case neg =>
    have HS := Lib.hid (pred_out (p := p) hr)
    rw [inB_no (n := a) (lo := 0) (hi := (p.acts.length : Int) - 1) (by omega)]
    clear hr e0 e1 e2 e3 e4 ef
    go_wp2
    go_ret
    have hnil : ∀ W : World, (trI (predB p a)).own W w.heap.size (.slice none 0 0) [] := fun W => by rw [HS.out]; exact ⟨[], [], ⟨rfl, .inl ⟨rfl, rfl⟩⟩, ⟨rfl, rfl⟩, rfl⟩
    first
      | exact ⟨[], hnil _, List.nodup_nil, S1.out.1⟩
      | exact ⟨.slice none 0 0, [], rfl, hnil _, List.nodup_nil, S1.out.1⟩
      | exact ⟨.slice none 0 0, rfl, [], hnil _, List.nodup_nil, S1.out.1⟩
  rw [inB_yes (n := a) (lo := 0) (hi := (p.acts.length : Int) - 1) (by omega)]
  clear hr
  go_wp2_with fail
  clear e0 e1 e2 e3 e4 ef
  refine (specPrev_any p a _ _ (by exact S1.out.old HV.out) h12).mono ?_
  rintro e w2 ⟨u, F, rfl, ow, hn, b⟩
  have S2 := Lib.hid (S1.out.new ow hn b)
  clear ow hn b S1
  go_wp2
  go_ret
  first
    | exact ⟨_, rfl, F, by rw [HS.out]; exact (S2.out.own 0 rfl).1, (S2.out.own 0 rfl).2, S2.out.1⟩
    | exact ⟨_, by rw [HS.out]; exact (S2.out.own 0 rfl).1, (S2.out.own 0 rfl).2, S2.out.1⟩
    | exact ⟨_, _, rfl, by rw [HS.out]; exact (S2.out.own 0 rfl).1, (S2.out.own 0 rfl).2, S2.out.1⟩

set_option maxRecDepth 100000 in
set_option maxHeartbeats 4000000 in
theorem implPredecessors_any (p : Pj) (a : Int) (v : Value) (w : World) (hv : (trPj p).rd w v) (hk : (trPj p).ok) :
    Calls Tryz.prog 19 #[v, .int .i64 a] w fun e w' => ∃ u F, e = .returned u ∧ (trI (predB p a)).own w' w.heap.size u F ∧ F.Nodup ∧ Below w.heap.size w w' := by
  have HV := Lib.hid hv
  obtain ⟨A1, c1, A2, c2, A3, c3, A4, c4, rfl, r1, r2, r3, r4⟩ := rdProject_t hv
  obtain ⟨hl2, B2, d2, he, g2⟩ := rdLinkS_t r2
  injection he with he _ he2
  subst he he2
  have G2 := Lib.hid g2
  clear hv r1 r2 r3 r4 g2
  have HK := Lib.hid hk
  clear hk G2 hl2
  have S0 := Lib.hid ((Sn.start w).box 34 [.int .i64 p.dl, .slice A1 p.acts.length c1, .slice A2 p.lks.length c2, .slice A3 p.ress.length c3, .slice A4 p.stk.length c4])
  go_enter Tryz.func19, Tryz.ntmps19
  obtain ⟨e0, e1, e2, e3, e4, ef⟩ := (S0.out.bk 0 rfl).c5
  go_wp2_with fail
  clear e0 e1 e2 e3 e4 ef
  refine (implProjectOk_any p _ _ (by exact S0.out.old HV.out) HK.out).mono ?_
  rintro e w1 ⟨rfl, b⟩
  have S1 := Lib.hid (S0.out.go b)
  clear S0 b
  rcases hok : pokB p with _ | _
  · have HS := Lib.hid (show predB p a = [] by rw [predB, if_neg (by rw [hok]; simp)])
    clear hok
    go_wp2
    go_ret
    have hnil : ∀ W : World, (trI (predB p a)).own W w.heap.size (.slice none 0 0) [] := fun W => by rw [HS.out]; exact ⟨[], [], ⟨rfl, .inl ⟨rfl, rfl⟩⟩, ⟨rfl, rfl⟩, rfl⟩
    first
      | exact ⟨[], hnil _, List.nodup_nil, S1.out.1⟩
      | exact ⟨.slice none 0 0, [], rfl, hnil _, List.nodup_nil, S1.out.1⟩
      | exact ⟨.slice none 0 0, rfl, [], hnil _, List.nodup_nil, S1.out.1⟩
  obtain ⟨e0, e1, e2, e3, e4, ef⟩ := (S1.out.bk 0 rfl).c5
  have HOK := Lib.hid hok
  have HS := Lib.hid (show predB p a = setB (prevL p.lks a) by rw [predB, if_pos hok])
  have h12 := (pok_lks hok).1
  clear hok
  go_wp2_with fail
  clear e0 e1 e2 e3 e4 ef
  refine (implPrev_any p a _ _ (by exact S1.out.old HV.out) h12).mono ?_
  rintro e w2 ⟨u, F, rfl, ow, hn, b⟩
  have S2 := Lib.hid (S1.out.new ow hn b)
  clear ow hn b S1
  go_wp2
  go_ret
  first
    | exact ⟨_, rfl, F, by rw [HS.out]; exact (S2.out.own 0 rfl).1, (S2.out.own 0 rfl).2, S2.out.1⟩
    | exact ⟨_, by rw [HS.out]; exact (S2.out.own 0 rfl).1, (S2.out.own 0 rfl).2, S2.out.1⟩
    | exact ⟨_, _, rfl, by rw [HS.out]; exact (S2.out.own 0 rfl).1, (S2.out.own 0 rfl).2, S2.out.1⟩


set_option maxRecDepth 100000 in
set_option maxHeartbeats 4000000 in
theorem specRoots_any (p : Pj) (v : Value) (w : World) (hv : (trPj p).rd w v) (hk : (trPj p).ok) :
    Calls Tryz.prog 26 #[v] w fun e w' => ∃ u F, e = .returned u ∧ (trI (rootsB p)).own w' w.heap.size u F ∧ F.Nodup ∧ Below w.heap.size w w' := by
  have HV := Lib.hid hv
  obtain ⟨A1, c1, A2, c2, A3, c3, A4, c4, rfl, r1, r2, r3, r4⟩ := rdProject_t hv
  obtain ⟨hl2, B2, d2, he, g2⟩ := rdLinkS_t r2
  injection he with he _ he2
  subst he he2
  have G2 := Lib.hid g2
  clear hv r1 r2 r3 r4 g2
  have HK := Lib.hid hk
  clear hk G2 hl2
  have S0 := Lib.hid (((Sn.start w).box 34 [.int .i64 p.dl, .slice A1 p.acts.length c1, .slice A2 p.lks.length c2, .slice A3 p.ress.length c3, .slice A4 p.stk.length c4]).emptyI)
  simp only [World.size_alloc] at S0
  go_enter Tryz.func26, Tryz.ntmps26
  obtain ⟨e0, e1, e2, e3, e4, ef⟩ := (S0.out.bk 1 rfl).c5
  go_wp2_with fail
  clear e0 e1 e2 e3 e4 ef
  refine (specProjectOk_any p _ _ (by exact S0.out.old HV.out) HK.out).mono ?_
  rintro e w1 ⟨rfl, b⟩
  have S1 := Lib.hid (S0.out.go b)
  clear S0 b
  rcases hok : pokB p with _ | _
  · have HS := Lib.hid (show rootsB p = [] by rw [rootsB, if_neg (by rw [hok]; simp)])
    clear hok
    go_wp2
    go_ret
    have hnil : ∀ W : World, (trI (rootsB p)).own W w.heap.size (.slice none 0 0) [] := fun W => by rw [HS.out]; exact ⟨[], [], ⟨rfl, .inl ⟨rfl, rfl⟩⟩, ⟨rfl, rfl⟩, rfl⟩
    first
      | exact ⟨[], hnil _, List.nodup_nil, S1.out.1⟩
      | exact ⟨.slice none 0 0, [], rfl, hnil _, List.nodup_nil, S1.out.1⟩
      | exact ⟨.slice none 0 0, rfl, [], hnil _, List.nodup_nil, S1.out.1⟩
  obtain ⟨e0, e1, e2, e3, e4, ef⟩ := (S1.out.bk 1 rfl).c5
  have HS := Lib.hid (show rootsB p = rootsK p.lks p.acts.length by rw [rootsB, if_pos hok])
  have h12 := (pok_lks hok).1
  have h6 := (pok_acts hok).1
  clear hok
  obtain ⟨i0, hi0, hz0, hz1, hz2⟩ := info_parts infoInt
  go_wp2
  clear e0 e1 e2 e3 e4 ef
  go_loopw [3, 12] (fun u i wr => ∃ (k : Nat) (F : List Nat), k ≤ p.acts.length ∧ i = .int .i64 k ∧ Sn w wr [⟨trI (rootsK p.lks k), u, F⟩, boxI w.heap.size 34 [.int .i64 p.dl, .slice A1 p.acts.length c1, .slice A2 p.lks.length c2, .slice A3 p.ress.length c3, .slice A4 p.stk.length c4]]) (fun _ i _ => p.acts.length - (intOf i).toNat)
  case atStart => exact ⟨0, _, Nat.zero_le _, rfl, S1.out⟩
  case round =>
    obtain ⟨k, F, hkl, rfl, hS⟩ := hrel
    have S3 := Lib.hid hS
    clear hS S1
    obtain ⟨U, cu, rfl⟩ := slice_ints (S3.out.rd 0 rfl)
    by_cases hlt : k < p.acts.length
    · have hlt' : (k : Int) < (p.acts.length : Int) := by omega
      have TK := Lib.hid (rootsK_succ p.lks k)
      have hlen := rootsK_len p.lks k
      generalize rootsK p.lks k = us at S3 hlen TK ⊢
      obtain ⟨e0, e1, e2, e3, e4, ef⟩ := (S3.out.bk 1 rfl).c5
      go_wp2_with fail
      clear e0 e1 e2 e3 e4 ef
      refine (specPrev_any p (k : Int) _ _ (by exact S3.out.old HV.out) h12).mono ?_
      rintro e w4 ⟨u4, F4, rfl, o4, hn4, b4⟩
      obtain ⟨U4, cu4, rfl⟩ := slice_ints (Tr.own_rd _ _ _ o4)
      have S5 := Lib.hid (S3.out.go b4)
      clear S3 o4 hn4 b4
      by_cases ha : prevL p.lks (k : Int) = []
      · have HT := Lib.hid (TK.out.trans (by rw [if_pos ha]))
        rw [ha, setB_nil]
        clear TK ha
        have OW := Lib.hid S5.out.ownRI
        have hz := S5.out.1.size
        go_wp2_with (first | (at_builtin; refine wpList_append_own_at _ rfl (.tmp 20) (.tmp 22) 25 rfl w.heap.size 3 i0 (.int .i64 0) 1 8 Tryz.underlying25 hi0 hz0 hz1 hz2 rfl (by decide) (.slice U us.length cu) us.length (us.map (.int .i64)) rfl (by exact OW.out.alloc _) ⟨w4.heap.size, 0, none⟩ 1 1 [.int .i64 (k : Int)] rfl rfl ?c1 ?c2 ?c3 ?c4 ?c5 ?_))
        try case c1 => exact one_cell _ _ _
        case c2 => simp [Value.oneCell']
        case c3 => unfold maxLen; omega
        case c4 => omega
        case c5 => first | omega | (simp; omega)
        intro v' w8 hown8 hg8 _ hat8
        obtain ⟨F9, h9⟩ := S5.out.appI2 hown8 hg8 (by simpa using hat8)
        have S9 := Lib.hid h9
        clear hown8 hg8 hat8 h9 OW S5
        go_wp2
        go_roundw
        case rel => exact ⟨k + 1, _, by omega, by go_num, by rw [HT.out]; exact S9.out⟩
        case measure => simp [intOf]; omega
      · have HT := Lib.hid (TK.out.trans (by rw [if_neg ha, List.append_nil]))
        have hne : setB (prevL p.lks (k : Int)) ≠ [] := fun h => ha (set_nil_iff.1 h)
        have hz4 : ((((setB (prevL p.lks (k : Int))).length : Nat) : Int) == 0) = false := by
          simpa using hne
        clear TK ha
        have hz5 : ¬ (setB (prevL p.lks (k : Int))).length = 0 := fun h => hne (List.length_eq_zero_iff.1 h)
        clear hne
        generalize (setB (prevL p.lks (k : Int))).length = n4 at hz4 hz5 ⊢
        go_wp2
        go_roundw
        case rel => exact ⟨k + 1, _, by omega, by go_num, by rw [HT.out]; exact S5.out⟩
        case measure => simp [intOf]; omega
    · have hge : ¬ (k : Int) < (p.acts.length : Int) := by omega
      obtain rfl : k = p.acts.length := by omega
      go_wp2
      go_ret
      first
        | exact ⟨_, rfl, F, by rw [HS.out]; exact (S3.out.own 0 rfl).1, (S3.out.own 0 rfl).2, S3.out.1⟩
        | exact ⟨_, by rw [HS.out]; exact (S3.out.own 0 rfl).1, (S3.out.own 0 rfl).2, S3.out.1⟩
        | exact ⟨_, _, rfl, by rw [HS.out]; exact (S3.out.own 0 rfl).1, (S3.out.own 0 rfl).2, S3.out.1⟩


set_option maxRecDepth 100000 in
set_option maxHeartbeats 4000000 in
theorem implRoots_any (p : Pj) (v : Value) (w : World) (hv : (trPj p).rd w v) (hk : (trPj p).ok) :
    Calls Tryz.prog 27 #[v] w fun e w' => ∃ u F, e = .returned u ∧ (trI (rootsB p)).own w' w.heap.size u F ∧ F.Nodup ∧ Below w.heap.size w w' := by
  have HV := Lib.hid hv
  obtain ⟨A1, c1, A2, c2, A3, c3, A4, c4, rfl, r1, r2, r3, r4⟩ := rdProject_t hv
  obtain ⟨hl2, B2, d2, he, g2⟩ := rdLinkS_t r2
  injection he with he _ he2
  subst he he2
  have G2 := Lib.hid g2
  clear hv r1 r2 r3 r4 g2
  have HK := Lib.hid hk
  clear hk G2 hl2
  have S0 := Lib.hid ((Sn.start w).box 34 [.int .i64 p.dl, .slice A1 p.acts.length c1, .slice A2 p.lks.length c2, .slice A3 p.ress.length c3, .slice A4 p.stk.length c4])
  go_enter Tryz.func27, Tryz.ntmps27
  obtain ⟨e0, e1, e2, e3, e4, ef⟩ := (S0.out.bk 0 rfl).c5
  go_wp2_with fail
  clear e0 e1 e2 e3 e4 ef
  refine (implProjectOk_any p _ _ (by exact S0.out.old HV.out) HK.out).mono ?_
  rintro e w1 ⟨rfl, b⟩
  have S1 := Lib.hid (S0.out.go b)
  clear S0 b
  rcases hok : pokB p with _ | _
  · have HS := Lib.hid (show rootsB p = [] by rw [rootsB, if_neg (by rw [hok]; simp)])
    clear hok
    go_wp2
    go_ret
    have hnil : ∀ W : World, (trI (rootsB p)).own W w.heap.size (.slice none 0 0) [] := fun W => by rw [HS.out]; exact ⟨[], [], ⟨rfl, .inl ⟨rfl, rfl⟩⟩, ⟨rfl, rfl⟩, rfl⟩
    first
      | exact ⟨[], hnil _, List.nodup_nil, S1.out.1⟩
      | exact ⟨.slice none 0 0, [], rfl, hnil _, List.nodup_nil, S1.out.1⟩
      | exact ⟨.slice none 0 0, rfl, [], hnil _, List.nodup_nil, S1.out.1⟩
  obtain ⟨e0, e1, e2, e3, e4, ef⟩ := (S1.out.bk 0 rfl).c5
  have HS := Lib.hid (show rootsB p = rootsK p.lks p.acts.length by rw [rootsB, if_pos hok])
  have h12 := (pok_lks hok).1
  have h6 := (pok_acts hok).1
  clear hok
  have S2 := Lib.hid S1.out.nilI
  clear S1
  obtain ⟨i0, hi0, hz0, hz1, hz2⟩ := info_parts infoInt
  go_wp2
  clear e0 e1 e2 e3 e4 ef
  go_loopw [3, 11] (fun u i wr => ∃ (k : Nat) (F : List Nat), k ≤ p.acts.length ∧ i = .int .i64 k ∧ Sn w wr [⟨trI (rootsK p.lks k), u, F⟩, boxI w.heap.size 34 [.int .i64 p.dl, .slice A1 p.acts.length c1, .slice A2 p.lks.length c2, .slice A3 p.ress.length c3, .slice A4 p.stk.length c4]]) (fun _ i _ => p.acts.length - (intOf i).toNat)
  case atStart => exact ⟨0, _, Nat.zero_le _, rfl, S2.out⟩
  case round =>
    obtain ⟨k, F, hkl, rfl, hS⟩ := hrel
    have S3 := Lib.hid hS
    clear hS S2
    obtain ⟨U, cu, rfl⟩ := slice_ints (S3.out.rd 0 rfl)
    by_cases hlt : k < p.acts.length
    · have hlt' : (k : Int) < (p.acts.length : Int) := by omega
      have TK := Lib.hid (rootsK_succ p.lks k)
      have hlen := rootsK_len p.lks k
      generalize rootsK p.lks k = us at S3 hlen TK ⊢
      obtain ⟨e0, e1, e2, e3, e4, ef⟩ := (S3.out.bk 1 rfl).c5
      go_wp2_with fail
      clear e0 e1 e2 e3 e4 ef
      refine (implPrev_any p (k : Int) _ _ (by exact S3.out.old HV.out) h12).mono ?_
      rintro e w4 ⟨u4, F4, rfl, o4, hn4, b4⟩
      obtain ⟨U4, cu4, rfl⟩ := slice_ints (Tr.own_rd _ _ _ o4)
      have S5 := Lib.hid (S3.out.go b4)
      clear S3 o4 hn4 b4
      by_cases ha : prevL p.lks (k : Int) = []
      · have HT := Lib.hid (TK.out.trans (by rw [if_pos ha]))
        rw [ha, setB_nil]
        clear TK ha
        have OW := Lib.hid S5.out.ownRI
        have hz := S5.out.1.size
        go_wp2_with (first | (at_builtin; refine wpList_append_own_at _ rfl (.tmp 19) (.tmp 21) 25 rfl w.heap.size 3 i0 (.int .i64 0) 1 8 Tryz.underlying25 hi0 hz0 hz1 hz2 rfl (by decide) (.slice U us.length cu) us.length (us.map (.int .i64)) rfl (by exact OW.out.alloc _) ⟨w4.heap.size, 0, none⟩ 1 1 [.int .i64 (k : Int)] rfl rfl ?c1 ?c2 ?c3 ?c4 ?c5 ?_))
        try case c1 => exact one_cell _ _ _
        case c2 => simp [Value.oneCell']
        case c3 => unfold maxLen; omega
        case c4 => omega
        case c5 => first | omega | (simp; omega)
        intro v' w8 hown8 hg8 _ hat8
        obtain ⟨F9, h9⟩ := S5.out.appI2 hown8 hg8 (by simpa using hat8)
        have S9 := Lib.hid h9
        clear hown8 hg8 hat8 h9 OW S5
        go_wp2
        go_roundw
        case rel => exact ⟨k + 1, _, by omega, by go_num, by rw [HT.out]; exact S9.out⟩
        case measure => simp [intOf]; omega
      · have HT := Lib.hid (TK.out.trans (by rw [if_neg ha, List.append_nil]))
        have hne : setB (prevL p.lks (k : Int)) ≠ [] := fun h => ha (set_nil_iff.1 h)
        have hz4 : ((((setB (prevL p.lks (k : Int))).length : Nat) : Int) == 0) = false := by
          simpa using hne
        clear TK ha
        have hz5 : ¬ (setB (prevL p.lks (k : Int))).length = 0 := fun h => hne (List.length_eq_zero_iff.1 h)
        clear hne
        generalize (setB (prevL p.lks (k : Int))).length = n4 at hz4 hz5 ⊢
        go_wp2
        go_roundw
        case rel => exact ⟨k + 1, _, by omega, by go_num, by rw [HT.out]; exact S5.out⟩
        case measure => simp [intOf]; omega
    · have hge : ¬ (k : Int) < (p.acts.length : Int) := by omega
      obtain rfl : k = p.acts.length := by omega
      go_wp2
      go_ret
      first
        | exact ⟨_, rfl, F, by rw [HS.out]; exact (S3.out.own 0 rfl).1, (S3.out.own 0 rfl).2, S3.out.1⟩
        | exact ⟨_, by rw [HS.out]; exact (S3.out.own 0 rfl).1, (S3.out.own 0 rfl).2, S3.out.1⟩
        | exact ⟨_, _, rfl, by rw [HS.out]; exact (S3.out.own 0 rfl).1, (S3.out.own 0 rfl).2, S3.out.1⟩


end Go.Proofs.YtfdhoddooeedoaaGreat
