/- DERIVED. CONTRACTS of chapter 14: NewClause of the model. -/
import Derived.Test.YtgbpomakomddjaaClM
import Derived.Test.YtgbpomakomddjaaClE
import Derived.Test.YtgbpomakomddjaaLtC
import Derived.Test.YtgbpomakomddjaaRwT
namespace Go.Proofs.Ytgbpomakomddjaa
open Go.RowKit Go.Shelf
set_option linter.unusedVariables false

theorem rdT_drop0 {w : World} {b n c c' : Nat} {l : List Lt} (h : (trLts l).rd w (.slice (some ⟨b, 0, none⟩) n c)) {k m : Nat} (hk : k ≤ l.length) (hm : m = l.length - k) : (trLts (l.drop k)).rd w (.slice (some ⟨b, k * 3, none⟩) m c') := by
  have := rdT_drop (c' := c') h hk hm
  rwa [Nat.zero_add] at this
theorem rdT_drop_end {w : World} {A : Option Addr} {c' k : Nat} {l : List Lt} (h : l.length ≤ k) : (trLts (l.drop k)).rd w (.slice A (l.length - k) c') := by
  refine mk_rdT ⟨by rw [List.length_drop]; unfold maxLen; omega, cells3_len _, A, c', by rw [List.length_drop], .inl (by rw [List.length_drop]; omega)⟩
theorem nilOk_at (a : Addr) (n c : Nat) : NilOk (.slice (some a) n c) := by
  intro _ _ h; injection h with h; cases h
theorem Sn.formT {w0 W : World} {L : List Item} {l : List Lt} {v : Value} {F : List Nat} (h : Sn w0 W (⟨rowT l, v, F⟩ :: L)) (hn : 0 < l.length) : ∃ g c, v = .slice (some ⟨g, 0, none⟩) l.length c ∧ g < W.heap.size ∧ l.length ≤ c := by
  rcases ownsT_cases h.ownT with ⟨_, h0⟩ | ⟨g, c, e, _, hl, hc⟩
  · omega
  · exact ⟨g, c, e, hl, hc⟩
theorem put_len {l : List Lt} {x : Lt} : 0 < (putL l x).length := by
  have := (mem_putL l x x).2 (.inr rfl)
  exact List.length_pos_of_mem this
theorem new_snoc {l : List Lt} {k : Nat} (h : k < l.length) : newL (l.take (k + 1)) = putL (newL (l.take k)) l[k] := by
  rw [List.take_succ_eq_append_getElem h, newL_snoc]
theorem new_len {l : List Lt} {k : Nat} (h : k ≤ l.length) : (newL (l.take k)).length ≤ k := by
  have := len_newL (l.take k)
  rw [List.length_take] at this
  omega
set_option maxRecDepth 100000 in
set_option maxHeartbeats 8000000 in
theorem specNewClause_any (l : List Lt) (v : Value) (w : World) (hv : (trLts l).rd w v) (hlen : l.length ≤ 1048576) :
    Calls Try.prog 17 #[v] w fun e w' => ∃ v' F, e = .returned v' ∧ (trLts (newL l)).own w' w.heap.size v' F ∧ F.Nodup ∧ Below w.heap.size w w' := by
  obtain ⟨hl, A, c, rfl, ga⟩ := rdLiteralS_t hv
  have GA := Lib.hid ga
  clear hv ga
  obtain ⟨i0, hi0, hz0, hz1, hz2⟩ := info_parts infoLiteral_t
  have S1 := Lib.hid (Sn.start w).emptyT
  go_enter Try.func17, Try.ntmps17
  go_wp2
  go_loopw [3, 11] (fun u i wr => ∃ (k : Nat) (F : List Nat) (g cu : Nat), k ≤ l.length ∧ i = .int .i64 k ∧ u = .slice (some ⟨g, 0, none⟩) (newL (l.take k)).length cu ∧ (newL (l.take k)).length ≤ cu ∧ Sn w wr [⟨rowT (newL (l.take k)), u, F⟩]) (fun _ i _ => l.length - (intOf i).toNat)
  case atStart => exact ⟨0, _, w.heap.size, 0, Nat.zero_le _, rfl, rfl, Nat.le_refl _, S1.out⟩
  case round =>
    obtain ⟨k, F0, g, cu, hkl, rfl, rfl, hcu, hS⟩ := hrel
    have S2 := Lib.hid hS
    clear hS S1
    by_cases hlt : k < l.length
    · have hlt' : (k : Int) < (l.length : Int) := by omega
      obtain ⟨b, o, rfl, hb, hc⟩ := GA.out k hlt
      obtain ⟨x0, x1, x2⟩ := hc k hlt
      have hx0 := (S2.out.1.cell (p := ⟨b, o + k * 3, none⟩) hb).trans x0
      have hx1 := (S2.out.1.cell (p := ⟨b, o + k * 3 + 1, none⟩) hb).trans x1
      have hx2 := (S2.out.1.cell (p := ⟨b, o + k * 3 + 2, none⟩) hb).trans x2
      clear hc x0 x1 x2
      have hT := new_len (l := l) hkl
      have NX := Lib.hid (new_snoc hlt)
      have AS := Lib.hid (asc_newL (l.take k))
      generalize l[k] = m at hx0 hx1 hx2 NX
      generalize newL (l.take k) = T at S2 NX hT hcu AS ⊢
      have S3 := Lib.hid ((S2.out.box 45 [.int .i64 m.ki, .int .i64 m.ac, .int .i64 m.va]).pick 1 rfl)
      simp only [List.eraseIdx_cons_succ, List.eraseIdx_cons_zero] at S3
      clear S2
      go_wp2
      clear hx0 hx1 hx2
      generalize hgx : wr.heap.size = gx at S3 ⊢
      generalize World.alloc wr _ = wy at S3 ⊢
      clear hgx
      go_loopw [6] (fun i wz => ∃ kk : Nat, kk ≤ T.length ∧ i = .int .i64 kk ∧ Sn w wz [⟨rowT T, .slice (some ⟨g, 0, none⟩) T.length cu, F0⟩, boxI gx 45 [.int .i64 m.ki, .int .i64 m.ac, .int .i64 m.va]] ∧ ∀ j, (h : j < T.length) → j < kk → LtL T[j] m) (fun i _ => T.length - (intOf i).toNat)
      case atStart => exact ⟨0, Nat.zero_le _, rfl, S3.out, fun j _ h => absurd h (by omega)⟩
      case round =>
        obtain ⟨kk, hkk, rfl, hS, hall⟩ := hrel
        have S4 := Lib.hid hS
        clear hS S3
        obtain ⟨p0, p1, p2, pf⟩ := (S4.out.bk 1 rfl).c3
        have hlp := (S4.out.bk 1 rfl).lt
        have hlg := (S4.out.ownT.lt g rfl).2
        by_cases hk2 : kk < T.length
        · have hk2' : (kk : Int) < (T.length : Int) := by omega
          have kk0 : (0 : Int) ≤ (kk : Int) := by omega
          have hy := cells3_at T kk hk2
          have y0 := cellN_at S4.out.ownT hy.1
          have y1 := cellN_at S4.out.ownT hy.2.1
          have y2 := cellN_at S4.out.ownT hy.2.2
          clear hy
          have STEP := Lib.hid (fun (h : LtL T[kk] m) => step_all (p := fun x : Lt => LtL x m) hk2 hall h)
          have HALL := Lib.hid hall
          have PIN := Lib.hid (fun (e : T[kk] = m) => putL_in (x := m) hk2 e)
          have PNEW := Lib.hid (fun (h2 : ¬ LtL T[kk] m) (h3 : ¬ T[kk] = m) => putL_new (k := kk) AS.out hkk hall (fun _ => h2) (fun _ => h3))
          have CN := Lib.hid (cmp_neg (a := T[kk]) (b := m))
          clear hall
          generalize hy : T[kk] = y at y0 y1 y2 STEP PIN PNEW CN
          have HYE := Lib.hid hy
          clear hy
          have S5 := Lib.hid S4.out.drew1
          have REG := Lib.hid (specCompare_any y m)
          rcases hcm : decide (cmpLt y m < 0) with _ | _
          · have HCM := Lib.hid hcm
            have HY := Lib.hid (show ¬ LtL y m from fun h => by rw [← CN.out] at h; simp [h] at hcm)
            clear hcm
            go_wp2_with fail
            have CE := Lib.hid (fun (W : World) (h : Wr [] wr.drew W) => show Hid (Wr [] wr.drew W) ∧ W.cell? ⟨g, kk * 3, none⟩ = some (.int .i64 y.ki) ∧ W.cell? ⟨g, kk * 3 + 1, none⟩ = some (.int .i64 y.ac) ∧ W.cell? ⟨g, kk * 3 + 2, none⟩ = some (.int .i64 y.va) ∧ W.cell? ⟨gx, 0, none⟩ = some (.int .i64 m.ki) ∧ W.cell? ⟨gx, 1, none⟩ = some (.int .i64 m.ac) ∧ W.cell? ⟨gx, 2, none⟩ = some (.int .i64 m.va) from ⟨Lib.hid h, (wr_cell h (p := ⟨g, kk * 3, none⟩) hlg (by simp)).trans (by exact by simpa using y0), (wr_cell h (p := ⟨g, kk * 3 + 1, none⟩) hlg (by simp)).trans (by exact by simpa using y1), (wr_cell h (p := ⟨g, kk * 3 + 2, none⟩) hlg (by simp)).trans (by exact by simpa using y2), (wr_cell h (p := ⟨gx, 0, none⟩) hlp (by simp)).trans (by exact by simpa using p0), (wr_cell h (p := ⟨gx, 1, none⟩) hlp (by simp)).trans (by exact by simpa using p1), (wr_cell h (p := ⟨gx, 2, none⟩) hlp (by simp)).trans (by exact by simpa using p2)⟩)
            have INIT := Lib.hid (CE.out _ (Wr.refl _ _))
            have KW := Lib.hid (fun (W2 W : World) (hb : Wr [] W W2) (h : Hid (Wr [] wr.drew W) ∧ W.cell? ⟨g, kk * 3, none⟩ = some (.int .i64 y.ki) ∧ W.cell? ⟨g, kk * 3 + 1, none⟩ = some (.int .i64 y.ac) ∧ W.cell? ⟨g, kk * 3 + 2, none⟩ = some (.int .i64 y.va) ∧ W.cell? ⟨gx, 0, none⟩ = some (.int .i64 m.ki) ∧ W.cell? ⟨gx, 1, none⟩ = some (.int .i64 m.ac) ∧ W.cell? ⟨gx, 2, none⟩ = some (.int .i64 m.va)) => CE.out W2 (h.1.out.trans hb))
            clear y0 y1 y2 p0 p1 p2 pf hlp hlg
            refine wp_region_held_drew (S := fun W => Hid (Wr [] wr.drew W) ∧ W.cell? ⟨g, kk * 3, none⟩ = some (.int .i64 y.ki) ∧ W.cell? ⟨g, kk * 3 + 1, none⟩ = some (.int .i64 y.ac) ∧ W.cell? ⟨g, kk * 3 + 2, none⟩ = some (.int .i64 y.va) ∧ W.cell? ⟨gx, 0, none⟩ = some (.int .i64 m.ki) ∧ W.cell? ⟨gx, 1, none⟩ = some (.int .i64 m.ac) ∧ W.cell? ⟨gx, 2, none⟩ = some (.int .i64 m.va)) (by kernel_rfl) INIT.out (fun hHeld => ?_)
            refine wpAnyH_take (i := 0) (v := ?_) rfl (by kernel_rfl) (by kernel_rfl) (by kernel_rfl) (fun _ _ _ h => h) (Or.inl ⟨by rfl, ?_⟩) (by assumption) ?_
            rotate_left
            · (intro W hSw; (try dsimp only at hSw); go_simp <;> with_reducible rfl)
            (try simp only [Act.put, List.getElem_toArray, List.getElem_cons_zero, List.setIfInBounds_toArray, List.set_cons_succ, List.set_cons_zero])
            refine wpAnyH_take (i := 1) (v := ?_) rfl (by kernel_rfl) (by kernel_rfl) (by kernel_rfl) (fun _ _ _ h => h) (Or.inl ⟨by rfl, ?_⟩) (by assumption) ?_
            rotate_left
            · (intro W hSw; (try dsimp only at hSw); go_simp <;> with_reducible rfl)
            (try simp only [Act.put, List.getElem_toArray, List.getElem_cons_succ, List.getElem_cons_zero, List.setIfInBounds_toArray, List.set_cons_succ, List.set_cons_zero])
            refine wpAnyH_take (i := 2) (v := ?_) rfl (by kernel_rfl) (by kernel_rfl) (by kernel_rfl) (fun _ _ _ h => h) (Or.inl ⟨by rfl, ?_⟩) (by assumption) ?_
            rotate_left
            · (intro W hSw; (try dsimp only at hSw); go_simp <;> with_reducible rfl)
            (try simp only [Act.put, List.getElem_toArray, List.getElem_cons_succ, List.getElem_cons_zero, List.setIfInBounds_toArray, List.set_cons_succ, List.set_cons_zero])
            refine wpAnyH_take (i := 3) (v := ?_) rfl (by kernel_rfl) (by kernel_rfl) (by kernel_rfl) (fun _ _ _ h => h) (Or.inl ⟨by rfl, ?_⟩) (by assumption) ?_
            rotate_left
            · (intro W hSw; (try dsimp only at hSw); go_simp <;> with_reducible rfl)
            (try simp only [Act.put, List.getElem_toArray, List.getElem_cons_succ, List.getElem_cons_zero, List.setIfInBounds_toArray, List.set_cons_succ, List.set_cons_zero])
            refine wpAnyH_take (i := 4) (v := ?_) rfl (by kernel_rfl) (by kernel_rfl) (by kernel_rfl) (fun _ _ _ h => h) (Or.inl ⟨by rfl, ?_⟩) (by assumption) ?_
            rotate_left
            · (intro W hSw; (try dsimp only at hSw); go_simp <;> with_reducible rfl)
            (try simp only [Act.put, List.getElem_toArray, List.getElem_cons_succ, List.getElem_cons_zero, List.setIfInBounds_toArray, List.set_cons_succ, List.set_cons_zero])
            refine wpAnyH_take (i := 5) (v := ?_) rfl (by kernel_rfl) (by kernel_rfl) (by kernel_rfl) (fun _ _ _ h => h) (Or.inl ⟨by rfl, ?_⟩) (by assumption) ?_
            rotate_left
            · (intro W hSw; (try dsimp only at hSw); go_simp <;> with_reducible rfl)
            (try simp only [Act.put, List.getElem_toArray, List.getElem_cons_succ, List.getElem_cons_zero, List.setIfInBounds_toArray, List.set_cons_succ, List.set_cons_zero])
            refine wpAnyH_take (i := 6) (v := ?_) rfl (by kernel_rfl) (by kernel_rfl) (by kernel_rfl) (fun _ _ _ h => h) (Or.inl ⟨by rfl, ?_⟩) (by assumption) ?_
            rotate_left
            · (intro W hSw; (try dsimp only at hSw); go_simp <;> with_reducible rfl)
            (try simp only [Act.put, List.getElem_toArray, List.getElem_cons_succ, List.getElem_cons_zero, List.setIfInBounds_toArray, List.set_cons_succ, List.set_cons_zero])
            refine wpAnyH_take (i := 7) (v := ?_) rfl (by kernel_rfl) (by kernel_rfl) (by kernel_rfl) (fun _ _ _ h => h) (Or.inl ⟨by rfl, ?_⟩) (by assumption) ?_
            rotate_left
            · (intro W hSw; (try dsimp only at hSw); go_simp <;> with_reducible rfl)
            (try simp only [Act.put, List.getElem_toArray, List.getElem_cons_succ, List.getElem_cons_zero, List.setIfInBounds_toArray, List.set_cons_succ, List.set_cons_zero])
            refine wpAnyH_take (i := 8) (v := ?_) rfl (by kernel_rfl) (by kernel_rfl) (by kernel_rfl) (fun _ _ _ h => h) (Or.inl ⟨by rfl, ?_⟩) (by assumption) ?_
            rotate_left
            · (intro W hSw; (try dsimp only at hSw); go_simp <;> with_reducible rfl)
            (try simp only [Act.put, List.getElem_toArray, List.getElem_cons_succ, List.getElem_cons_zero, List.setIfInBounds_toArray, List.set_cons_succ, List.set_cons_zero])
            refine wpAnyH_take (i := 9) (v := ?_) rfl (by kernel_rfl) (by kernel_rfl) (by kernel_rfl) (fun _ _ _ h => h) (Or.inl ⟨by rfl, ?_⟩) (by assumption) ?_
            rotate_left
            · (intro W hSw; (try dsimp only at hSw); go_simp <;> with_reducible rfl)
            (try simp only [Act.put, List.getElem_toArray, List.getElem_cons_succ, List.getElem_cons_zero, List.setIfInBounds_toArray, List.set_cons_succ, List.set_cons_zero])
            refine wpAnyH_ready (rs := [10]) (by kernel_rfl) (by simp) ?_
            refine AllReadyH.cons rfl (fun K hK => ?_) AllReadyH.nil
            go_simp
            go_at_call 32
            refine (REG.out _).mono ?_
            rintro e w6 ⟨rfl, bb⟩
            have S6 := Lib.hid (S5.out.go bb)
            (first | done | go_wp2_with fail)
            refine hK.out _ _ (KW.out _ _ (Wr.of_below bb (Nat.le_refl _)) (by assumption)) (fun hHeld10 => ?_)
            clear hK K bb S5
            generalize hcv : cmpLt y m = cv
            have hcd : decide (cv < 0) = false := by rw [← hcv]; exact HCM.out
            clear hcv
            refine wpAnyH_take (i := 11) (v := ?_) rfl (by kernel_rfl) (by kernel_rfl) (by kernel_rfl) (fun _ _ _ h => h) (Or.inl ⟨by rfl, ?_⟩) (by assumption) ?_
            rotate_left
            · (intro W hSw; (try dsimp only at hSw); go_simp <;> with_reducible rfl)
            (try simp only [Act.put, List.getElem_toArray, List.getElem_cons_succ, List.getElem_cons_zero, List.setIfInBounds_toArray, List.set_cons_succ, List.set_cons_zero])
            refine wpAnyH_take (i := 12) (v := ?_) rfl (by kernel_rfl) (by kernel_rfl) (by kernel_rfl) (fun _ _ _ h => h) (Or.inl ⟨by rfl, ?_⟩) (by assumption) ?_
            rotate_left
            · (intro W hSw; (try dsimp only at hSw); go_simp <;> with_reducible rfl)
            (try simp only [Act.put, List.getElem_toArray, List.getElem_cons_succ, List.getElem_cons_zero, List.setIfInBounds_toArray, List.set_cons_succ, List.set_cons_zero])
            refine wpAnyH_done (by kernel_rfl) ?_ _
            clear CE INIT KW
            go_wp2_with fail
            have hy := cells3_at T kk hk2
            have y0 := cellN_at S6.out.ownT hy.1
            have y1 := cellN_at S6.out.ownT hy.2.1
            have y2 := cellN_at S6.out.ownT hy.2.2
            rw [HYE.out] at y0 y1 y2
            clear hy
            obtain ⟨p0, p1, p2, pf⟩ := (S6.out.bk 1 rfl).c3
            have hlp := (S6.out.bk 1 rfl).lt
            have hlg := (S6.out.ownT.lt g rfl).2
            by_cases he : y = m
            · have PN := Lib.hid (PIN.out he)
              rw [he] at y0 y1 y2
              clear he
              obtain ⟨m0, m1, m2⟩ := m
              have S7 := Lib.hid S6.out.drew1
              have CE := Lib.hid (fun (W : World) (h : Wr [] w6.drew W) => show Hid (Wr [] w6.drew W) ∧ W.cell? ⟨g, kk * 3, none⟩ = some (.int .i64 m0) ∧ W.cell? ⟨g, kk * 3 + 1, none⟩ = some (.int .i64 m1) ∧ W.cell? ⟨g, kk * 3 + 2, none⟩ = some (.int .i64 m2) ∧ W.cell? ⟨gx, 0, none⟩ = some (.int .i64 m0) ∧ W.cell? ⟨gx, 1, none⟩ = some (.int .i64 m1) ∧ W.cell? ⟨gx, 2, none⟩ = some (.int .i64 m2) from ⟨Lib.hid h, (wr_cell h (p := ⟨g, kk * 3, none⟩) hlg (by simp)).trans (by exact by simpa using y0), (wr_cell h (p := ⟨g, kk * 3 + 1, none⟩) hlg (by simp)).trans (by exact by simpa using y1), (wr_cell h (p := ⟨g, kk * 3 + 2, none⟩) hlg (by simp)).trans (by exact by simpa using y2), (wr_cell h (p := ⟨gx, 0, none⟩) hlp (by simp)).trans (by exact by simpa using p0), (wr_cell h (p := ⟨gx, 1, none⟩) hlp (by simp)).trans (by exact by simpa using p1), (wr_cell h (p := ⟨gx, 2, none⟩) hlp (by simp)).trans (by exact by simpa using p2)⟩)
              have INIT := Lib.hid (CE.out _ (Wr.refl _ _))
              have KW := Lib.hid (fun (W2 W : World) (hb : Wr [] W W2) (h : Hid (Wr [] w6.drew W) ∧ W.cell? ⟨g, kk * 3, none⟩ = some (.int .i64 m0) ∧ W.cell? ⟨g, kk * 3 + 1, none⟩ = some (.int .i64 m1) ∧ W.cell? ⟨g, kk * 3 + 2, none⟩ = some (.int .i64 m2) ∧ W.cell? ⟨gx, 0, none⟩ = some (.int .i64 m0) ∧ W.cell? ⟨gx, 1, none⟩ = some (.int .i64 m1) ∧ W.cell? ⟨gx, 2, none⟩ = some (.int .i64 m2)) => CE.out W2 (h.1.out.trans hb))
              clear y0 y1 y2 p0 p1 p2 pf hlp hlg S6
              refine wp_region_held_drew (S := fun W => Hid (Wr [] w6.drew W) ∧ W.cell? ⟨g, kk * 3, none⟩ = some (.int .i64 m0) ∧ W.cell? ⟨g, kk * 3 + 1, none⟩ = some (.int .i64 m1) ∧ W.cell? ⟨g, kk * 3 + 2, none⟩ = some (.int .i64 m2) ∧ W.cell? ⟨gx, 0, none⟩ = some (.int .i64 m0) ∧ W.cell? ⟨gx, 1, none⟩ = some (.int .i64 m1) ∧ W.cell? ⟨gx, 2, none⟩ = some (.int .i64 m2)) (by kernel_rfl) INIT.out (fun hHeld => ?_)
              refine wpAnyH_take (i := 0) (v := ?_) rfl (by kernel_rfl) (by kernel_rfl) (by kernel_rfl) (fun _ _ _ h => h) (Or.inl ⟨by rfl, ?_⟩) (by assumption) ?_
              rotate_left
              · (intro W hSw; (try dsimp only at hSw); go_simp <;> with_reducible rfl)
              (try simp only [Act.put, List.getElem_toArray, List.getElem_cons_zero, List.setIfInBounds_toArray, List.set_cons_succ, List.set_cons_zero])
              refine wpAnyH_take (i := 1) (v := ?_) rfl (by kernel_rfl) (by kernel_rfl) (by kernel_rfl) (fun _ _ _ h => h) (Or.inl ⟨by rfl, ?_⟩) (by assumption) ?_
              rotate_left
              · (intro W hSw; (try dsimp only at hSw); go_simp <;> with_reducible rfl)
              (try simp only [Act.put, List.getElem_toArray, List.getElem_cons_succ, List.getElem_cons_zero, List.setIfInBounds_toArray, List.set_cons_succ, List.set_cons_zero])
              refine wpAnyH_take (i := 2) (v := ?_) rfl (by kernel_rfl) (by kernel_rfl) (by kernel_rfl) (fun _ _ _ h => h) (Or.inl ⟨by rfl, ?_⟩) (by assumption) ?_
              rotate_left
              · (intro W hSw; (try dsimp only at hSw); go_simp <;> with_reducible rfl)
              (try simp only [Act.put, List.getElem_toArray, List.getElem_cons_succ, List.getElem_cons_zero, List.setIfInBounds_toArray, List.set_cons_succ, List.set_cons_zero])
              refine wpAnyH_take (i := 3) (v := ?_) rfl (by kernel_rfl) (by kernel_rfl) (by kernel_rfl) (fun _ _ _ h => h) (Or.inl ⟨by rfl, ?_⟩) (by assumption) ?_
              rotate_left
              · (intro W hSw; (try dsimp only at hSw); go_simp <;> with_reducible rfl)
              (try simp only [Act.put, List.getElem_toArray, List.getElem_cons_succ, List.getElem_cons_zero, List.setIfInBounds_toArray, List.set_cons_succ, List.set_cons_zero])
              refine wpAnyH_take (i := 4) (v := ?_) rfl (by kernel_rfl) (by kernel_rfl) (by kernel_rfl) (fun _ _ _ h => h) (Or.inl ⟨by rfl, ?_⟩) (by assumption) ?_
              rotate_left
              · (intro W hSw; (try dsimp only at hSw); go_simp <;> with_reducible rfl)
              (try simp only [Act.put, List.getElem_toArray, List.getElem_cons_succ, List.getElem_cons_zero, List.setIfInBounds_toArray, List.set_cons_succ, List.set_cons_zero])
              refine wpAnyH_take (i := 5) (v := ?_) rfl (by kernel_rfl) (by kernel_rfl) (by kernel_rfl) (fun _ _ _ h => h) (Or.inl ⟨by rfl, ?_⟩) (by assumption) ?_
              rotate_left
              · (intro W hSw; (try dsimp only at hSw); go_simp <;> with_reducible rfl)
              (try simp only [Act.put, List.getElem_toArray, List.getElem_cons_succ, List.getElem_cons_zero, List.setIfInBounds_toArray, List.set_cons_succ, List.set_cons_zero])
              refine wpAnyH_take (i := 6) (v := ?_) rfl (by kernel_rfl) (by kernel_rfl) (by kernel_rfl) (fun _ _ _ h => h) (Or.inl ⟨by rfl, ?_⟩) (by assumption) ?_
              rotate_left
              · (intro W hSw; (try dsimp only at hSw); go_simp <;> with_reducible rfl)
              (try simp only [Act.put, List.getElem_toArray, List.getElem_cons_succ, List.getElem_cons_zero, List.setIfInBounds_toArray, List.set_cons_succ, List.set_cons_zero])
              refine wpAnyH_take (i := 7) (v := ?_) rfl (by kernel_rfl) (by kernel_rfl) (by kernel_rfl) (fun _ _ _ h => h) (Or.inl ⟨by rfl, ?_⟩) (by assumption) ?_
              rotate_left
              · (intro W hSw; (try dsimp only at hSw); go_simp <;> with_reducible rfl)
              (try simp only [Act.put, List.getElem_toArray, List.getElem_cons_succ, List.getElem_cons_zero, List.setIfInBounds_toArray, List.set_cons_succ, List.set_cons_zero])
              refine wpAnyH_take (i := 8) (v := ?_) rfl (by kernel_rfl) (by kernel_rfl) (by kernel_rfl) (fun _ _ _ h => h) (Or.inl ⟨by rfl, ?_⟩) (by assumption) ?_
              rotate_left
              · (intro W hSw; (try dsimp only at hSw); go_simp <;> with_reducible rfl)
              (try simp only [Act.put, List.getElem_toArray, List.getElem_cons_succ, List.getElem_cons_zero, List.setIfInBounds_toArray, List.set_cons_succ, List.set_cons_zero])
              refine wpAnyH_take (i := 9) (v := ?_) rfl (by kernel_rfl) (by kernel_rfl) (by kernel_rfl) (fun _ _ _ h => h) (Or.inl ⟨by rfl, ?_⟩) (by assumption) ?_
              rotate_left
              · (intro W hSw; (try dsimp only at hSw); go_simp <;> with_reducible rfl)
              (try simp only [Act.put, List.getElem_toArray, List.getElem_cons_succ, List.getElem_cons_zero, List.setIfInBounds_toArray, List.set_cons_succ, List.set_cons_zero])
              refine wpAnyH_take (i := 10) (v := ?_) rfl (by kernel_rfl) (by kernel_rfl) (by kernel_rfl) (fun _ _ _ h => h) (Or.inl ⟨by rfl, ?_⟩) (by assumption) ?_
              rotate_left
              · (intro W hSw; (try dsimp only at hSw); go_simp <;> with_reducible rfl)
              (try simp only [Act.put, List.getElem_toArray, List.getElem_cons_succ, List.getElem_cons_zero, List.setIfInBounds_toArray, List.set_cons_succ, List.set_cons_zero])
              refine wpAnyH_take (i := 11) (v := ?_) rfl (by kernel_rfl) (by kernel_rfl) (by kernel_rfl) (fun _ _ _ h => h) (Or.inl ⟨by rfl, ?_⟩) (by assumption) ?_
              rotate_left
              · (intro W hSw; (try dsimp only at hSw); go_simp <;> with_reducible rfl)
              (try simp only [Act.put, List.getElem_toArray, List.getElem_cons_succ, List.getElem_cons_zero, List.setIfInBounds_toArray, List.set_cons_succ, List.set_cons_zero])
              refine wpAnyH_done (by kernel_rfl) ?_ _
              clear CE INIT KW
              have S8 := Lib.hid (S7.out.drop 1)
              go_wp2
              go_roundw
              case rel =>
                refine ⟨k + 1, F0, g, cu, by omega, by go_num, ?_, ?_, ?_⟩
                · rw [NX.out, PN.out]
                · rw [NX.out, PN.out]; exact hcu
                · rw [NX.out, PN.out]; exact S8.out
              case measure => simp [intOf]; omega
            · have PN := Lib.hid (PNEW.out HY.out he)
              clear HY PNEW PIN STEP CN HCM REG HALL HYE
              obtain ⟨y3, y4, y5⟩ := y
              obtain ⟨m0, m1, m2⟩ := m
              rcases lt_ne he with h0 | ⟨rfl, h0⟩ | ⟨rfl, rfl, h0⟩
              · have h1 : (y3 == m0) = false := by simpa using h0
                clear he h0
                have S7 := Lib.hid S6.out.drew1
                have CE := Lib.hid (fun (W : World) (h : Wr [] w6.drew W) => show Hid (Wr [] w6.drew W) ∧ W.cell? ⟨g, kk * 3, none⟩ = some (.int .i64 y3) ∧ W.cell? ⟨g, kk * 3 + 1, none⟩ = some (.int .i64 y4) ∧ W.cell? ⟨g, kk * 3 + 2, none⟩ = some (.int .i64 y5) ∧ W.cell? ⟨gx, 0, none⟩ = some (.int .i64 m0) ∧ W.cell? ⟨gx, 1, none⟩ = some (.int .i64 m1) ∧ W.cell? ⟨gx, 2, none⟩ = some (.int .i64 m2) from ⟨Lib.hid h, (wr_cell h (p := ⟨g, kk * 3, none⟩) hlg (by simp)).trans (by exact by simpa using y0), (wr_cell h (p := ⟨g, kk * 3 + 1, none⟩) hlg (by simp)).trans (by exact by simpa using y1), (wr_cell h (p := ⟨g, kk * 3 + 2, none⟩) hlg (by simp)).trans (by exact by simpa using y2), (wr_cell h (p := ⟨gx, 0, none⟩) hlp (by simp)).trans (by exact by simpa using p0), (wr_cell h (p := ⟨gx, 1, none⟩) hlp (by simp)).trans (by exact by simpa using p1), (wr_cell h (p := ⟨gx, 2, none⟩) hlp (by simp)).trans (by exact by simpa using p2)⟩)
                have INIT := Lib.hid (CE.out _ (Wr.refl _ _))
                have KW := Lib.hid (fun (W2 W : World) (hb : Wr [] W W2) (h : Hid (Wr [] w6.drew W) ∧ W.cell? ⟨g, kk * 3, none⟩ = some (.int .i64 y3) ∧ W.cell? ⟨g, kk * 3 + 1, none⟩ = some (.int .i64 y4) ∧ W.cell? ⟨g, kk * 3 + 2, none⟩ = some (.int .i64 y5) ∧ W.cell? ⟨gx, 0, none⟩ = some (.int .i64 m0) ∧ W.cell? ⟨gx, 1, none⟩ = some (.int .i64 m1) ∧ W.cell? ⟨gx, 2, none⟩ = some (.int .i64 m2)) => CE.out W2 (h.1.out.trans hb))
                clear y0 y1 y2 p0 p1 p2 pf hlp hlg S6
                refine wp_region_held_drew (S := fun W => Hid (Wr [] w6.drew W) ∧ W.cell? ⟨g, kk * 3, none⟩ = some (.int .i64 y3) ∧ W.cell? ⟨g, kk * 3 + 1, none⟩ = some (.int .i64 y4) ∧ W.cell? ⟨g, kk * 3 + 2, none⟩ = some (.int .i64 y5) ∧ W.cell? ⟨gx, 0, none⟩ = some (.int .i64 m0) ∧ W.cell? ⟨gx, 1, none⟩ = some (.int .i64 m1) ∧ W.cell? ⟨gx, 2, none⟩ = some (.int .i64 m2)) (by kernel_rfl) INIT.out (fun hHeld => ?_)
                refine wpAnyH_take (i := 0) (v := ?_) rfl (by kernel_rfl) (by kernel_rfl) (by kernel_rfl) (fun _ _ _ h => h) (Or.inl ⟨by rfl, ?_⟩) (by assumption) ?_
                rotate_left
                · (intro W hSw; (try dsimp only at hSw); go_simp <;> with_reducible rfl)
                (try simp only [Act.put, List.getElem_toArray, List.getElem_cons_zero, List.setIfInBounds_toArray, List.set_cons_succ, List.set_cons_zero])
                refine wpAnyH_take (i := 1) (v := ?_) rfl (by kernel_rfl) (by kernel_rfl) (by kernel_rfl) (fun _ _ _ h => h) (Or.inl ⟨by rfl, ?_⟩) (by assumption) ?_
                rotate_left
                · (intro W hSw; (try dsimp only at hSw); go_simp <;> with_reducible rfl)
                (try simp only [Act.put, List.getElem_toArray, List.getElem_cons_succ, List.getElem_cons_zero, List.setIfInBounds_toArray, List.set_cons_succ, List.set_cons_zero])
                refine wpAnyH_take (i := 2) (v := ?_) rfl (by kernel_rfl) (by kernel_rfl) (by kernel_rfl) (fun _ _ _ h => h) (Or.inl ⟨by rfl, ?_⟩) (by assumption) ?_
                rotate_left
                · (intro W hSw; (try dsimp only at hSw); go_simp <;> with_reducible rfl)
                (try simp only [Act.put, List.getElem_toArray, List.getElem_cons_succ, List.getElem_cons_zero, List.setIfInBounds_toArray, List.set_cons_succ, List.set_cons_zero])
                refine wpAnyH_take (i := 3) (v := ?_) rfl (by kernel_rfl) (by kernel_rfl) (by kernel_rfl) (fun _ _ _ h => h) (Or.inl ⟨by rfl, ?_⟩) (by assumption) ?_
                rotate_left
                · (intro W hSw; (try dsimp only at hSw); go_simp <;> with_reducible rfl)
                (try simp only [Act.put, List.getElem_toArray, List.getElem_cons_succ, List.getElem_cons_zero, List.setIfInBounds_toArray, List.set_cons_succ, List.set_cons_zero])
                refine wpAnyH_take (i := 4) (v := ?_) rfl (by kernel_rfl) (by kernel_rfl) (by kernel_rfl) (fun _ _ _ h => h) (Or.inl ⟨by rfl, ?_⟩) (by assumption) ?_
                rotate_left
                · (intro W hSw; (try dsimp only at hSw); go_simp <;> with_reducible rfl)
                (try simp only [Act.put, List.getElem_toArray, List.getElem_cons_succ, List.getElem_cons_zero, List.setIfInBounds_toArray, List.set_cons_succ, List.set_cons_zero])
                refine wpAnyH_take (i := 5) (v := ?_) rfl (by kernel_rfl) (by kernel_rfl) (by kernel_rfl) (fun _ _ _ h => h) (Or.inl ⟨by rfl, ?_⟩) (by assumption) ?_
                rotate_left
                · (intro W hSw; (try dsimp only at hSw); go_simp <;> with_reducible rfl)
                (try simp only [Act.put, List.getElem_toArray, List.getElem_cons_succ, List.getElem_cons_zero, List.setIfInBounds_toArray, List.set_cons_succ, List.set_cons_zero])
                refine wpAnyH_take (i := 6) (v := ?_) rfl (by kernel_rfl) (by kernel_rfl) (by kernel_rfl) (fun _ _ _ h => h) (Or.inl ⟨by rfl, ?_⟩) (by assumption) ?_
                rotate_left
                · (intro W hSw; (try dsimp only at hSw); go_simp <;> with_reducible rfl)
                (try simp only [Act.put, List.getElem_toArray, List.getElem_cons_succ, List.getElem_cons_zero, List.setIfInBounds_toArray, List.set_cons_succ, List.set_cons_zero])
                refine wpAnyH_take (i := 7) (v := ?_) rfl (by kernel_rfl) (by kernel_rfl) (by kernel_rfl) (fun _ _ _ h => h) (Or.inl ⟨by rfl, ?_⟩) (by assumption) ?_
                rotate_left
                · (intro W hSw; (try dsimp only at hSw); go_simp <;> with_reducible rfl)
                (try simp only [Act.put, List.getElem_toArray, List.getElem_cons_succ, List.getElem_cons_zero, List.setIfInBounds_toArray, List.set_cons_succ, List.set_cons_zero])
                refine wpAnyH_take (i := 8) (v := ?_) rfl (by kernel_rfl) (by kernel_rfl) (by kernel_rfl) (fun _ _ _ h => h) (Or.inl ⟨by rfl, ?_⟩) (by assumption) ?_
                rotate_left
                · (intro W hSw; (try dsimp only at hSw); go_simp <;> with_reducible rfl)
                (try simp only [Act.put, List.getElem_toArray, List.getElem_cons_succ, List.getElem_cons_zero, List.setIfInBounds_toArray, List.set_cons_succ, List.set_cons_zero])
                refine wpAnyH_take (i := 9) (v := ?_) rfl (by kernel_rfl) (by kernel_rfl) (by kernel_rfl) (fun _ _ _ h => h) (Or.inl ⟨by rfl, ?_⟩) (by assumption) ?_
                rotate_left
                · (intro W hSw; (try dsimp only at hSw); go_simp <;> with_reducible rfl)
                (try simp only [Act.put, List.getElem_toArray, List.getElem_cons_succ, List.getElem_cons_zero, List.setIfInBounds_toArray, List.set_cons_succ, List.set_cons_zero])
                refine wpAnyH_take (i := 10) (v := ?_) rfl (by kernel_rfl) (by kernel_rfl) (by kernel_rfl) (fun _ _ _ h => h) (Or.inl ⟨by rfl, ?_⟩) (by assumption) ?_
                rotate_left
                · (intro W hSw; (try dsimp only at hSw); go_simp <;> with_reducible rfl)
                (try simp only [Act.put, List.getElem_toArray, List.getElem_cons_succ, List.getElem_cons_zero, List.setIfInBounds_toArray, List.set_cons_succ, List.set_cons_zero])
                refine wpAnyH_take (i := 11) (v := ?_) rfl (by kernel_rfl) (by kernel_rfl) (by kernel_rfl) (fun _ _ _ h => h) (Or.inl ⟨by rfl, ?_⟩) (by assumption) ?_
                rotate_left
                · (intro W hSw; (try dsimp only at hSw); go_simp <;> with_reducible rfl)
                (try simp only [Act.put, List.getElem_toArray, List.getElem_cons_succ, List.getElem_cons_zero, List.setIfInBounds_toArray, List.set_cons_succ, List.set_cons_zero])
                refine wpAnyH_done (by kernel_rfl) ?_ _
                clear CE INIT KW
                have htk : (T.take kk).length ≤ T.length := by rw [List.length_take]; omega
                have e1 : (kk : Int) ≤ (T.length : Int) := by omega
                have e2 : (T.length : Int) ≤ (cu : Int) := by omega
                have e3 : (kk : Int) ≤ (cu : Int) := by omega
                have e4 : (0 : Int) ≤ (kk : Int) := by omega
                have S8 := Lib.hid S7.out.emptyT
                have hz8 := S8.out.1.size
                clear S7
                go_wp2_with (first | (at_builtin; refine app_rdT rfl (.tmp 42) (.tmp 45) 25 rfl rfl w.heap.size _ _ [] (T.take kk) rfl rfl (by exact S8.out.ownT) (by exact rdT_take (c := cu) (by have h9 := S8.out.rd 1 rfl; rw [rowT_tr] at h9; exact h9) hkk) (nilOk_at _ _ _) (by simp only [List.length_nil]; omega) (by exact hz8) ?_) | fail)
                intro v8 w8 hown8 hg8 hat8
                obtain ⟨F8, h8⟩ := S8.out.appTs (Below.refl _ _) hown8 hg8 (by simpa using hat8)
                rw [List.nil_append] at h8
                have S9 := Lib.hid h8
                clear hown8 hg8 hat8 h8 S8 hz8
                obtain ⟨p0, p1, p2, pf⟩ := (S9.out.bk 2 rfl).c3
                have OW := Lib.hid (S9.out.ownT)
                have hzs := S9.out.1.size
                go_wp2_with (first | (at_builtin; refine wpList_append_own_at _ rfl (.tmp 47) (.tmp 49) 25 rfl w.heap.size 45 i0 (.agg #[.int .i64 0, .int .i64 0, .int .i64 0]) 3 24 Try.underlying25 hi0 hz0 hz1 hz2 rfl (by decide) _ ((T.take kk).length) (cells3 (T.take kk)) rfl (by exact OW.out.alloc _) ⟨_, 0, none⟩ 1 1 [.int .i64 m0, .int .i64 m1, .int .i64 m2] rfl rfl ?cq1 ?cq2 ?cq3 ?cq4 ?cq5 ?_) | fail)
                try case cq1 => (intro j u hj; first | exact three_cells _ _ _ _ _ j u hj | (have h9 := three_cells (World.alloc wr (.cells #[.int .i64 m0, .int .i64 m1, .int .i64 m2] 45)) (.int .i64 m0) (.int .i64 m1) (.int .i64 m2) 45 j u hj; first | exact h9 | simpa only [World.size_alloc] using h9))
                try case cq2 => simp [Value.oneCell']
                try case cq3 => unfold maxLen; omega
                try case cq4 => omega
                try case cq5 => first | omega | (simp at hzs ⊢; omega)
                intro v8 w10 hown8 hg8 _ hat8
                obtain ⟨F10, h9⟩ := S9.out.appT (⟨m0, m1, m2⟩ : Lt) ((Below.refl _ _).alloc (Nat.le_refl _) _) hown8 (by first | rfl | (simp only [List.length_take]; omega) | (simp; omega)) hg8 (by simpa using hat8)
                have S10 := Lib.hid h9
                clear hown8 hg8 hat8 h9 OW hzs S9 p0 p1 p2 pf
                have hz10 := S10.out.1.size
                have htm : (T.take kk ++ [(⟨m0, m1, m2⟩ : Lt)]).length ≤ T.length + 1 := by rw [List.length_append, List.length_singleton]; omega
                have htd : (T.drop kk).length ≤ T.length := by rw [List.length_drop]; omega
                have hcc : ¬ cu = kk := by omega
                have RD := Lib.hid (rdT_drop0 (n := T.length) (c := cu) (c' := cu - kk) (m := T.length - kk) (by have h9 := S10.out.rd 1 rfl; rw [rowT_tr] at h9; exact h9) hkk rfl)
                go_wp2_with (first | (at_builtin; refine app_rdT rfl (.tmp 51) (.tmp 54) 25 rfl rfl w.heap.size _ _ (T.take kk ++ [(⟨m0, m1, m2⟩ : Lt)]) (T.drop kk) rfl rfl (by exact S10.out.ownT) (by exact RD.out) (nilOk_at _ _ _) (by omega) (by exact hz10) ?_) | fail)
                intro v8 w12 hown8 hg8 hat8
                obtain ⟨n8, hown9⟩ : ∃ n, w12.ownsRow w.heap.size 45 3 v8 n (cells3 (T.take kk ++ [(⟨m0, m1, m2⟩ : Lt)] ++ T.drop kk)) := ⟨_, by first | exact hown8 | (rw [List.append_assoc]; exact hown8)⟩
                obtain ⟨F12, h8⟩ := S10.out.appTs (Below.refl _ _) hown9 hg8 (by simpa using hat8)
                rw [← PN.out, ← NX.out] at h8
                have S12 := Lib.hid ((h8.drop 1).drop 1)
                simp only [List.eraseIdx_cons_succ, List.eraseIdx_cons_zero] at S12
                clear hown8 hown9 hg8 hat8 h8 S10 RD
                obtain ⟨g2, c2, rfl, _, hc2⟩ := S12.out.formT (by rw [NX.out]; exact put_len)
                have HC2 := Lib.hid hc2
                clear hc2
                go_wp2
                go_roundw
                case rel => exact ⟨k + 1, F12, g2, c2, by omega, by go_num, rfl, HC2.out, S12.out⟩
                case measure => simp [intOf]; omega
              · have h1 : (y4 == m1) = false := by simpa using h0
                clear he h0
                have S7 := Lib.hid S6.out.drew1
                have CE := Lib.hid (fun (W : World) (h : Wr [] w6.drew W) => show Hid (Wr [] w6.drew W) ∧ W.cell? ⟨g, kk * 3, none⟩ = some (.int .i64 y3) ∧ W.cell? ⟨g, kk * 3 + 1, none⟩ = some (.int .i64 y4) ∧ W.cell? ⟨g, kk * 3 + 2, none⟩ = some (.int .i64 y5) ∧ W.cell? ⟨gx, 0, none⟩ = some (.int .i64 y3) ∧ W.cell? ⟨gx, 1, none⟩ = some (.int .i64 m1) ∧ W.cell? ⟨gx, 2, none⟩ = some (.int .i64 m2) from ⟨Lib.hid h, (wr_cell h (p := ⟨g, kk * 3, none⟩) hlg (by simp)).trans (by exact by simpa using y0), (wr_cell h (p := ⟨g, kk * 3 + 1, none⟩) hlg (by simp)).trans (by exact by simpa using y1), (wr_cell h (p := ⟨g, kk * 3 + 2, none⟩) hlg (by simp)).trans (by exact by simpa using y2), (wr_cell h (p := ⟨gx, 0, none⟩) hlp (by simp)).trans (by exact by simpa using p0), (wr_cell h (p := ⟨gx, 1, none⟩) hlp (by simp)).trans (by exact by simpa using p1), (wr_cell h (p := ⟨gx, 2, none⟩) hlp (by simp)).trans (by exact by simpa using p2)⟩)
                have INIT := Lib.hid (CE.out _ (Wr.refl _ _))
                have KW := Lib.hid (fun (W2 W : World) (hb : Wr [] W W2) (h : Hid (Wr [] w6.drew W) ∧ W.cell? ⟨g, kk * 3, none⟩ = some (.int .i64 y3) ∧ W.cell? ⟨g, kk * 3 + 1, none⟩ = some (.int .i64 y4) ∧ W.cell? ⟨g, kk * 3 + 2, none⟩ = some (.int .i64 y5) ∧ W.cell? ⟨gx, 0, none⟩ = some (.int .i64 y3) ∧ W.cell? ⟨gx, 1, none⟩ = some (.int .i64 m1) ∧ W.cell? ⟨gx, 2, none⟩ = some (.int .i64 m2)) => CE.out W2 (h.1.out.trans hb))
                clear y0 y1 y2 p0 p1 p2 pf hlp hlg S6
                refine wp_region_held_drew (S := fun W => Hid (Wr [] w6.drew W) ∧ W.cell? ⟨g, kk * 3, none⟩ = some (.int .i64 y3) ∧ W.cell? ⟨g, kk * 3 + 1, none⟩ = some (.int .i64 y4) ∧ W.cell? ⟨g, kk * 3 + 2, none⟩ = some (.int .i64 y5) ∧ W.cell? ⟨gx, 0, none⟩ = some (.int .i64 y3) ∧ W.cell? ⟨gx, 1, none⟩ = some (.int .i64 m1) ∧ W.cell? ⟨gx, 2, none⟩ = some (.int .i64 m2)) (by kernel_rfl) INIT.out (fun hHeld => ?_)
                refine wpAnyH_take (i := 0) (v := ?_) rfl (by kernel_rfl) (by kernel_rfl) (by kernel_rfl) (fun _ _ _ h => h) (Or.inl ⟨by rfl, ?_⟩) (by assumption) ?_
                rotate_left
                · (intro W hSw; (try dsimp only at hSw); go_simp <;> with_reducible rfl)
                (try simp only [Act.put, List.getElem_toArray, List.getElem_cons_zero, List.setIfInBounds_toArray, List.set_cons_succ, List.set_cons_zero])
                refine wpAnyH_take (i := 1) (v := ?_) rfl (by kernel_rfl) (by kernel_rfl) (by kernel_rfl) (fun _ _ _ h => h) (Or.inl ⟨by rfl, ?_⟩) (by assumption) ?_
                rotate_left
                · (intro W hSw; (try dsimp only at hSw); go_simp <;> with_reducible rfl)
                (try simp only [Act.put, List.getElem_toArray, List.getElem_cons_succ, List.getElem_cons_zero, List.setIfInBounds_toArray, List.set_cons_succ, List.set_cons_zero])
                refine wpAnyH_take (i := 2) (v := ?_) rfl (by kernel_rfl) (by kernel_rfl) (by kernel_rfl) (fun _ _ _ h => h) (Or.inl ⟨by rfl, ?_⟩) (by assumption) ?_
                rotate_left
                · (intro W hSw; (try dsimp only at hSw); go_simp <;> with_reducible rfl)
                (try simp only [Act.put, List.getElem_toArray, List.getElem_cons_succ, List.getElem_cons_zero, List.setIfInBounds_toArray, List.set_cons_succ, List.set_cons_zero])
                refine wpAnyH_take (i := 3) (v := ?_) rfl (by kernel_rfl) (by kernel_rfl) (by kernel_rfl) (fun _ _ _ h => h) (Or.inl ⟨by rfl, ?_⟩) (by assumption) ?_
                rotate_left
                · (intro W hSw; (try dsimp only at hSw); go_simp <;> with_reducible rfl)
                (try simp only [Act.put, List.getElem_toArray, List.getElem_cons_succ, List.getElem_cons_zero, List.setIfInBounds_toArray, List.set_cons_succ, List.set_cons_zero])
                refine wpAnyH_take (i := 4) (v := ?_) rfl (by kernel_rfl) (by kernel_rfl) (by kernel_rfl) (fun _ _ _ h => h) (Or.inl ⟨by rfl, ?_⟩) (by assumption) ?_
                rotate_left
                · (intro W hSw; (try dsimp only at hSw); go_simp <;> with_reducible rfl)
                (try simp only [Act.put, List.getElem_toArray, List.getElem_cons_succ, List.getElem_cons_zero, List.setIfInBounds_toArray, List.set_cons_succ, List.set_cons_zero])
                refine wpAnyH_take (i := 5) (v := ?_) rfl (by kernel_rfl) (by kernel_rfl) (by kernel_rfl) (fun _ _ _ h => h) (Or.inl ⟨by rfl, ?_⟩) (by assumption) ?_
                rotate_left
                · (intro W hSw; (try dsimp only at hSw); go_simp <;> with_reducible rfl)
                (try simp only [Act.put, List.getElem_toArray, List.getElem_cons_succ, List.getElem_cons_zero, List.setIfInBounds_toArray, List.set_cons_succ, List.set_cons_zero])
                refine wpAnyH_take (i := 6) (v := ?_) rfl (by kernel_rfl) (by kernel_rfl) (by kernel_rfl) (fun _ _ _ h => h) (Or.inl ⟨by rfl, ?_⟩) (by assumption) ?_
                rotate_left
                · (intro W hSw; (try dsimp only at hSw); go_simp <;> with_reducible rfl)
                (try simp only [Act.put, List.getElem_toArray, List.getElem_cons_succ, List.getElem_cons_zero, List.setIfInBounds_toArray, List.set_cons_succ, List.set_cons_zero])
                refine wpAnyH_take (i := 7) (v := ?_) rfl (by kernel_rfl) (by kernel_rfl) (by kernel_rfl) (fun _ _ _ h => h) (Or.inl ⟨by rfl, ?_⟩) (by assumption) ?_
                rotate_left
                · (intro W hSw; (try dsimp only at hSw); go_simp <;> with_reducible rfl)
                (try simp only [Act.put, List.getElem_toArray, List.getElem_cons_succ, List.getElem_cons_zero, List.setIfInBounds_toArray, List.set_cons_succ, List.set_cons_zero])
                refine wpAnyH_take (i := 8) (v := ?_) rfl (by kernel_rfl) (by kernel_rfl) (by kernel_rfl) (fun _ _ _ h => h) (Or.inl ⟨by rfl, ?_⟩) (by assumption) ?_
                rotate_left
                · (intro W hSw; (try dsimp only at hSw); go_simp <;> with_reducible rfl)
                (try simp only [Act.put, List.getElem_toArray, List.getElem_cons_succ, List.getElem_cons_zero, List.setIfInBounds_toArray, List.set_cons_succ, List.set_cons_zero])
                refine wpAnyH_take (i := 9) (v := ?_) rfl (by kernel_rfl) (by kernel_rfl) (by kernel_rfl) (fun _ _ _ h => h) (Or.inl ⟨by rfl, ?_⟩) (by assumption) ?_
                rotate_left
                · (intro W hSw; (try dsimp only at hSw); go_simp <;> with_reducible rfl)
                (try simp only [Act.put, List.getElem_toArray, List.getElem_cons_succ, List.getElem_cons_zero, List.setIfInBounds_toArray, List.set_cons_succ, List.set_cons_zero])
                refine wpAnyH_take (i := 10) (v := ?_) rfl (by kernel_rfl) (by kernel_rfl) (by kernel_rfl) (fun _ _ _ h => h) (Or.inl ⟨by rfl, ?_⟩) (by assumption) ?_
                rotate_left
                · (intro W hSw; (try dsimp only at hSw); go_simp <;> with_reducible rfl)
                (try simp only [Act.put, List.getElem_toArray, List.getElem_cons_succ, List.getElem_cons_zero, List.setIfInBounds_toArray, List.set_cons_succ, List.set_cons_zero])
                refine wpAnyH_take (i := 11) (v := ?_) rfl (by kernel_rfl) (by kernel_rfl) (by kernel_rfl) (fun _ _ _ h => h) (Or.inl ⟨by rfl, ?_⟩) (by assumption) ?_
                rotate_left
                · (intro W hSw; (try dsimp only at hSw); go_simp <;> with_reducible rfl)
                (try simp only [Act.put, List.getElem_toArray, List.getElem_cons_succ, List.getElem_cons_zero, List.setIfInBounds_toArray, List.set_cons_succ, List.set_cons_zero])
                refine wpAnyH_done (by kernel_rfl) ?_ _
                clear CE INIT KW
                have htk : (T.take kk).length ≤ T.length := by rw [List.length_take]; omega
                have e1 : (kk : Int) ≤ (T.length : Int) := by omega
                have e2 : (T.length : Int) ≤ (cu : Int) := by omega
                have e3 : (kk : Int) ≤ (cu : Int) := by omega
                have e4 : (0 : Int) ≤ (kk : Int) := by omega
                have S8 := Lib.hid S7.out.emptyT
                have hz8 := S8.out.1.size
                clear S7
                go_wp2_with (first | (at_builtin; refine app_rdT rfl (.tmp 42) (.tmp 45) 25 rfl rfl w.heap.size _ _ [] (T.take kk) rfl rfl (by exact S8.out.ownT) (by exact rdT_take (c := cu) (by have h9 := S8.out.rd 1 rfl; rw [rowT_tr] at h9; exact h9) hkk) (nilOk_at _ _ _) (by simp only [List.length_nil]; omega) (by exact hz8) ?_) | fail)
                intro v8 w8 hown8 hg8 hat8
                obtain ⟨F8, h8⟩ := S8.out.appTs (Below.refl _ _) hown8 hg8 (by simpa using hat8)
                rw [List.nil_append] at h8
                have S9 := Lib.hid h8
                clear hown8 hg8 hat8 h8 S8 hz8
                obtain ⟨p0, p1, p2, pf⟩ := (S9.out.bk 2 rfl).c3
                have OW := Lib.hid (S9.out.ownT)
                have hzs := S9.out.1.size
                go_wp2_with (first | (at_builtin; refine wpList_append_own_at _ rfl (.tmp 47) (.tmp 49) 25 rfl w.heap.size 45 i0 (.agg #[.int .i64 0, .int .i64 0, .int .i64 0]) 3 24 Try.underlying25 hi0 hz0 hz1 hz2 rfl (by decide) _ ((T.take kk).length) (cells3 (T.take kk)) rfl (by exact OW.out.alloc _) ⟨_, 0, none⟩ 1 1 [.int .i64 y3, .int .i64 m1, .int .i64 m2] rfl rfl ?cq1 ?cq2 ?cq3 ?cq4 ?cq5 ?_) | fail)
                try case cq1 => (intro j u hj; first | exact three_cells _ _ _ _ _ j u hj | (have h9 := three_cells (World.alloc wr (.cells #[.int .i64 y3, .int .i64 m1, .int .i64 m2] 45)) (.int .i64 y3) (.int .i64 m1) (.int .i64 m2) 45 j u hj; first | exact h9 | simpa only [World.size_alloc] using h9))
                try case cq2 => simp [Value.oneCell']
                try case cq3 => unfold maxLen; omega
                try case cq4 => omega
                try case cq5 => first | omega | (simp at hzs ⊢; omega)
                intro v8 w10 hown8 hg8 _ hat8
                obtain ⟨F10, h9⟩ := S9.out.appT (⟨y3, m1, m2⟩ : Lt) ((Below.refl _ _).alloc (Nat.le_refl _) _) hown8 (by first | rfl | (simp only [List.length_take]; omega) | (simp; omega)) hg8 (by simpa using hat8)
                have S10 := Lib.hid h9
                clear hown8 hg8 hat8 h9 OW hzs S9 p0 p1 p2 pf
                have hz10 := S10.out.1.size
                have htm : (T.take kk ++ [(⟨y3, m1, m2⟩ : Lt)]).length ≤ T.length + 1 := by rw [List.length_append, List.length_singleton]; omega
                have htd : (T.drop kk).length ≤ T.length := by rw [List.length_drop]; omega
                have hcc : ¬ cu = kk := by omega
                have RD := Lib.hid (rdT_drop0 (n := T.length) (c := cu) (c' := cu - kk) (m := T.length - kk) (by have h9 := S10.out.rd 1 rfl; rw [rowT_tr] at h9; exact h9) hkk rfl)
                go_wp2_with (first | (at_builtin; refine app_rdT rfl (.tmp 51) (.tmp 54) 25 rfl rfl w.heap.size _ _ (T.take kk ++ [(⟨y3, m1, m2⟩ : Lt)]) (T.drop kk) rfl rfl (by exact S10.out.ownT) (by exact RD.out) (nilOk_at _ _ _) (by omega) (by exact hz10) ?_) | fail)
                intro v8 w12 hown8 hg8 hat8
                obtain ⟨n8, hown9⟩ : ∃ n, w12.ownsRow w.heap.size 45 3 v8 n (cells3 (T.take kk ++ [(⟨y3, m1, m2⟩ : Lt)] ++ T.drop kk)) := ⟨_, by first | exact hown8 | (rw [List.append_assoc]; exact hown8)⟩
                obtain ⟨F12, h8⟩ := S10.out.appTs (Below.refl _ _) hown9 hg8 (by simpa using hat8)
                rw [← PN.out, ← NX.out] at h8
                have S12 := Lib.hid ((h8.drop 1).drop 1)
                simp only [List.eraseIdx_cons_succ, List.eraseIdx_cons_zero] at S12
                clear hown8 hown9 hg8 hat8 h8 S10 RD
                obtain ⟨g2, c2, rfl, _, hc2⟩ := S12.out.formT (by rw [NX.out]; exact put_len)
                have HC2 := Lib.hid hc2
                clear hc2
                go_wp2
                go_roundw
                case rel => exact ⟨k + 1, F12, g2, c2, by omega, by go_num, rfl, HC2.out, S12.out⟩
                case measure => simp [intOf]; omega
              · have h1 : (y5 == m2) = false := by simpa using h0
                clear he h0
                have S7 := Lib.hid S6.out.drew1
                have CE := Lib.hid (fun (W : World) (h : Wr [] w6.drew W) => show Hid (Wr [] w6.drew W) ∧ W.cell? ⟨g, kk * 3, none⟩ = some (.int .i64 y3) ∧ W.cell? ⟨g, kk * 3 + 1, none⟩ = some (.int .i64 y4) ∧ W.cell? ⟨g, kk * 3 + 2, none⟩ = some (.int .i64 y5) ∧ W.cell? ⟨gx, 0, none⟩ = some (.int .i64 y3) ∧ W.cell? ⟨gx, 1, none⟩ = some (.int .i64 y4) ∧ W.cell? ⟨gx, 2, none⟩ = some (.int .i64 m2) from ⟨Lib.hid h, (wr_cell h (p := ⟨g, kk * 3, none⟩) hlg (by simp)).trans (by exact by simpa using y0), (wr_cell h (p := ⟨g, kk * 3 + 1, none⟩) hlg (by simp)).trans (by exact by simpa using y1), (wr_cell h (p := ⟨g, kk * 3 + 2, none⟩) hlg (by simp)).trans (by exact by simpa using y2), (wr_cell h (p := ⟨gx, 0, none⟩) hlp (by simp)).trans (by exact by simpa using p0), (wr_cell h (p := ⟨gx, 1, none⟩) hlp (by simp)).trans (by exact by simpa using p1), (wr_cell h (p := ⟨gx, 2, none⟩) hlp (by simp)).trans (by exact by simpa using p2)⟩)
                have INIT := Lib.hid (CE.out _ (Wr.refl _ _))
                have KW := Lib.hid (fun (W2 W : World) (hb : Wr [] W W2) (h : Hid (Wr [] w6.drew W) ∧ W.cell? ⟨g, kk * 3, none⟩ = some (.int .i64 y3) ∧ W.cell? ⟨g, kk * 3 + 1, none⟩ = some (.int .i64 y4) ∧ W.cell? ⟨g, kk * 3 + 2, none⟩ = some (.int .i64 y5) ∧ W.cell? ⟨gx, 0, none⟩ = some (.int .i64 y3) ∧ W.cell? ⟨gx, 1, none⟩ = some (.int .i64 y4) ∧ W.cell? ⟨gx, 2, none⟩ = some (.int .i64 m2)) => CE.out W2 (h.1.out.trans hb))
                clear y0 y1 y2 p0 p1 p2 pf hlp hlg S6
                refine wp_region_held_drew (S := fun W => Hid (Wr [] w6.drew W) ∧ W.cell? ⟨g, kk * 3, none⟩ = some (.int .i64 y3) ∧ W.cell? ⟨g, kk * 3 + 1, none⟩ = some (.int .i64 y4) ∧ W.cell? ⟨g, kk * 3 + 2, none⟩ = some (.int .i64 y5) ∧ W.cell? ⟨gx, 0, none⟩ = some (.int .i64 y3) ∧ W.cell? ⟨gx, 1, none⟩ = some (.int .i64 y4) ∧ W.cell? ⟨gx, 2, none⟩ = some (.int .i64 m2)) (by kernel_rfl) INIT.out (fun hHeld => ?_)
                refine wpAnyH_take (i := 0) (v := ?_) rfl (by kernel_rfl) (by kernel_rfl) (by kernel_rfl) (fun _ _ _ h => h) (Or.inl ⟨by rfl, ?_⟩) (by assumption) ?_
                rotate_left
                · (intro W hSw; (try dsimp only at hSw); go_simp <;> with_reducible rfl)
                (try simp only [Act.put, List.getElem_toArray, List.getElem_cons_zero, List.setIfInBounds_toArray, List.set_cons_succ, List.set_cons_zero])
                refine wpAnyH_take (i := 1) (v := ?_) rfl (by kernel_rfl) (by kernel_rfl) (by kernel_rfl) (fun _ _ _ h => h) (Or.inl ⟨by rfl, ?_⟩) (by assumption) ?_
                rotate_left
                · (intro W hSw; (try dsimp only at hSw); go_simp <;> with_reducible rfl)
                (try simp only [Act.put, List.getElem_toArray, List.getElem_cons_succ, List.getElem_cons_zero, List.setIfInBounds_toArray, List.set_cons_succ, List.set_cons_zero])
                refine wpAnyH_take (i := 2) (v := ?_) rfl (by kernel_rfl) (by kernel_rfl) (by kernel_rfl) (fun _ _ _ h => h) (Or.inl ⟨by rfl, ?_⟩) (by assumption) ?_
                rotate_left
                · (intro W hSw; (try dsimp only at hSw); go_simp <;> with_reducible rfl)
                (try simp only [Act.put, List.getElem_toArray, List.getElem_cons_succ, List.getElem_cons_zero, List.setIfInBounds_toArray, List.set_cons_succ, List.set_cons_zero])
                refine wpAnyH_take (i := 3) (v := ?_) rfl (by kernel_rfl) (by kernel_rfl) (by kernel_rfl) (fun _ _ _ h => h) (Or.inl ⟨by rfl, ?_⟩) (by assumption) ?_
                rotate_left
                · (intro W hSw; (try dsimp only at hSw); go_simp <;> with_reducible rfl)
                (try simp only [Act.put, List.getElem_toArray, List.getElem_cons_succ, List.getElem_cons_zero, List.setIfInBounds_toArray, List.set_cons_succ, List.set_cons_zero])
                refine wpAnyH_take (i := 4) (v := ?_) rfl (by kernel_rfl) (by kernel_rfl) (by kernel_rfl) (fun _ _ _ h => h) (Or.inl ⟨by rfl, ?_⟩) (by assumption) ?_
                rotate_left
                · (intro W hSw; (try dsimp only at hSw); go_simp <;> with_reducible rfl)
                (try simp only [Act.put, List.getElem_toArray, List.getElem_cons_succ, List.getElem_cons_zero, List.setIfInBounds_toArray, List.set_cons_succ, List.set_cons_zero])
                refine wpAnyH_take (i := 5) (v := ?_) rfl (by kernel_rfl) (by kernel_rfl) (by kernel_rfl) (fun _ _ _ h => h) (Or.inl ⟨by rfl, ?_⟩) (by assumption) ?_
                rotate_left
                · (intro W hSw; (try dsimp only at hSw); go_simp <;> with_reducible rfl)
                (try simp only [Act.put, List.getElem_toArray, List.getElem_cons_succ, List.getElem_cons_zero, List.setIfInBounds_toArray, List.set_cons_succ, List.set_cons_zero])
                refine wpAnyH_take (i := 6) (v := ?_) rfl (by kernel_rfl) (by kernel_rfl) (by kernel_rfl) (fun _ _ _ h => h) (Or.inl ⟨by rfl, ?_⟩) (by assumption) ?_
                rotate_left
                · (intro W hSw; (try dsimp only at hSw); go_simp <;> with_reducible rfl)
                (try simp only [Act.put, List.getElem_toArray, List.getElem_cons_succ, List.getElem_cons_zero, List.setIfInBounds_toArray, List.set_cons_succ, List.set_cons_zero])
                refine wpAnyH_take (i := 7) (v := ?_) rfl (by kernel_rfl) (by kernel_rfl) (by kernel_rfl) (fun _ _ _ h => h) (Or.inl ⟨by rfl, ?_⟩) (by assumption) ?_
                rotate_left
                · (intro W hSw; (try dsimp only at hSw); go_simp <;> with_reducible rfl)
                (try simp only [Act.put, List.getElem_toArray, List.getElem_cons_succ, List.getElem_cons_zero, List.setIfInBounds_toArray, List.set_cons_succ, List.set_cons_zero])
                refine wpAnyH_take (i := 8) (v := ?_) rfl (by kernel_rfl) (by kernel_rfl) (by kernel_rfl) (fun _ _ _ h => h) (Or.inl ⟨by rfl, ?_⟩) (by assumption) ?_
                rotate_left
                · (intro W hSw; (try dsimp only at hSw); go_simp <;> with_reducible rfl)
                (try simp only [Act.put, List.getElem_toArray, List.getElem_cons_succ, List.getElem_cons_zero, List.setIfInBounds_toArray, List.set_cons_succ, List.set_cons_zero])
                refine wpAnyH_take (i := 9) (v := ?_) rfl (by kernel_rfl) (by kernel_rfl) (by kernel_rfl) (fun _ _ _ h => h) (Or.inl ⟨by rfl, ?_⟩) (by assumption) ?_
                rotate_left
                · (intro W hSw; (try dsimp only at hSw); go_simp <;> with_reducible rfl)
                (try simp only [Act.put, List.getElem_toArray, List.getElem_cons_succ, List.getElem_cons_zero, List.setIfInBounds_toArray, List.set_cons_succ, List.set_cons_zero])
                refine wpAnyH_take (i := 10) (v := ?_) rfl (by kernel_rfl) (by kernel_rfl) (by kernel_rfl) (fun _ _ _ h => h) (Or.inl ⟨by rfl, ?_⟩) (by assumption) ?_
                rotate_left
                · (intro W hSw; (try dsimp only at hSw); go_simp <;> with_reducible rfl)
                (try simp only [Act.put, List.getElem_toArray, List.getElem_cons_succ, List.getElem_cons_zero, List.setIfInBounds_toArray, List.set_cons_succ, List.set_cons_zero])
                refine wpAnyH_take (i := 11) (v := ?_) rfl (by kernel_rfl) (by kernel_rfl) (by kernel_rfl) (fun _ _ _ h => h) (Or.inl ⟨by rfl, ?_⟩) (by assumption) ?_
                rotate_left
                · (intro W hSw; (try dsimp only at hSw); go_simp <;> with_reducible rfl)
                (try simp only [Act.put, List.getElem_toArray, List.getElem_cons_succ, List.getElem_cons_zero, List.setIfInBounds_toArray, List.set_cons_succ, List.set_cons_zero])
                refine wpAnyH_done (by kernel_rfl) ?_ _
                clear CE INIT KW
                have htk : (T.take kk).length ≤ T.length := by rw [List.length_take]; omega
                have e1 : (kk : Int) ≤ (T.length : Int) := by omega
                have e2 : (T.length : Int) ≤ (cu : Int) := by omega
                have e3 : (kk : Int) ≤ (cu : Int) := by omega
                have e4 : (0 : Int) ≤ (kk : Int) := by omega
                have S8 := Lib.hid S7.out.emptyT
                have hz8 := S8.out.1.size
                clear S7
                go_wp2_with (first | (at_builtin; refine app_rdT rfl (.tmp 42) (.tmp 45) 25 rfl rfl w.heap.size _ _ [] (T.take kk) rfl rfl (by exact S8.out.ownT) (by exact rdT_take (c := cu) (by have h9 := S8.out.rd 1 rfl; rw [rowT_tr] at h9; exact h9) hkk) (nilOk_at _ _ _) (by simp only [List.length_nil]; omega) (by exact hz8) ?_) | fail)
                intro v8 w8 hown8 hg8 hat8
                obtain ⟨F8, h8⟩ := S8.out.appTs (Below.refl _ _) hown8 hg8 (by simpa using hat8)
                rw [List.nil_append] at h8
                have S9 := Lib.hid h8
                clear hown8 hg8 hat8 h8 S8 hz8
                obtain ⟨p0, p1, p2, pf⟩ := (S9.out.bk 2 rfl).c3
                have OW := Lib.hid (S9.out.ownT)
                have hzs := S9.out.1.size
                go_wp2_with (first | (at_builtin; refine wpList_append_own_at _ rfl (.tmp 47) (.tmp 49) 25 rfl w.heap.size 45 i0 (.agg #[.int .i64 0, .int .i64 0, .int .i64 0]) 3 24 Try.underlying25 hi0 hz0 hz1 hz2 rfl (by decide) _ ((T.take kk).length) (cells3 (T.take kk)) rfl (by exact OW.out.alloc _) ⟨_, 0, none⟩ 1 1 [.int .i64 y3, .int .i64 y4, .int .i64 m2] rfl rfl ?cq1 ?cq2 ?cq3 ?cq4 ?cq5 ?_) | fail)
                try case cq1 => (intro j u hj; first | exact three_cells _ _ _ _ _ j u hj | (have h9 := three_cells (World.alloc wr (.cells #[.int .i64 y3, .int .i64 y4, .int .i64 m2] 45)) (.int .i64 y3) (.int .i64 y4) (.int .i64 m2) 45 j u hj; first | exact h9 | simpa only [World.size_alloc] using h9))
                try case cq2 => simp [Value.oneCell']
                try case cq3 => unfold maxLen; omega
                try case cq4 => omega
                try case cq5 => first | omega | (simp at hzs ⊢; omega)
                intro v8 w10 hown8 hg8 _ hat8
                obtain ⟨F10, h9⟩ := S9.out.appT (⟨y3, y4, m2⟩ : Lt) ((Below.refl _ _).alloc (Nat.le_refl _) _) hown8 (by first | rfl | (simp only [List.length_take]; omega) | (simp; omega)) hg8 (by simpa using hat8)
                have S10 := Lib.hid h9
                clear hown8 hg8 hat8 h9 OW hzs S9 p0 p1 p2 pf
                have hz10 := S10.out.1.size
                have htm : (T.take kk ++ [(⟨y3, y4, m2⟩ : Lt)]).length ≤ T.length + 1 := by rw [List.length_append, List.length_singleton]; omega
                have htd : (T.drop kk).length ≤ T.length := by rw [List.length_drop]; omega
                have hcc : ¬ cu = kk := by omega
                have RD := Lib.hid (rdT_drop0 (n := T.length) (c := cu) (c' := cu - kk) (m := T.length - kk) (by have h9 := S10.out.rd 1 rfl; rw [rowT_tr] at h9; exact h9) hkk rfl)
                go_wp2_with (first | (at_builtin; refine app_rdT rfl (.tmp 51) (.tmp 54) 25 rfl rfl w.heap.size _ _ (T.take kk ++ [(⟨y3, y4, m2⟩ : Lt)]) (T.drop kk) rfl rfl (by exact S10.out.ownT) (by exact RD.out) (nilOk_at _ _ _) (by omega) (by exact hz10) ?_) | fail)
                intro v8 w12 hown8 hg8 hat8
                obtain ⟨n8, hown9⟩ : ∃ n, w12.ownsRow w.heap.size 45 3 v8 n (cells3 (T.take kk ++ [(⟨y3, y4, m2⟩ : Lt)] ++ T.drop kk)) := ⟨_, by first | exact hown8 | (rw [List.append_assoc]; exact hown8)⟩
                obtain ⟨F12, h8⟩ := S10.out.appTs (Below.refl _ _) hown9 hg8 (by simpa using hat8)
                rw [← PN.out, ← NX.out] at h8
                have S12 := Lib.hid ((h8.drop 1).drop 1)
                simp only [List.eraseIdx_cons_succ, List.eraseIdx_cons_zero] at S12
                clear hown8 hown9 hg8 hat8 h8 S10 RD
                obtain ⟨g2, c2, rfl, _, hc2⟩ := S12.out.formT (by rw [NX.out]; exact put_len)
                have HC2 := Lib.hid hc2
                clear hc2
                go_wp2
                go_roundw
                case rel => exact ⟨k + 1, F12, g2, c2, by omega, by go_num, rfl, HC2.out, S12.out⟩
                case measure => simp [intOf]; omega
          · have HCM := Lib.hid hcm
            have HY := Lib.hid (show LtL y m from by rw [← CN.out]; simpa using hcm)
            clear hcm
            go_wp2_with fail
            have CE := Lib.hid (fun (W : World) (h : Wr [] wr.drew W) => show Hid (Wr [] wr.drew W) ∧ W.cell? ⟨g, kk * 3, none⟩ = some (.int .i64 y.ki) ∧ W.cell? ⟨g, kk * 3 + 1, none⟩ = some (.int .i64 y.ac) ∧ W.cell? ⟨g, kk * 3 + 2, none⟩ = some (.int .i64 y.va) ∧ W.cell? ⟨gx, 0, none⟩ = some (.int .i64 m.ki) ∧ W.cell? ⟨gx, 1, none⟩ = some (.int .i64 m.ac) ∧ W.cell? ⟨gx, 2, none⟩ = some (.int .i64 m.va) from ⟨Lib.hid h, (wr_cell h (p := ⟨g, kk * 3, none⟩) hlg (by simp)).trans (by exact by simpa using y0), (wr_cell h (p := ⟨g, kk * 3 + 1, none⟩) hlg (by simp)).trans (by exact by simpa using y1), (wr_cell h (p := ⟨g, kk * 3 + 2, none⟩) hlg (by simp)).trans (by exact by simpa using y2), (wr_cell h (p := ⟨gx, 0, none⟩) hlp (by simp)).trans (by exact by simpa using p0), (wr_cell h (p := ⟨gx, 1, none⟩) hlp (by simp)).trans (by exact by simpa using p1), (wr_cell h (p := ⟨gx, 2, none⟩) hlp (by simp)).trans (by exact by simpa using p2)⟩)
            have INIT := Lib.hid (CE.out _ (Wr.refl _ _))
            have KW := Lib.hid (fun (W2 W : World) (hb : Wr [] W W2) (h : Hid (Wr [] wr.drew W) ∧ W.cell? ⟨g, kk * 3, none⟩ = some (.int .i64 y.ki) ∧ W.cell? ⟨g, kk * 3 + 1, none⟩ = some (.int .i64 y.ac) ∧ W.cell? ⟨g, kk * 3 + 2, none⟩ = some (.int .i64 y.va) ∧ W.cell? ⟨gx, 0, none⟩ = some (.int .i64 m.ki) ∧ W.cell? ⟨gx, 1, none⟩ = some (.int .i64 m.ac) ∧ W.cell? ⟨gx, 2, none⟩ = some (.int .i64 m.va)) => CE.out W2 (h.1.out.trans hb))
            clear y0 y1 y2 p0 p1 p2 pf hlp hlg
            refine wp_region_held_drew (S := fun W => Hid (Wr [] wr.drew W) ∧ W.cell? ⟨g, kk * 3, none⟩ = some (.int .i64 y.ki) ∧ W.cell? ⟨g, kk * 3 + 1, none⟩ = some (.int .i64 y.ac) ∧ W.cell? ⟨g, kk * 3 + 2, none⟩ = some (.int .i64 y.va) ∧ W.cell? ⟨gx, 0, none⟩ = some (.int .i64 m.ki) ∧ W.cell? ⟨gx, 1, none⟩ = some (.int .i64 m.ac) ∧ W.cell? ⟨gx, 2, none⟩ = some (.int .i64 m.va)) (by kernel_rfl) INIT.out (fun hHeld => ?_)
            refine wpAnyH_take (i := 0) (v := ?_) rfl (by kernel_rfl) (by kernel_rfl) (by kernel_rfl) (fun _ _ _ h => h) (Or.inl ⟨by rfl, ?_⟩) (by assumption) ?_
            rotate_left
            · (intro W hSw; (try dsimp only at hSw); go_simp <;> with_reducible rfl)
            (try simp only [Act.put, List.getElem_toArray, List.getElem_cons_zero, List.setIfInBounds_toArray, List.set_cons_succ, List.set_cons_zero])
            refine wpAnyH_take (i := 1) (v := ?_) rfl (by kernel_rfl) (by kernel_rfl) (by kernel_rfl) (fun _ _ _ h => h) (Or.inl ⟨by rfl, ?_⟩) (by assumption) ?_
            rotate_left
            · (intro W hSw; (try dsimp only at hSw); go_simp <;> with_reducible rfl)
            (try simp only [Act.put, List.getElem_toArray, List.getElem_cons_succ, List.getElem_cons_zero, List.setIfInBounds_toArray, List.set_cons_succ, List.set_cons_zero])
            refine wpAnyH_take (i := 2) (v := ?_) rfl (by kernel_rfl) (by kernel_rfl) (by kernel_rfl) (fun _ _ _ h => h) (Or.inl ⟨by rfl, ?_⟩) (by assumption) ?_
            rotate_left
            · (intro W hSw; (try dsimp only at hSw); go_simp <;> with_reducible rfl)
            (try simp only [Act.put, List.getElem_toArray, List.getElem_cons_succ, List.getElem_cons_zero, List.setIfInBounds_toArray, List.set_cons_succ, List.set_cons_zero])
            refine wpAnyH_take (i := 3) (v := ?_) rfl (by kernel_rfl) (by kernel_rfl) (by kernel_rfl) (fun _ _ _ h => h) (Or.inl ⟨by rfl, ?_⟩) (by assumption) ?_
            rotate_left
            · (intro W hSw; (try dsimp only at hSw); go_simp <;> with_reducible rfl)
            (try simp only [Act.put, List.getElem_toArray, List.getElem_cons_succ, List.getElem_cons_zero, List.setIfInBounds_toArray, List.set_cons_succ, List.set_cons_zero])
            refine wpAnyH_take (i := 4) (v := ?_) rfl (by kernel_rfl) (by kernel_rfl) (by kernel_rfl) (fun _ _ _ h => h) (Or.inl ⟨by rfl, ?_⟩) (by assumption) ?_
            rotate_left
            · (intro W hSw; (try dsimp only at hSw); go_simp <;> with_reducible rfl)
            (try simp only [Act.put, List.getElem_toArray, List.getElem_cons_succ, List.getElem_cons_zero, List.setIfInBounds_toArray, List.set_cons_succ, List.set_cons_zero])
            refine wpAnyH_take (i := 5) (v := ?_) rfl (by kernel_rfl) (by kernel_rfl) (by kernel_rfl) (fun _ _ _ h => h) (Or.inl ⟨by rfl, ?_⟩) (by assumption) ?_
            rotate_left
            · (intro W hSw; (try dsimp only at hSw); go_simp <;> with_reducible rfl)
            (try simp only [Act.put, List.getElem_toArray, List.getElem_cons_succ, List.getElem_cons_zero, List.setIfInBounds_toArray, List.set_cons_succ, List.set_cons_zero])
            refine wpAnyH_take (i := 6) (v := ?_) rfl (by kernel_rfl) (by kernel_rfl) (by kernel_rfl) (fun _ _ _ h => h) (Or.inl ⟨by rfl, ?_⟩) (by assumption) ?_
            rotate_left
            · (intro W hSw; (try dsimp only at hSw); go_simp <;> with_reducible rfl)
            (try simp only [Act.put, List.getElem_toArray, List.getElem_cons_succ, List.getElem_cons_zero, List.setIfInBounds_toArray, List.set_cons_succ, List.set_cons_zero])
            refine wpAnyH_take (i := 7) (v := ?_) rfl (by kernel_rfl) (by kernel_rfl) (by kernel_rfl) (fun _ _ _ h => h) (Or.inl ⟨by rfl, ?_⟩) (by assumption) ?_
            rotate_left
            · (intro W hSw; (try dsimp only at hSw); go_simp <;> with_reducible rfl)
            (try simp only [Act.put, List.getElem_toArray, List.getElem_cons_succ, List.getElem_cons_zero, List.setIfInBounds_toArray, List.set_cons_succ, List.set_cons_zero])
            refine wpAnyH_take (i := 8) (v := ?_) rfl (by kernel_rfl) (by kernel_rfl) (by kernel_rfl) (fun _ _ _ h => h) (Or.inl ⟨by rfl, ?_⟩) (by assumption) ?_
            rotate_left
            · (intro W hSw; (try dsimp only at hSw); go_simp <;> with_reducible rfl)
            (try simp only [Act.put, List.getElem_toArray, List.getElem_cons_succ, List.getElem_cons_zero, List.setIfInBounds_toArray, List.set_cons_succ, List.set_cons_zero])
            refine wpAnyH_take (i := 9) (v := ?_) rfl (by kernel_rfl) (by kernel_rfl) (by kernel_rfl) (fun _ _ _ h => h) (Or.inl ⟨by rfl, ?_⟩) (by assumption) ?_
            rotate_left
            · (intro W hSw; (try dsimp only at hSw); go_simp <;> with_reducible rfl)
            (try simp only [Act.put, List.getElem_toArray, List.getElem_cons_succ, List.getElem_cons_zero, List.setIfInBounds_toArray, List.set_cons_succ, List.set_cons_zero])
            refine wpAnyH_ready (rs := [10]) (by kernel_rfl) (by simp) ?_
            refine AllReadyH.cons rfl (fun K hK => ?_) AllReadyH.nil
            go_simp
            go_at_call 32
            refine (REG.out _).mono ?_
            rintro e w6 ⟨rfl, bb⟩
            have S6 := Lib.hid (S5.out.go bb)
            (first | done | go_wp2_with fail)
            refine hK.out _ _ (KW.out _ _ (Wr.of_below bb (Nat.le_refl _)) (by assumption)) (fun hHeld10 => ?_)
            clear hK K bb S5
            generalize hcv : cmpLt y m = cv
            have hcd : decide (cv < 0) = true := by rw [← hcv]; exact HCM.out
            clear hcv
            refine wpAnyH_take (i := 11) (v := ?_) rfl (by kernel_rfl) (by kernel_rfl) (by kernel_rfl) (fun _ _ _ h => h) (Or.inl ⟨by rfl, ?_⟩) (by assumption) ?_
            rotate_left
            · (intro W hSw; (try dsimp only at hSw); go_simp <;> with_reducible rfl)
            (try simp only [Act.put, List.getElem_toArray, List.getElem_cons_succ, List.getElem_cons_zero, List.setIfInBounds_toArray, List.set_cons_succ, List.set_cons_zero])
            refine wpAnyH_take (i := 12) (v := ?_) rfl (by kernel_rfl) (by kernel_rfl) (by kernel_rfl) (fun _ _ _ h => h) (Or.inl ⟨by rfl, ?_⟩) (by assumption) ?_
            rotate_left
            · (intro W hSw; (try dsimp only at hSw); go_simp <;> with_reducible rfl)
            (try simp only [Act.put, List.getElem_toArray, List.getElem_cons_succ, List.getElem_cons_zero, List.setIfInBounds_toArray, List.set_cons_succ, List.set_cons_zero])
            refine wpAnyH_done (by kernel_rfl) ?_ _
            clear CE INIT KW
            have STEP2 := Lib.hid (STEP.out HY.out)
            clear STEP PIN PNEW CN HALL HYE
            go_wp2
            go_roundw
            case rel => exact ⟨kk + 1, by omega, by go_num, S6.out, STEP2.out⟩
            case measure => simp [intOf]; omega
        · have hk2' : ¬ (kk : Int) < (T.length : Int) := by omega
          have PN := Lib.hid (putL_new (k := kk) AS.out hkk hall (fun h => absurd h hk2) (fun h => absurd h hk2))
          have S5 := Lib.hid S4.out.drew1
          clear hall hlg
          obtain ⟨m0, m1, m2⟩ := m
          go_wp2_with fail
          have CE := Lib.hid (fun (W : World) (h : Wr [] wr.drew W) => show Hid (Wr [] wr.drew W) ∧ W.cell? ⟨gx, 0, none⟩ = some (.int .i64 m0) ∧ W.cell? ⟨gx, 1, none⟩ = some (.int .i64 m1) ∧ W.cell? ⟨gx, 2, none⟩ = some (.int .i64 m2) from ⟨Lib.hid h, (wr_cell h (p := ⟨gx, 0, none⟩) hlp (by simp)).trans (by exact by simpa using p0), (wr_cell h (p := ⟨gx, 1, none⟩) hlp (by simp)).trans (by exact by simpa using p1), (wr_cell h (p := ⟨gx, 2, none⟩) hlp (by simp)).trans (by exact by simpa using p2)⟩)
          have INIT := Lib.hid (CE.out _ (Wr.refl _ _))
          have KW := Lib.hid (fun (W2 W : World) (hb : Wr [] W W2) (h : Hid (Wr [] wr.drew W) ∧ W.cell? ⟨gx, 0, none⟩ = some (.int .i64 m0) ∧ W.cell? ⟨gx, 1, none⟩ = some (.int .i64 m1) ∧ W.cell? ⟨gx, 2, none⟩ = some (.int .i64 m2)) => CE.out W2 (h.1.out.trans hb))
          clear p0 p1 p2 pf hlp S4
          refine wp_region_held_drew (S := fun W => Hid (Wr [] wr.drew W) ∧ W.cell? ⟨gx, 0, none⟩ = some (.int .i64 m0) ∧ W.cell? ⟨gx, 1, none⟩ = some (.int .i64 m1) ∧ W.cell? ⟨gx, 2, none⟩ = some (.int .i64 m2)) (by kernel_rfl) INIT.out (fun hHeld => ?_)
          refine wpAnyH_take (i := 0) (v := ?_) rfl (by kernel_rfl) (by kernel_rfl) (by kernel_rfl) (fun _ _ _ h => h) (Or.inl ⟨by rfl, ?_⟩) (by assumption) ?_
          rotate_left
          · (intro W hSw; (try dsimp only at hSw); go_simp <;> with_reducible rfl)
          (try simp only [Act.put, List.getElem_toArray, List.getElem_cons_zero, List.setIfInBounds_toArray, List.set_cons_succ, List.set_cons_zero])
          refine wpAnyH_take (i := 1) (v := ?_) rfl (by kernel_rfl) (by kernel_rfl) (by kernel_rfl) (fun _ _ _ h => h) (Or.inl ⟨by rfl, ?_⟩) (by assumption) ?_
          rotate_left
          · (intro W hSw; (try dsimp only at hSw); go_simp <;> with_reducible rfl)
          (try simp only [Act.put, List.getElem_toArray, List.getElem_cons_succ, List.getElem_cons_zero, List.setIfInBounds_toArray, List.set_cons_succ, List.set_cons_zero])
          refine wpAnyH_take (i := 2) (v := ?_) rfl (by kernel_rfl) (by kernel_rfl) (by kernel_rfl) (fun _ _ _ h => h) (Or.inl ⟨by rfl, ?_⟩) (by assumption) ?_
          rotate_left
          · (intro W hSw; (try dsimp only at hSw); go_simp <;> with_reducible rfl)
          (try simp only [Act.put, List.getElem_toArray, List.getElem_cons_succ, List.getElem_cons_zero, List.setIfInBounds_toArray, List.set_cons_succ, List.set_cons_zero])
          refine wpAnyH_take (i := 3) (v := ?_) rfl (by kernel_rfl) (by kernel_rfl) (by kernel_rfl) (fun _ _ _ h => h) (Or.inl ⟨by rfl, ?_⟩) (by assumption) ?_
          rotate_left
          · (intro W hSw; (try dsimp only at hSw); go_simp <;> with_reducible rfl)
          (try simp only [Act.put, List.getElem_toArray, List.getElem_cons_succ, List.getElem_cons_zero, List.setIfInBounds_toArray, List.set_cons_succ, List.set_cons_zero])
          refine wpAnyH_take (i := 4) (v := ?_) rfl (by kernel_rfl) (by kernel_rfl) (by kernel_rfl) (fun _ _ _ h => h) (Or.inl ⟨by rfl, ?_⟩) (by assumption) ?_
          rotate_left
          · (intro W hSw; (try dsimp only at hSw); go_simp <;> with_reducible rfl)
          (try simp only [Act.put, List.getElem_toArray, List.getElem_cons_succ, List.getElem_cons_zero, List.setIfInBounds_toArray, List.set_cons_succ, List.set_cons_zero])
          refine wpAnyH_take (i := 5) (v := undef) rfl (by kernel_rfl) (by kernel_rfl) (by kernel_rfl) (fun _ _ _ h => h) (Or.inr ⟨by rfl, rfl⟩) (by assumption) ?_
          (try simp only [Act.put, List.getElem_toArray, List.getElem_cons_succ, List.getElem_cons_zero, List.setIfInBounds_toArray, List.set_cons_succ, List.set_cons_zero])
          refine wpAnyH_take (i := 6) (v := undef) rfl (by kernel_rfl) (by kernel_rfl) (by kernel_rfl) (fun _ _ _ h => h) (Or.inr ⟨by rfl, rfl⟩) (by assumption) ?_
          (try simp only [Act.put, List.getElem_toArray, List.getElem_cons_succ, List.getElem_cons_zero, List.setIfInBounds_toArray, List.set_cons_succ, List.set_cons_zero])
          refine wpAnyH_take (i := 7) (v := undef) rfl (by kernel_rfl) (by kernel_rfl) (by kernel_rfl) (fun _ _ _ h => h) (Or.inr ⟨by rfl, rfl⟩) (by assumption) ?_
          (try simp only [Act.put, List.getElem_toArray, List.getElem_cons_succ, List.getElem_cons_zero, List.setIfInBounds_toArray, List.set_cons_succ, List.set_cons_zero])
          refine wpAnyH_take (i := 8) (v := undef) rfl (by kernel_rfl) (by kernel_rfl) (by kernel_rfl) (fun _ _ _ h => h) (Or.inr ⟨by rfl, rfl⟩) (by assumption) ?_
          (try simp only [Act.put, List.getElem_toArray, List.getElem_cons_succ, List.getElem_cons_zero, List.setIfInBounds_toArray, List.set_cons_succ, List.set_cons_zero])
          refine wpAnyH_take (i := 9) (v := undef) rfl (by kernel_rfl) (by kernel_rfl) (by kernel_rfl) (fun _ _ _ h => h) (Or.inr ⟨by rfl, rfl⟩) (by assumption) ?_
          (try simp only [Act.put, List.getElem_toArray, List.getElem_cons_succ, List.getElem_cons_zero, List.setIfInBounds_toArray, List.set_cons_succ, List.set_cons_zero])
          refine wpAnyH_take (i := 10) (v := undef) rfl (by kernel_rfl) (by kernel_rfl) (by kernel_rfl) (fun _ _ _ h => h) (Or.inr ⟨by rfl, rfl⟩) (by assumption) ?_
          (try simp only [Act.put, List.getElem_toArray, List.getElem_cons_succ, List.getElem_cons_zero, List.setIfInBounds_toArray, List.set_cons_succ, List.set_cons_zero])
          refine wpAnyH_take (i := 11) (v := undef) rfl (by kernel_rfl) (by kernel_rfl) (by kernel_rfl) (fun _ _ _ h => h) (Or.inr ⟨by rfl, rfl⟩) (by assumption) ?_
          (try simp only [Act.put, List.getElem_toArray, List.getElem_cons_succ, List.getElem_cons_zero, List.setIfInBounds_toArray, List.set_cons_succ, List.set_cons_zero])
          refine wpAnyH_take (i := 12) (v := ?_) rfl (by kernel_rfl) (by kernel_rfl) (by kernel_rfl) (fun _ _ _ h => h) (Or.inl ⟨by rfl, ?_⟩) (by assumption) ?_
          rotate_left
          · (intro W hSw; (try dsimp only at hSw); go_simp <;> with_reducible rfl)
          (try simp only [Act.put, List.getElem_toArray, List.getElem_cons_succ, List.getElem_cons_zero, List.setIfInBounds_toArray, List.set_cons_succ, List.set_cons_zero])
          refine wpAnyH_done (by kernel_rfl) ?_ _
          clear CE INIT KW
          go_wp2_with fail
          generalize hwd : wr.drew = wd at S5 ⊢
          clear hwd
          obtain ⟨p0, p1, p2, pf⟩ := (S5.out.bk 1 rfl).c3
          have hlp := (S5.out.bk 1 rfl).lt
          have S7 := Lib.hid S5.out.drew1
          have CE := Lib.hid (fun (W : World) (h : Wr [] wd.drew W) => show Hid (Wr [] wd.drew W) ∧ W.cell? ⟨gx, 0, none⟩ = some (.int .i64 m0) ∧ W.cell? ⟨gx, 1, none⟩ = some (.int .i64 m1) ∧ W.cell? ⟨gx, 2, none⟩ = some (.int .i64 m2) from ⟨Lib.hid h, (wr_cell h (p := ⟨gx, 0, none⟩) hlp (by simp)).trans (by exact by simpa using p0), (wr_cell h (p := ⟨gx, 1, none⟩) hlp (by simp)).trans (by exact by simpa using p1), (wr_cell h (p := ⟨gx, 2, none⟩) hlp (by simp)).trans (by exact by simpa using p2)⟩)
          have INIT := Lib.hid (CE.out _ (Wr.refl _ _))
          have KW := Lib.hid (fun (W2 W : World) (hb : Wr [] W W2) (h : Hid (Wr [] wd.drew W) ∧ W.cell? ⟨gx, 0, none⟩ = some (.int .i64 m0) ∧ W.cell? ⟨gx, 1, none⟩ = some (.int .i64 m1) ∧ W.cell? ⟨gx, 2, none⟩ = some (.int .i64 m2)) => CE.out W2 (h.1.out.trans hb))
          clear p0 p1 p2 pf hlp S5
          refine wp_region_held_drew (S := fun W => Hid (Wr [] wd.drew W) ∧ W.cell? ⟨gx, 0, none⟩ = some (.int .i64 m0) ∧ W.cell? ⟨gx, 1, none⟩ = some (.int .i64 m1) ∧ W.cell? ⟨gx, 2, none⟩ = some (.int .i64 m2)) (by kernel_rfl) INIT.out (fun hHeld => ?_)
          refine wpAnyH_take (i := 0) (v := ?_) rfl (by kernel_rfl) (by kernel_rfl) (by kernel_rfl) (fun _ _ _ h => h) (Or.inl ⟨by rfl, ?_⟩) (by assumption) ?_
          rotate_left
          · (intro W hSw; (try dsimp only at hSw); go_simp <;> with_reducible rfl)
          (try simp only [Act.put, List.getElem_toArray, List.getElem_cons_zero, List.setIfInBounds_toArray, List.set_cons_succ, List.set_cons_zero])
          refine wpAnyH_take (i := 1) (v := ?_) rfl (by kernel_rfl) (by kernel_rfl) (by kernel_rfl) (fun _ _ _ h => h) (Or.inl ⟨by rfl, ?_⟩) (by assumption) ?_
          rotate_left
          · (intro W hSw; (try dsimp only at hSw); go_simp <;> with_reducible rfl)
          (try simp only [Act.put, List.getElem_toArray, List.getElem_cons_succ, List.getElem_cons_zero, List.setIfInBounds_toArray, List.set_cons_succ, List.set_cons_zero])
          refine wpAnyH_take (i := 2) (v := ?_) rfl (by kernel_rfl) (by kernel_rfl) (by kernel_rfl) (fun _ _ _ h => h) (Or.inl ⟨by rfl, ?_⟩) (by assumption) ?_
          rotate_left
          · (intro W hSw; (try dsimp only at hSw); go_simp <;> with_reducible rfl)
          (try simp only [Act.put, List.getElem_toArray, List.getElem_cons_succ, List.getElem_cons_zero, List.setIfInBounds_toArray, List.set_cons_succ, List.set_cons_zero])
          refine wpAnyH_take (i := 3) (v := ?_) rfl (by kernel_rfl) (by kernel_rfl) (by kernel_rfl) (fun _ _ _ h => h) (Or.inl ⟨by rfl, ?_⟩) (by assumption) ?_
          rotate_left
          · (intro W hSw; (try dsimp only at hSw); go_simp <;> with_reducible rfl)
          (try simp only [Act.put, List.getElem_toArray, List.getElem_cons_succ, List.getElem_cons_zero, List.setIfInBounds_toArray, List.set_cons_succ, List.set_cons_zero])
          refine wpAnyH_take (i := 4) (v := ?_) rfl (by kernel_rfl) (by kernel_rfl) (by kernel_rfl) (fun _ _ _ h => h) (Or.inl ⟨by rfl, ?_⟩) (by assumption) ?_
          rotate_left
          · (intro W hSw; (try dsimp only at hSw); go_simp <;> with_reducible rfl)
          (try simp only [Act.put, List.getElem_toArray, List.getElem_cons_succ, List.getElem_cons_zero, List.setIfInBounds_toArray, List.set_cons_succ, List.set_cons_zero])
          refine wpAnyH_take (i := 5) (v := undef) rfl (by kernel_rfl) (by kernel_rfl) (by kernel_rfl) (fun _ _ _ h => h) (Or.inr ⟨by rfl, rfl⟩) (by assumption) ?_
          (try simp only [Act.put, List.getElem_toArray, List.getElem_cons_succ, List.getElem_cons_zero, List.setIfInBounds_toArray, List.set_cons_succ, List.set_cons_zero])
          refine wpAnyH_take (i := 6) (v := undef) rfl (by kernel_rfl) (by kernel_rfl) (by kernel_rfl) (fun _ _ _ h => h) (Or.inr ⟨by rfl, rfl⟩) (by assumption) ?_
          (try simp only [Act.put, List.getElem_toArray, List.getElem_cons_succ, List.getElem_cons_zero, List.setIfInBounds_toArray, List.set_cons_succ, List.set_cons_zero])
          refine wpAnyH_take (i := 7) (v := undef) rfl (by kernel_rfl) (by kernel_rfl) (by kernel_rfl) (fun _ _ _ h => h) (Or.inr ⟨by rfl, rfl⟩) (by assumption) ?_
          (try simp only [Act.put, List.getElem_toArray, List.getElem_cons_succ, List.getElem_cons_zero, List.setIfInBounds_toArray, List.set_cons_succ, List.set_cons_zero])
          refine wpAnyH_take (i := 8) (v := undef) rfl (by kernel_rfl) (by kernel_rfl) (by kernel_rfl) (fun _ _ _ h => h) (Or.inr ⟨by rfl, rfl⟩) (by assumption) ?_
          (try simp only [Act.put, List.getElem_toArray, List.getElem_cons_succ, List.getElem_cons_zero, List.setIfInBounds_toArray, List.set_cons_succ, List.set_cons_zero])
          refine wpAnyH_take (i := 9) (v := undef) rfl (by kernel_rfl) (by kernel_rfl) (by kernel_rfl) (fun _ _ _ h => h) (Or.inr ⟨by rfl, rfl⟩) (by assumption) ?_
          (try simp only [Act.put, List.getElem_toArray, List.getElem_cons_succ, List.getElem_cons_zero, List.setIfInBounds_toArray, List.set_cons_succ, List.set_cons_zero])
          refine wpAnyH_take (i := 10) (v := undef) rfl (by kernel_rfl) (by kernel_rfl) (by kernel_rfl) (fun _ _ _ h => h) (Or.inr ⟨by rfl, rfl⟩) (by assumption) ?_
          (try simp only [Act.put, List.getElem_toArray, List.getElem_cons_succ, List.getElem_cons_zero, List.setIfInBounds_toArray, List.set_cons_succ, List.set_cons_zero])
          refine wpAnyH_take (i := 11) (v := ?_) rfl (by kernel_rfl) (by kernel_rfl) (by kernel_rfl) (fun _ _ _ h => h) (Or.inl ⟨by rfl, ?_⟩) (by assumption) ?_
          rotate_left
          · (intro W hSw; (try dsimp only at hSw); go_simp <;> with_reducible rfl)
          (try simp only [Act.put, List.getElem_toArray, List.getElem_cons_succ, List.getElem_cons_zero, List.setIfInBounds_toArray, List.set_cons_succ, List.set_cons_zero])
          refine wpAnyH_done (by kernel_rfl) ?_ _
          clear CE INIT KW
          have htk : (T.take kk).length ≤ T.length := by rw [List.length_take]; omega
          have e1 : (kk : Int) ≤ (T.length : Int) := by omega
          have e2 : (T.length : Int) ≤ (cu : Int) := by omega
          have e3 : (kk : Int) ≤ (cu : Int) := by omega
          have e4 : (0 : Int) ≤ (kk : Int) := by omega
          have S8 := Lib.hid S7.out.emptyT
          have hz8 := S8.out.1.size
          clear S7
          go_wp2_with (first | (at_builtin; refine app_rdT rfl (.tmp 42) (.tmp 45) 25 rfl rfl w.heap.size _ _ [] (T.take kk) rfl rfl (by exact S8.out.ownT) (by exact rdT_take (c := cu) (by have h9 := S8.out.rd 1 rfl; rw [rowT_tr] at h9; exact h9) hkk) (nilOk_at _ _ _) (by simp only [List.length_nil]; omega) (by exact hz8) ?_) | fail)
          intro v8 w8 hown8 hg8 hat8
          obtain ⟨F8, h8⟩ := S8.out.appTs (Below.refl _ _) hown8 hg8 (by simpa using hat8)
          rw [List.nil_append] at h8
          have S9 := Lib.hid h8
          clear hown8 hg8 hat8 h8 S8 hz8
          obtain ⟨p0, p1, p2, pf⟩ := (S9.out.bk 2 rfl).c3
          have OW := Lib.hid (S9.out.ownT)
          have hzs := S9.out.1.size
          go_wp2_with (first | (at_builtin; refine wpList_append_own_at _ rfl (.tmp 47) (.tmp 49) 25 rfl w.heap.size 45 i0 (.agg #[.int .i64 0, .int .i64 0, .int .i64 0]) 3 24 Try.underlying25 hi0 hz0 hz1 hz2 rfl (by decide) _ ((T.take kk).length) (cells3 (T.take kk)) rfl (by exact OW.out.alloc _) ⟨_, 0, none⟩ 1 1 [.int .i64 m0, .int .i64 m1, .int .i64 m2] rfl rfl ?cq1 ?cq2 ?cq3 ?cq4 ?cq5 ?_) | fail)
          try case cq1 => (intro j u hj; first | exact three_cells _ _ _ _ _ j u hj | (have h9 := three_cells (World.alloc wr (.cells #[.int .i64 m0, .int .i64 m1, .int .i64 m2] 45)) (.int .i64 m0) (.int .i64 m1) (.int .i64 m2) 45 j u hj; first | exact h9 | simpa only [World.size_alloc] using h9))
          try case cq2 => simp [Value.oneCell']
          try case cq3 => unfold maxLen; omega
          try case cq4 => omega
          try case cq5 => first | omega | (simp at hzs ⊢; omega)
          intro v8 w10 hown8 hg8 _ hat8
          obtain ⟨F10, h9⟩ := S9.out.appT (⟨m0, m1, m2⟩ : Lt) ((Below.refl _ _).alloc (Nat.le_refl _) _) hown8 (by first | rfl | (simp only [List.length_take]; omega) | (simp; omega)) hg8 (by simpa using hat8)
          have S10 := Lib.hid h9
          clear hown8 hg8 hat8 h9 OW hzs S9 p0 p1 p2 pf
          have hz10 := S10.out.1.size
          have htm : (T.take kk ++ [(⟨m0, m1, m2⟩ : Lt)]).length ≤ T.length + 1 := by rw [List.length_append, List.length_singleton]; omega
          have htd : (T.drop kk).length ≤ T.length := by rw [List.length_drop]; omega
          by_cases hcc : cu = kk
          · have HE := Lib.hid (show T.length ≤ kk by omega)
            have RD := Lib.hid True.intro
            go_wp2_with (first | (at_builtin; refine app_rdT rfl (.tmp 51) (.tmp 54) 25 rfl rfl w.heap.size _ _ (T.take kk ++ [(⟨m0, m1, m2⟩ : Lt)]) (T.drop kk) rfl rfl (by exact S10.out.ownT) (by exact rdT_drop_end HE.out) (nilOk_at _ _ _) (by omega) (by exact hz10) ?_) | fail)
            intro v8 w12 hown8 hg8 hat8
            obtain ⟨n8, hown9⟩ : ∃ n, w12.ownsRow w.heap.size 45 3 v8 n (cells3 (T.take kk ++ [(⟨m0, m1, m2⟩ : Lt)] ++ T.drop kk)) := ⟨_, by first | exact hown8 | (rw [List.append_assoc]; exact hown8)⟩
            obtain ⟨F12, h8⟩ := S10.out.appTs (Below.refl _ _) hown9 hg8 (by simpa using hat8)
            rw [← PN.out, ← NX.out] at h8
            have S12 := Lib.hid ((h8.drop 1).drop 1)
            simp only [List.eraseIdx_cons_succ, List.eraseIdx_cons_zero] at S12
            clear hown8 hown9 hg8 hat8 h8 S10 RD
            obtain ⟨g2, c2, rfl, _, hc2⟩ := S12.out.formT (by rw [NX.out]; exact put_len)
            have HC2 := Lib.hid hc2
            clear hc2
            go_wp2
            go_roundw
            case rel => exact ⟨k + 1, F12, g2, c2, by omega, by go_num, rfl, HC2.out, S12.out⟩
            case measure => simp [intOf]; omega
          · have RD := Lib.hid (rdT_drop0 (n := T.length) (c := cu) (c' := cu - kk) (m := T.length - kk) (by have h9 := S10.out.rd 1 rfl; rw [rowT_tr] at h9; exact h9) hkk rfl)
            go_wp2_with (first | (at_builtin; refine app_rdT rfl (.tmp 51) (.tmp 54) 25 rfl rfl w.heap.size _ _ (T.take kk ++ [(⟨m0, m1, m2⟩ : Lt)]) (T.drop kk) rfl rfl (by exact S10.out.ownT) (by exact RD.out) (nilOk_at _ _ _) (by omega) (by exact hz10) ?_) | fail)
            intro v8 w12 hown8 hg8 hat8
            obtain ⟨n8, hown9⟩ : ∃ n, w12.ownsRow w.heap.size 45 3 v8 n (cells3 (T.take kk ++ [(⟨m0, m1, m2⟩ : Lt)] ++ T.drop kk)) := ⟨_, by first | exact hown8 | (rw [List.append_assoc]; exact hown8)⟩
            obtain ⟨F12, h8⟩ := S10.out.appTs (Below.refl _ _) hown9 hg8 (by simpa using hat8)
            rw [← PN.out, ← NX.out] at h8
            have S12 := Lib.hid ((h8.drop 1).drop 1)
            simp only [List.eraseIdx_cons_succ, List.eraseIdx_cons_zero] at S12
            clear hown8 hown9 hg8 hat8 h8 S10 RD
            obtain ⟨g2, c2, rfl, _, hc2⟩ := S12.out.formT (by rw [NX.out]; exact put_len)
            have HC2 := Lib.hid hc2
            clear hc2
            go_wp2
            go_roundw
            case rel => exact ⟨k + 1, F12, g2, c2, by omega, by go_num, rfl, HC2.out, S12.out⟩
            case measure => simp [intOf]; omega
    · have hge : ¬ (k : Int) < (l.length : Int) := by omega
      obtain rfl : k = l.length := by omega
      rw [List.take_length] at S2
      have P := (S2.out.own 0 rfl)
      rw [rowT_tr] at P
      go_wp2
      go_ret
      first | exact ⟨_, _, rfl, P.1, P.2, S2.out.1⟩ | exact ⟨_, P.1, P.2, S2.out.1⟩ | exact ⟨_, rfl, _, P.1, P.2, S2.out.1⟩
end Go.Proofs.Ytgbpomakomddjaa
