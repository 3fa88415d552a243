/- DERIVED. CONTRACT: spec.MakeSched: a schedule drawn. -/
import Derived.Test.YtilcfbffjjdgnaaDr5
import Derived.Test.YtilcfbffjjdgnaaTSchedule
import Derived.Test.YtilcfbffjjdgnaaScM
import Derived.Test.YtilcfbffjjdgnaaRegZ
import Derived.Deep.AppendLies
import Derived.Deep.CutRange
import Derived.Deep.DeepCutAuto
import Derived.Test.YtilcfbffjjdgnaaMkP

section
namespace Go.Proofs.Ytilcfbffjjdgnaa
open Go.RowKit Go.Shelf
set_option linter.unusedVariables false

/-- The two lists of a schedule as they are drawn. -/
def DrSs (p : Pj) (us vs : List Int) : Prop := (∀ x ∈ us, 0 ≤ x ∧ x ≤ 24) ∧ ∀ j, (h : j < vs.length) → 0 ≤ vs[j] ∧ vs[j] < ((acA p j).length : Int)
theorem DrSs.start (p : Pj) : DrSs p [] [] := And.intro (fun x (h : x ∈ ([] : List Int)) => absurd h (by simp)) (fun j (h : j < ([] : List Int).length) => absurd h (by simp))
theorem DrSs.snoc {p : Pj} {us vs : List Int} {x y : Int} (h : DrSs p us vs) (hx : 0 ≤ x ∧ x ≤ 24) (hy : 0 ≤ y ∧ y < ((acA p vs.length).length : Int)) : DrSs p (us ++ [x]) (vs ++ [y]) := by
  refine ⟨fun z hz => ?_, fun j hj => ?_⟩
  · rcases List.mem_append.1 hz with hz | hz
    · exact h.1 z hz
    · simp at hz; subst hz; exact hx
  · rw [List.length_append] at hj
    by_cases e : j < vs.length
    · rw [List.getElem_append_left e]; exact h.2 j e
    · obtain rfl : j = vs.length := by simp at hj; omega
      simp only [List.getElem_append_right (Nat.le_refl _), Nat.sub_self, List.getElem_cons_zero]
      exact hy
structure DrSc (p : Pj) (s : Sc) : Prop where
  h1 : s.st.length = p.acts.length
  h2 : s.mo.length = p.acts.length
  all : DrSs p s.st s.mo
section
variable {W0 w W : World} {g : Nat} {A : Option Addr} {c : Nat} {bs : List Int} {L : List Item}
theorem Sd.pick (i : Nat) {a : Item} (h : Sd W0 w g A c bs L W) (ha : L[i]? = some a) : Sd W0 w g A c bs (a :: L.eraseIdx i) W := ⟨h.wr, h.items.pick i ha, h.drw, h.lt, h.le⟩
theorem Sd.old {t : Tr} {v : Value} (h : Sd W0 w g A c bs L W) (hv : t.rd W0 v) : t.rd W v := Tr.rd_below h.drw.bel (Nat.le_refl _) _ _ hv
end

set_option maxRecDepth 100000 in
set_option maxHeartbeats 8000000 in
theorem draw9_any (p : Pj) (h6 : p.acts.length ≤ 6) (hms : ∀ i, (h : i < p.acts.length) → 1 ≤ p.acts[i].ms.length ∧ p.acts[i].ms.length ≤ 2) (g : Nat) (A : Option Addr) (c : Nat) (bs : List Int) (W0 w : World) (h : Drw W0 w g A c bs) (v : Value) (hv : (trPj p).rd W0 v) :
    Calls Try.prog 30 #[.pointer (some ⟨g, 0, none⟩), v] w fun e w' => ∃ v s F, e = .returned v ∧ DrSc p s ∧ (trSc s).own w' w.heap.size v F ∧ F.Nodup ∧ Drw W0 w' g A c bs ∧ w.grownBy w' (some g) := by
  obtain ⟨i0, hi0, hz0, hz1, hz2⟩ := info_parts infoInt
  obtain ⟨A1, c1, A2, c2, A3, c3, A4, c4, rfl, r1, _⟩ := rdProject_t hv
  obtain ⟨hl1, B1, d1, he, g1⟩ := rdActivityS_t r1
  injection he with he _ he2
  subst he he2
  have G1 := Lib.hid g1
  have HMS := Lib.hid hms
  have S0 := Lib.hid (((((Sd.start h).box 28 [.int .i64 p.dl, .slice A1 p.acts.length c1, .slice A2 p.lks.length c2, .slice A3 p.ress.length c3, .slice A4 p.stk.length c4]).box 31 [.slice none 0 0, .slice none 0 0]).box 31 [.slice none 0 0, .slice none 0 0]).nilF 3 |>.nilF 3)
  simp only [World.size_alloc] at S0
  clear h hv r1 g1 hms
  go_enter Try.func30, Try.ntmps30
  go_wp2
  go_loopw [6, 14] (fun q i wr => ∃ (k : Nat) (at0 : Int) (us vs : List Int) (U V : Option Addr) (cu cv : Nat) (Fu Fv : List Nat), k ≤ p.acts.length ∧ i = .int .i64 k ∧ q = .int .i64 at0 ∧ (0 ≤ at0 ∧ at0 ≤ 4 * k) ∧ us.length = k ∧ vs.length = k ∧ Hid (DrSs p us vs) ∧ Sd W0 w g A c bs [⟨trI us, .slice U k cu, Fu⟩, ⟨trI vs, .slice V k cv, Fv⟩, boxI (w.heap.size + 1 + 1) 31 [.slice U k cu, .slice V k cv], boxI (w.heap.size + 1) 31 [.slice none 0 0, .slice none 0 0], boxI w.heap.size 28 [.int .i64 p.dl, .slice A1 p.acts.length c1, .slice A2 p.lks.length c2, .slice A3 p.ress.length c3, .slice A4 p.stk.length c4]] wr) (fun _ i _ => p.acts.length - (intOf i).toNat)
  case atStart => exact ⟨0, 0, [], [], none, none, 0, 0, _, _, Nat.zero_le _, rfl, rfl, by omega, rfl, rfl, Lib.hid (DrSs.start p), S0.out⟩
  case round =>
    obtain ⟨k, at0, us, vs, U, V, cu, cv, Fu, Fv, hkl, rfl, rfl, hat, hul, hvl, hds, hS⟩ := hrel
    have S1 := Lib.hid hS
    clear hS S0
    by_cases hlt : k < p.acts.length
    · have hlt' : (k : Int) < (p.acts.length : Int) := by omega
      have k0 : (0 : Int) ≤ (k : Int) := by omega
      obtain ⟨b1, o1, rfl, hb1, hc1⟩ := G1.out k hlt
      obtain ⟨M, cm, x0, x1, x2, _⟩ := hc1 k hlt
      have y0 := (S1.out.drw.bel.cell (p := ⟨b1, o1 + k * 3, none⟩) hb1).trans x0
      have y1 := (S1.out.drw.bel.cell (p := ⟨b1, o1 + k * 3 + 1, none⟩) hb1).trans x1
      have y2 := (S1.out.drw.bel.cell (p := ⟨b1, o1 + k * 3 + 2, none⟩) hb1).trans x2
      have hm := HMS.out k hlt
      have HAC := Lib.hid (show ((acA p vs.length).length : Int) = (p.acts[k].ms.length : Int) from by rw [hvl, acA_at hlt])
      generalize p.acts[k].nm = nm at y0
      generalize p.acts[k].fa = fa at y1
      generalize p.acts[k].ms.length = lm at y2 hm HAC
      have S2 := Lib.hid (S1.out.box 70 [.string nm, .int .i64 fa, .slice M lm cm])
      clear x0 x1 x2 hc1
      obtain ⟨ga, hga⟩ : ∃ x, x = wr.heap.size := ⟨_, rfl⟩
      rw [← hga] at S2
      have HGA := Lib.hid hga
      clear hga
      go_wp2_with fail
      clear y0 y1 y2 S1
      refine (once_any 3 (by omega) (by omega) g A c bs W0 _ S2.out.drw).mono ?_
      rintro e w3 ⟨ro, rfl, hd3, hg3⟩
      have S3 := Lib.hid (S2.out.call hd3 hg3)
      clear S2 hd3 hg3
      rw [← HGA.out]
      go_upto_if 20 with (fail)
      go_cut [9] from 21 to 22 (fun s wx => ∃ n0 : Int, s = .int .i64 n0 ∧ 0 ≤ n0 ∧ n0 ≤ 24 ∧ Sd W0 w g A c bs [boxI ga 70 [.string nm, .int .i64 fa, .slice M lm cm], ⟨trI us, .slice U k cu, Fu⟩, ⟨trI vs, .slice V k cv, Fv⟩, boxI (w.heap.size + 1 + 1) 31 [.slice U k cu, .slice V k cv], boxI (w.heap.size + 1) 31 [.slice none 0 0, .slice none 0 0], boxI w.heap.size 28 [.int .i64 p.dl, .slice (some ⟨b1, o1, none⟩) p.acts.length c1, .slice A2 p.lks.length c2, .slice A3 p.ress.length c3, .slice A4 p.stk.length c4]] wx)
      case first =>
        rcases ro with _ | _
        · go_wp2_with fail
          go_meet
          case rel => exact ⟨at0, rfl, hat.1, by omega, S3.out⟩
        · go_wp2_with fail
          refine (below_small 12 (by omega) (by omega) g A c bs W0 _ S3.out.drw).mono ?_
          rintro e w4 ⟨r4, rfl, h40, h41, hd4, hg4⟩
          have S4 := Lib.hid (S3.out.call hd4 hg4)
          clear S3 hd4 hg4
          go_wp2_with fail
          go_meet
          case rel => exact ⟨r4, rfl, h40, by omega, S4.out⟩
      case rest =>
      clear S3
      obtain ⟨n0, rfl, hn0, hn1, hS⟩ := hcut
      have S5 := Lib.hid hS
      clear hS
      obtain ⟨e0, e1, ef⟩ := (S5.out.bk 3 rfl).c2
      have OW := Lib.hid (own_flat (S5.out.own 1 rfl).1).1
      simp only [List.length_map] at OW
      rw [hul] at OW
      have hz := S5.out.wr.size
      go_wp2_with (first | (at_builtin; refine wpList_append_own_at _ rfl (.tmp 24) (.tmp 26) 26 rfl w.heap.size 3 i0 (.int .i64 0) 1 8 Try.underlying26 hi0 hz0 hz1 hz2 rfl (by decide) (.slice U k cu) k (us.map (.int .i64)) rfl (by exact OW.out.alloc _) ⟨wc.heap.size, 0, none⟩ 1 1 [.int .i64 n0] rfl rfl ?c1 ?c2 ?c3 ?c4 ?c5 ?_) | fail)
      try case c1 => exact newI_cell _ _ _
      case c2 => simp [Value.oneCell']
      case c3 => unfold maxLen; omega
      case c4 => omega
      case c5 => first | omega | (simp; omega)
      intro v' w8 hown8 hg8 _ hat8
      obtain ⟨F9, h9⟩ := (S5.out.pick 1 rfl).appI2 hown8 hg8 (by simpa using hat8)
      obtain ⟨U9, c9, hv9, _⟩ := rdI_slice (rd_flat (h9.rd 0 rfl))
      rw [show (us ++ [n0]).length = k + 1 from by simp [hul]] at hv9
      subst hv9
      have S6 := Lib.hid h9
      clear e0 e1 ef
      clear hown8 hg8 hat8 h9 OW S5
      obtain ⟨e0, e1, ef⟩ := (S6.out.bk 3 rfl).c2
      have S7 := Lib.hid (S6.out.boxSet 3 rfl 0 (.slice U9 (k + 1) c9))
      simp only [List.set_cons_succ, List.set_cons_zero] at S7
      go_wp2_with fail
      clear e0 e1 ef
      generalize World.setCell w8 _ _ = w7 at S7 ⊢
      clear S6
      obtain ⟨e0, e1, ef⟩ := (S7.out.bk 3 rfl).c2
      obtain ⟨a0, a1, a2, af⟩ := (S7.out.bk 1 rfl).c3
      have hle := (S7.out.bk 3 rfl).lt
      have hla := (S7.out.bk 1 rfl).lt
      have hgl := S7.out.lt
      have hgw := (Tr.own_lt _ _ _ (S7.out.own 1 rfl).1 ga (by simp)).1
      have hapE := S7.out.items.apart (i := 2) (j := 3) rfl rfl (by omega)
      have hapA := S7.out.items.apart (i := 1) (j := 2) rfl rfl (by omega)
      have hnE : w.heap.size + 1 + 1 ∉ (g :: Fv) := by
        intro hx
        rcases List.mem_cons.1 hx with hx | hx
        · omega
        · exact hapE _ hx (by simp [boxI])
      have hnA : ga ∉ (g :: Fv) := by
        intro hx
        rcases List.mem_cons.1 hx with hx | hx
        · omega
        · exact hapA ga (by simp [boxI]) hx
      have S8 := Lib.hid S7.out.drew
      have CE := Lib.hid (fun (W : World) (h : Wr (g :: Fv) w7.drew W) => show Hid (Wr (g :: Fv) w7.drew W) ∧ W.cell? ⟨w.heap.size + 1 + 1, 1, none⟩ = some (.slice V k cv) ∧ W.cell? ⟨ga, 2, none⟩ = some (.slice M lm cm) from ⟨Lib.hid h, (wr_cell h (p := ⟨w.heap.size + 1 + 1, 1, none⟩) hle hnE).trans (by exact by simpa using e1), (wr_cell h (p := ⟨ga, 2, none⟩) hla hnA).trans (by exact by simpa using a2)⟩)
      have INIT := Lib.hid (CE.out _ (Wr.refl _ _))
      have KW := Lib.hid (fun (W2 W : World) (hb : Wr (g :: Fv) W W2) (h : Hid (Wr (g :: Fv) w7.drew W) ∧ W.cell? ⟨w.heap.size + 1 + 1, 1, none⟩ = some (.slice V k cv) ∧ W.cell? ⟨ga, 2, none⟩ = some (.slice M lm cm)) => CE.out W2 (h.1.out.trans hb))
      clear e0 e1 ef a0 a1 a2 af hapE hapA
      refine wpAnyZ_start 10 (fun W => Hid (Wr (g :: Fv) w7.drew W) ∧ W.cell? ⟨w.heap.size + 1 + 1, 1, none⟩ = some (.slice V k cv) ∧ W.cell? ⟨ga, 2, none⟩ = some (.slice M lm cm)) (by kernel_rfl) INIT.out (fun hHeld => ?_)
      clear CE INIT S7
      generalize w7.drew = wd at S8 KW hHeld ⊢
      refine wpAnyZ_take (i := 0) (v := ?_) rfl (by kernel_rfl) (by kernel_rfl) (by kernel_rfl) (fun _ _ _ h => h) (Or.inl ⟨by rfl, ?_⟩) (by assumption) ?_
      rotate_left
      · (intro W hSw; (try dsimp only at hSw); go_simp <;> with_reducible rfl)
      (try simp only [Act.put])
      refine wpAnyZ_take (i := 1) (v := ?_) rfl (by kernel_rfl) (by kernel_rfl) (by kernel_rfl) (fun _ _ _ h => h) (Or.inl ⟨by rfl, ?_⟩) (by assumption) ?_
      rotate_left
      · (intro W hSw; (try dsimp only at hSw); go_simp <;> with_reducible rfl)
      (try simp only [Act.put])
      refine wpAnyZ_take (i := 2) (v := ?_) rfl (by kernel_rfl) (by kernel_rfl) (by kernel_rfl) (fun _ _ _ h => h) (Or.inl ⟨by rfl, ?_⟩) (by assumption) ?_
      rotate_left
      · (intro W hSw; (try dsimp only at hSw); go_simp <;> with_reducible rfl)
      (try simp only [Act.put])
      refine wpAnyZ_take (i := 3) (v := ?_) rfl (by kernel_rfl) (by kernel_rfl) (by kernel_rfl) (fun _ _ _ h => h) (Or.inl ⟨by rfl, ?_⟩) (by assumption) ?_
      rotate_left
      · (intro W hSw; (try dsimp only at hSw); go_simp <;> with_reducible rfl)
      (try simp only [Act.put])
      refine wpAnyZ_take (i := 4) (v := ?_) rfl (by kernel_rfl) (by kernel_rfl) (by kernel_rfl) (fun _ _ _ h => h) (Or.inl ⟨by rfl, ?_⟩) (by assumption) ?_
      rotate_left
      · (intro W hSw; (try dsimp only at hSw); go_simp <;> with_reducible rfl)
      (try simp only [Act.put])
      refine wpAnyZ_take (i := 5) (v := ?_) rfl (by kernel_rfl) (by kernel_rfl) (by kernel_rfl) (fun _ _ _ h => h) (Or.inl ⟨by rfl, ?_⟩) (by assumption) ?_
      rotate_left
      · (intro W hSw; (try dsimp only at hSw); go_simp <;> with_reducible rfl)
      (try simp only [Act.put])
      refine wpAnyZ_one (i := 6) (by kernel_rfl) rfl (fun K hK => ?_)
      go_simp
      go_at_call 55
      refine (below_small (lm : Int) (by omega) (by omega) g A c bs W0 _ S8.out.drw).mono ?_
      rintro e w6 ⟨r6, rfl, h60, h61, hd6, hg6⟩; have S9 := Lib.hid (S8.out.call hd6 hg6)
      (first | done | go_wp2_with fail)
      refine hK.out _ _ (KW.out _ _ ((Wr.of_grown hg6).sub (fun x hx => by simp at hx; simp [hx])) hHeld) (fun hHeld6 => ?_)
      clear hK K
      have OWV := Lib.hid (own_flat (S9.out.own 2 rfl).1)
      have hzv := OWV.out.1
      simp only [List.length_map] at hzv
      rw [hvl] at hzv
      have HOW := Lib.hid hzv
      have hFF := OWV.out.2
      have hz9 := S9.out.wr.size
      clear hzv OWV hd6 hg6 S8
      refine wpAnyZ_one (i := 7) (by kernel_rfl) rfl (fun K hK => ?_)
      go_simp
      refine hK.out _ _ (KW.out _ _ (Wr.of_below ((Below.refl _ _).alloc (Nat.le_refl _) _) (Nat.le_refl _)) hHeld6) (fun hHeld7 => ?_)
      clear hK K
      refine wpAnyZ_one (i := 8) (by kernel_rfl) rfl (fun K hK => ?_)
      refine step_append_lies _ (by rfl) (.tmp 30) (.tmp 36) 26 (by rfl) w.heap.size 3 i0 (.int .i64 0) 1 8 Try.underlying26 hi0 hz0 hz1 hz2 rfl (by decide) _ k (vs.map (.int .i64)) (by rfl) (by exact HOW.out.alloc _) ⟨w6.heap.size, 0, none⟩ 1 1 [.int .i64 r6] (by rfl) (by rfl) (by exact newI_cell _ _ _) (by simp [Value.oneCell']) (by decide) (by unfold maxLen; omega) (by omega) (by simp; omega) (w6.heap.size + 1) (by simp) ?_
      intro g' c' w4 hown4 hg4 hat4 hlt4
      have hg5 : (w6.alloc (.cells #[.int .i64 r6] 3)).grownBy w4 (Value.slice V k cv).ownBlock := hg4
      have hat5 : (Value.slice (some ⟨g', 0, none⟩) (k + 1) c').ownBlock = (Value.slice V k cv).ownBlock ∨ (Value.slice (some ⟨g', 0, none⟩) (k + 1) c').ownBlock = some (w6.heap.size + 1) := by
        have h4 : (Value.slice V k cv).ownBlock = some g' ∨ g' = w6.heap.size + 1 := hat4
        rcases h4 with h4 | h4
        · exact .inl h4.symm
        · exact .inr (by subst h4; rfl)
      obtain ⟨F5, h5⟩ := (S9.out.pick 2 rfl).appI2 hown4 hg5 hat5
      have S10 := Lib.hid h5
      have hwr5 : Wr (g :: Fv) (w6.alloc (.cells #[.int .i64 r6] 3)) w4 := (Wr.of_grown hg5).sub (fun x hx => by rw [hFF]; exact List.mem_cons_of_mem _ hx)
      refine hK.out _ _ (KW.out _ _ hwr5 hHeld7) (fun hHeld8 => ?_)
      clear hK K hg4 hg5 hat4 hat5 h5 hown4 HOW hwr5 S9
      refine wpAnyZ_take (i := 9) (v := ?_) rfl (by kernel_rfl) (by kernel_rfl) (by kernel_rfl) (fun _ _ _ h => h) (Or.inl ⟨by rfl, ?_⟩) (by assumption) ?_
      rotate_left
      · (intro W hSw; (try dsimp only at hSw); go_simp <;> with_reducible rfl)
      (try simp only [Act.put])
      obtain ⟨e0, e1, ef⟩ := (S10.out.bk 3 rfl).c2
      refine wpAnyZ_last (by kernel_rfl) (by kernel_rfl) rfl (fun K hK => ?_)
      go_simp
      refine hK.out _ _ ?_
      clear hK K
      have S11 := Lib.hid (S10.out.boxSet 3 rfl 1 (.slice (some ⟨g', 0, none⟩) (k + 1) c'))
      simp only [List.set_cons_succ, List.set_cons_zero] at S11
      clear e0 e1 ef
      clear hHeld hHeld6 hHeld7 hHeld8 KW S10
      go_wp2_with fail
      generalize World.setCell w4 _ _ = w12 at S11 ⊢
      refine (below_small 5 (by omega) (by omega) g A c bs W0 _ S11.out.drw).mono ?_
      rintro e w13 ⟨r7, rfl, h70, h71, hd7, hg7⟩
      have S12 := Lib.hid ((((S11.out.call hd7 hg7).pick 2 rfl).drop).pick 1 rfl)
      clear S11 hd7 hg7
      have hw : IntKind.i64.wrap (at0 + r7) = at0 + r7 := by rw [IntKind.wrap_i64]; omega
      have hds2 := Lib.hid (hds.out.snoc (x := n0) (y := r6) ⟨hn0, hn1⟩ ⟨h60, by rw [HAC.out]; exact h61⟩)
      go_wp2
      go_roundw
      case rel => exact ⟨k + 1, at0 + r7, us ++ [n0], vs ++ [r6], U9, some ⟨g', 0, none⟩, c9, c', F9, F5, by omega, by go_num, rfl, by omega, by simp [hul], by simp [hvl], hds2, S12.out⟩
      case measure => simp [intOf]; omega
    · have hge : ¬ (k : Int) < (p.acts.length : Int) := by omega
      obtain rfl : k = p.acts.length := by omega
      obtain ⟨e0, e1, ef⟩ := (S1.out.bk 2 rfl).c2
      obtain ⟨z0, z1, zf⟩ := (S1.out.bk 3 rfl).c2
      go_wp2
      clear e0 e1 ef
      have SZ := (S1.out.boxSet 3 rfl 0 (.slice U p.acts.length cu)).boxSet 3 rfl 1 (.slice V p.acts.length cv)
      have SM := (SZ.pick 1 rfl).merge2
      refine bodyPost_ret (v := .agg #[.slice U p.acts.length cu, .slice V p.acts.length cv]) (by simp [results, Try.results30, go_sem, z0, z1]) rfl ⟨_, rfl, ⟨us, vs⟩, ⟨hul, hvl, hds.out⟩, _, (SM.own 0 rfl).1, (SM.own 0 rfl).2, SM.drw, wr_grown SM.wr⟩
end Go.Proofs.Ytilcfbffjjdgnaa
end

section
namespace Go.Proofs.Ytilcfbffjjdgnaa
open Go.RowKit Go.Shelf
set_option linter.unusedVariables false

theorem name_ne : ∀ i j : Nat, i < 6 → j < i → nameAt j ≠ nameAt i := by
  intro i j hi hj
  have h1 : i = 1 ∨ i = 2 ∨ i = 3 ∨ i = 4 ∨ i = 5 := by omega
  have h2 : j = 0 ∨ j = 1 ∨ j = 2 ∨ j = 3 ∨ j = 4 := by omega
  rcases h1 with rfl | rfl | rfl | rfl | rfl <;> rcases h2 with rfl | rfl | rfl | rfl | rfl <;> first | omega | decide
theorem drPj_own {most : Nat} {p : Pj} (h : DrPj most p) (h6 : most ≤ 6) : ownB p.acts = true := by
  have hn : ∀ i, (hi : i < p.acts.length) → p.acts[i].nm = nameAt i := fun i hi => (h.acts.2.2 i hi).1
  have hl := h.acts.2.1
  refine ownB_yes fun j hj => ?_
  exact ixB_at hj (fun k hk hkj => by
    rw [decide_eq_false_iff_not]
    intro e
    rw [hn k hk, hn j hj] at e
    exact name_ne j k (by omega) hkj e) (by rw [decide_eq_true_eq])
theorem drPj_ok {most : Nat} {p : Pj} (h : DrPj most p) (h6 : most ≤ 6) : pokB p = true := by
  have ha := h.acts
  have hr := h.ress
  have hk := h.stk
  have hl := h.lks
  have hd := h.dl
  unfold pokB
  rw [inB_yes (by omega), inB_yes (show (1 : Int) ≤ (p.acts.length : Int) ∧ (p.acts.length : Int) ≤ 6 by omega), drPj_own h h6,
    decide_eq_true (show (p.ress.length : Int) ≤ 3 by omega), decide_eq_true (show (p.stk.length : Int) ≤ 2 by have := hk.1; omega), decide_eq_true (show (p.lks.length : Int) ≤ 12 by omega)]
  rw [List.all_eq_true.2 (fun a haa => by
      obtain ⟨i, hi, rfl⟩ := List.getElem_of_mem haa
      exact (ha.2.2 i hi).ok (by omega)),
    List.all_eq_true.2 (fun r hrr => by
      obtain ⟨⟨h1, h2⟩, h3⟩ := hr.2.2 r hrr
      have hok := okP_iff.2 (h1.ok h2)
      unfold rokB
      rcases h3 with h3 | ⟨h3, h4⟩
      · rw [h3, hok]; rfl
      · rw [hok, List.all_eq_true.2 (fun row hrow => by
          unfold rowB
          rw [List.all_eq_true.2 (fun x hx => inB_yes (by have := (h4 row hrow).2 x hx; omega)), decide_eq_true (by have := (h4 row hrow).1; omega)]
          rfl)]
        simp [h3]),
    List.all_eq_true.2 (fun x hx => inB_yes (by have := hk.2 x hx; omega)),
    List.all_eq_true.2 (fun l hll => by
      obtain ⟨h1, h2, h3, h4, h5, h7, h8⟩ := hl.2 l hll
      unfold lokB
      rw [inB_yes (by omega), inB_yes (by omega), inB_yes (by omega), decide_eq_false h5]
      rfl)]
  rfl
theorem drSc_form {p : Pj} {s : Sc} (hp : pokB p = true) (h : DrSc p s) : formB p s = true := by
  refine form_yes hp h.h1 h.h2 fun a ha => good_yes ?_ ?_
  · have ha1 : a < s.st.length := by rw [h.h1]; exact ha
    rw [stA_at ha1]
    have := h.all.1 _ (List.getElem_mem ha1)
    omega
  · have ha2 : a < s.mo.length := by rw [h.h2]; exact ha
    rw [moA_at ha2]
    have := h.all.2 a ha2
    omega

set_option maxRecDepth 100000 in
set_option maxHeartbeats 8000000 in
theorem makeSched_any (p : Pj) (h6 : p.acts.length ≤ 6) (hms : ∀ i, (h : i < p.acts.length) → 1 ≤ p.acts[i].ms.length ∧ p.acts[i].ms.length ≤ 2) (A : Option Addr) (c : Nat) (bs : List Int) (v : Value) (w : World) (hr : Rd w (.slice A bs.length c) (bs.map (.int .u8))) (hu : ∀ b ∈ bs, 0 ≤ b ∧ b ≤ 255) (hl : bs.length ≤ 1048576) (hv : (trPj p).rd w v) :
    Calls Try.prog 9 #[.slice A bs.length c, v] w fun e w' => ∃ v s F, e = .returned v ∧ DrSc p s ∧ (trSc s).own w' w.heap.size v F ∧ F.Nodup ∧ Below w.heap.size w w' := by
  have HV := Lib.hid hv
  have HRU := Lib.hid (And.intro hr hu)
  have HMS := Lib.hid hms
  obtain ⟨A1, c1, A2, c2, A3, c3, A4, c4, rfl, _⟩ := rdProject_t hv
  have S0 := Lib.hid (((Sn.start w).box 28 [.int .i64 p.dl, .slice A1 p.acts.length c1, .slice A2 p.lks.length c2, .slice A3 p.ress.length c3, .slice A4 p.stk.length c4]).box 31 [.slice none 0 0, .slice none 0 0])
  simp only [World.size_alloc] at S0
  clear hr hu hv hms
  go_enter Try.func9, Try.ntmps9
  go_wp2_with fail
  generalize World.alloc (World.alloc w _) _ = W at S0 ⊢
  refine (new_any A c bs W (HRU.out.1.below S0.out.1 (Nat.le_refl _)) HRU.out.2 hl).mono ?_
  rintro e w1 ⟨rfl, hd, hb⟩
  have D1 := Lib.hid hd
  have S1 := Lib.hid (S0.out.go hb)
  obtain ⟨hh, hseed⟩ := hd.cur.seed
  have hf2 := hd.cur.fr.2
  have hlt := hd.cur.lt
  have K := Lib.hid (fun x => D1.out.step (D1.out.cur.setSeed x) (grown_set (World.grownBy.refl w1 (some W.heap.size)) ⟨W.heap.size, 2, none⟩ rfl (.int .i64 x)))
  obtain ⟨q0, q1, q2, q3, q4, qf⟩ := (S1.out.bk 1 rfl).c5
  have hl1 := (S0.out.bk 1 rfl).lt
  generalize W.heap.size = g at D1 K hseed hf2 hlt hl1 ⊢
  clear hd hb S1
  have hne : w.heap.size ≠ g := by omega
  go_wp2_with fail
  generalize hx : wrap64 (hh + 11) = x
  have K1 := Lib.hid (K.out x)
  clear hx K q0 q1 q2 q3 q4 qf hseed hf2 hlt hl1
  generalize World.setCell w1 _ _ = w2 at K1 ⊢
  refine (draw9_any p h6 HMS.out g A c bs W w2 K1.out _ (by exact S0.out.old HV.out)).mono ?_
  rintro e w3 ⟨v3, s, F, rfl, hds, ho, hn, hd3, hg3⟩
  have S3 := Lib.hid (S0.out.new (Tr.own_base K1.out.bel.size _ _ _ ho) hn hd3.bel)
  have HDS := Lib.hid hds
  obtain ⟨E1, f1, E2, f2, rfl, _⟩ := rdSchedule_t (S3.out.rd 0 rfl)
  clear ho hn hd3 hg3 hds K1 S0 D1
  obtain ⟨e0, e1, ef⟩ := (S3.out.bk 1 rfl).c2
  go_wp2
  have SZ := (S3.out.boxSet 1 rfl 0 (.slice E1 s.st.length f1)).boxSet 1 rfl 1 (.slice E2 s.mo.length f2)
  refine bodyPost_ret (v := .agg #[.slice E1 s.st.length f1, .slice E2 s.mo.length f2]) (by simp [results, Try.results9, go_sem, e0, e1]) rfl (by first | exact ⟨_, s, F, rfl, HDS.out, (SZ.own 0 rfl).1, (SZ.own 0 rfl).2, SZ.1⟩ | exact ⟨_, rfl, s, HDS.out, F, (SZ.own 0 rfl).1, (SZ.own 0 rfl).2, SZ.1⟩)
end Go.Proofs.Ytilcfbffjjdgnaa
end
