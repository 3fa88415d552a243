/- DERIVED. CONTRACTS of chapter 10: ParseSchedule of the model. -/
import Derived.Test.YtcoheknnkdmdiabGreatDoorScR
namespace Go.Proofs.YtcoheknnkdmdiabGreatDoor
open Go.RowKit Go.Shelf
set_option linter.unusedVariables false

theorem Sn.appVs {w0 W w6 : World} {L : List Item} {e : TypeId} {xs rs : List Value} {v v' : Value} {F : List Nat} {n : Nat} {o : Obj}
    (h : Sn w0 W (⟨flat e xs, v, F⟩ :: L)) (hown : w6.ownsRow w0.heap.size e 1 v' n (xs ++ rs))
    (hg : (W.alloc o).grownBy w6 v.ownBlock) (hat : v'.ownBlock = v.ownBlock ∨ v'.ownBlock = some (W.heap.size + 1)) : ∃ F', Sn w0 w6 (⟨flat e (xs ++ rs), v', F'⟩ :: L) := by
  have h1 := h.go ((Below.refl W.heap.size W).alloc (Nat.le_refl _) o)
  have hF : F = v.ownBlock.toList := (own_flat h1.2.1).2
  have hw : Wr F (W.alloc o) w6 := hF ▸ Wr.of_grown hg
  refine ⟨_, h1.turn (t' := flat e (xs ++ rs)) (flat_own hown).1 (flat_own hown).2 (fun k hk => ?_) hw⟩
  rcases hat with h2 | h2
  · left; show k ∈ F; rw [hF, ← h2]; exact hk
  · right
    rw [h2] at hk
    simp at hk
    rw [World.size_alloc]; omega
theorem two_cells (w : World) (x y : Value) (t : TypeId) : ∀ j u, [x, y][j]? = some u → (w.alloc (.cells #[x, y] t)).cell? ((⟨w.heap.size, 0, none⟩ : Addr).add j) = some u := fun j u h => by
  obtain ⟨c0, c1, _⟩ := (Bk.new w t #[x, y]).c2
  have hj : j < 2 := by simpa using (List.getElem?_eq_some_iff.1 h).1
  rcases (by omega : j = 0 ∨ j = 1) with rfl | rfl
  · rw [show (⟨w.heap.size, 0, none⟩ : Addr).add 0 = ⟨w.heap.size, 0, none⟩ from by simp [Addr.add], c0]
    exact h
  · rw [show (⟨w.heap.size, 0, none⟩ : Addr).add 1 = ⟨w.heap.size, 1, none⟩ from by simp [Addr.add], c1]
    exact h

set_option maxRecDepth 100000 in
set_option maxHeartbeats 8000000 in
theorem specParseSchedule_any (p : Pj) (x : ByteArray) (v : Value) (w : World) (hv : (trPj p).rd w v) (hk : (trPj p).ok) (hx : x.size ≤ 1048576) :
    Calls Tryz.prog 13 #[v, .string x] w fun e w' => ∃ u F, e = .returned (.tuple #[u, .bool (okPS p x)]) ∧ (trSc (resPS p x)).own w' w.heap.size u F ∧ F.Nodup ∧ Below w.heap.size w w' := by
  have HK := Lib.hid hk
  have HV := Lib.hid hv
  obtain ⟨A1, c1, A2, c2, A3, c3, A4, c4, rfl, _⟩ := rdProject_t hv
  have S0 := Lib.hid ((((Sn.start w).box 37 [.int .i64 p.dl, .slice A1 p.acts.length c1, .slice A2 p.lks.length c2, .slice A3 p.ress.length c3, .slice A4 p.stk.length c4]).box 39 [.slice none 0 0, .slice none 0 0]).box 39 [.slice none 0 0, .slice none 0 0])
  simp only [World.size_alloc] at S0
  clear hk hv
  have hW := splitB_len x spS
  have HSZ := Lib.hid (split_size x spS)
  have HOK := Lib.hid (show okPS p x = (decide (fmtScB p (prsS x) ≠ ⟨#[]⟩) && decide (fmtScB p (prsS x) = x)) from rfl)
  have HPS := Lib.hid (show prsS x = ⟨(splitB x spS).map stP, (splitB x spS).map moP⟩ from rfl)
  go_enter Tryz.func13, Tryz.ntmps13
  go_wp2_with fail
  refine (specSplitAny_any x ⟨#[32]⟩ _ (by omega) (by decide)).mono ?_
  rintro e w1 ⟨v1, rfl, ho, b⟩
  rw [show splitB x ⟨#[32]⟩ = splitB x spS from rfl] at ho
  have S1 := Lib.hid ((S0.out.newI ho b).nilI.nilI)
  obtain ⟨_, V, cv, rfl, _⟩ := rd_flat (S1.out.rd 2 rfl)
  clear ho b S0
  rw [List.length_map] at S1 ⊢
  generalize splitB x spS = W at S1 hW HPS HSZ ⊢
  have hn2 : W.length ≤ 1048577 := by omega
  obtain ⟨i0, hi0, hz0, hz1, hz2⟩ := info_parts infoInt
  obtain ⟨i1, hj0, hy0, hy1, hy2⟩ := info_parts infoString
  clear hW
  generalize hFv : (Value.slice V W.length cv).ownBlock.toList = Fv at S1
  clear hFv
  go_wp2
  go_loopw [18] (fun i wr => ∃ (k : Nat) (U1 U2 : Option Addr) (d1 d2 : Nat) (F1 F2 : List Nat), k ≤ W.length ∧ i = .int .i64 k ∧ Sn w wr [⟨trI ((W.take k).map stP), .slice U1 k d1, F1⟩, ⟨trI ((W.take k).map moP), .slice U2 k d2, F2⟩, ⟨flat 9 (W.map .string), .slice V W.length cv, Fv⟩, boxI (w.heap.size + 1 + 1) 39 [.slice U1 k d1, .slice U2 k d2], boxI (w.heap.size + 1) 39 [.slice none 0 0, .slice none 0 0], boxI w.heap.size 37 [.int .i64 p.dl, .slice A1 p.acts.length c1, .slice A2 p.lks.length c2, .slice A3 p.ress.length c3, .slice A4 p.stk.length c4]]) (fun i _ => W.length - (intOf i).toNat)
  case atStart => exact ⟨0, none, none, 0, 0, _, _, Nat.zero_le _, rfl, S1.out⟩
  case round =>
    obtain ⟨k, U1, U2, d1, d2, F1, F2, hkl, rfl, hS⟩ := hrel
    have S3 := Lib.hid hS
    clear hS S1
    by_cases hlt : k < W.length
    · have hlt' : (k : Int) < (W.length : Int) := by omega
      have k0 : (0 : Int) ≤ (k : Int) := by omega
      have HC := Lib.hid (rd_flat (S3.out.rd 2 rfl))
      obtain ⟨_, V2, cv2, he, hcc⟩ := HC.out
      injection he with he hlen he2
      subst he he2
      clear hlen
      rcases hcc with hcc | ⟨bb, o, rfl, hbb, hcc⟩
      · rw [List.map_eq_nil_iff] at hcc; rw [hcc] at hlt; simp at hlt
      have yk := hcc k (by rw [List.length_map]; exact hlt)
      rw [List.getElem_map] at yk
      have hsz := HSZ.out _ (List.getElem_mem hlt)
      have HT1 := Lib.hid (show (W.take (k + 1)).map stP = (W.take k).map stP ++ [stP W[k]] from by rw [List.take_add_one, List.getElem?_eq_getElem hlt, List.map_append]; rfl)
      have HT2 := Lib.hid (show (W.take (k + 1)).map moP = (W.take k).map moP ++ [moP W[k]] from by rw [List.take_add_one, List.getElem?_eq_getElem hlt, List.map_append]; rfl)
      have hl1 : ((W.take k).map stP).length = k := by simp; omega
      have hl2 : ((W.take k).map moP).length = k := by simp; omega
      have HL1 := Lib.hid hl1
      have HL2 := Lib.hid hl2
      generalize W[k] = y at yk hsz HT1 HT2
      generalize (W.take k).map stP = us at S3 HT1 HL1
      generalize (W.take k).map moP = vs at S3 HT2 HL2
      clear hcc HC hl1 hl2
      go_wp2_with fail
      clear yk
      refine (specSplitAny_any y sep2 _ (by omega) (by decide)).mono ?_
      rintro e w3 ⟨v3, rfl, ho, b⟩
      have S4 := Lib.hid (S3.out.newI ho b)
      obtain ⟨_, R, cr, rfl, _⟩ := rd_flat (S4.out.rd 0 rfl)
      rw [List.length_map] at S4 ho ⊢
      have hpl := splitB_len y sep2
      have HOW := Lib.hid (show w3.ownsRow w.heap.size 9 1 (.slice R (splitB y sep2).length cr) (splitB y sep2).length ((splitB y sep2).map .string) from by have := (own_flat (S4.out.own 0 rfl).1).1; rw [List.length_map] at this; exact this)
      have HP1 := Lib.hid (show ((splitB y sep2).map Value.string ++ [.string ⟨#[]⟩, .string ⟨#[]⟩])[1]? = some (.string (pt y 1)) from by
        unfold pt
        generalize splitB y sep2 = l at hpl
        rcases l with _ | ⟨a, _ | ⟨b, _ | ⟨c, l⟩⟩⟩ <;> first | rfl | (simp at hpl))
      have HP2 := Lib.hid (show ((splitB y sep2).map Value.string ++ [.string ⟨#[]⟩, .string ⟨#[]⟩])[2]? = some (.string (pt y 2)) from by
        unfold pt
        generalize splitB y sep2 = l at hpl
        rcases l with _ | ⟨a, _ | ⟨b, _ | ⟨c, l⟩⟩⟩ <;> first | rfl | (simp at hpl))
      have hp1 := pt_size y 1
      have hp2 := pt_size y 2
      have HS1 := Lib.hid (show stP y = (parseB (pt y 1)).1 from rfl)
      have HS2 := Lib.hid (show moP y = (parseB (pt y 2)).1 from rfl)
      clear ho b S3
      generalize pt y 1 = p1 at HP1 hp1 HS1
      generalize pt y 2 = p2 at HP2 hp2 HS2
      generalize (splitB y sep2) = ls at S4 hpl HOW HP1 HP2 ⊢
      have hz := S4.out.1.size
      go_wp2_with (first | (at_builtin; go_loud (refine wpList_append_own_at _ rfl (.tmp 23) (.tmp 24) 54 rfl w.heap.size 9 i1 (.string ⟨#[]⟩) 1 16 Tryz.underlying54 hj0 hy0 hy1 hy2 rfl (by decide) (.slice R ls.length cr) ls.length (ls.map .string) rfl (by exact HOW.out.alloc _) ⟨w3.heap.size, 0, none⟩ 2 2 [.string ⟨#[]⟩, .string ⟨#[]⟩] rfl rfl ?c1 ?c2 ?c3 ?c4 ?c5 ?_)) | fail)
      try case c1 => exact two_cells _ _ _ _
      case c2 => simp [Value.oneCell']
      case c3 => unfold maxLen; omega
      case c4 => omega
      case c5 => first | omega | (simp; omega)
      intro v' w4 hown4 hg4 _ hat4
      obtain ⟨F9, h9⟩ := S4.out.appVs hown4 hg4 (by simpa using hat4)
      have S5 := Lib.hid h9
      clear hown4 hg4 hat4 h9 HOW S4
      obtain ⟨_, R2, cr2, rfl, hrc⟩ := rd_flat (S5.out.rd 0 rfl)
      rw [List.length_append, List.length_map] at S5 ⊢
      rcases hrc with hrc | ⟨rb, ro, rfl, hrb, hrc⟩
      · simp at hrc
      have hlenl : 1 < (ls.map Value.string ++ [Value.string ⟨#[]⟩, Value.string ⟨#[]⟩]).length := by simp
      have hlenm : 2 < (ls.map Value.string ++ [Value.string ⟨#[]⟩, Value.string ⟨#[]⟩]).length := by simp; omega
      have r1 := (hrc 1 hlenl).trans ((List.getElem?_eq_getElem hlenl).symm.trans HP1.out)
      have r2 := (hrc 2 hlenm).trans ((List.getElem?_eq_getElem hlenm).symm.trans HP2.out)
      have hb1 : (1 : Int) < ((ls.length + [Value.string ⟨#[]⟩, .string ⟨#[]⟩].length : Nat) : Int) := by simp; omega
      have hb2 : (2 : Int) < ((ls.length + [Value.string ⟨#[]⟩, .string ⟨#[]⟩].length : Nat) : Int) := by simp; omega
      generalize ls.length + [Value.string ⟨#[]⟩, .string ⟨#[]⟩].length = nl at S5 hb1 hb2 ⊢
      clear hrc HP1 HP2 hlenl hlenm hpl
      go_wp2_with fail
      refine (specParse_any p1 _ (by unfold maxLen; omega)).mono ?_
      rintro e w5 ⟨rfl, b5⟩
      have S6 := Lib.hid (S5.out.go b5)
      have r2' := (b5.cell (p := ⟨rb, ro + 2, none⟩) hrb).trans r2
      clear r1 r2 S5 b5
      go_wp2_with fail
      clear r2'
      refine (specParse_any p2 _ (by unfold maxLen; omega)).mono ?_
      rintro e w6 ⟨rfl, b6⟩
      have S7 := Lib.hid ((S6.out.go b6).drop 0)
      simp only [List.eraseIdx_cons_zero] at S7
      clear S6 b6 hrb
      rw [← HS1.out, ← HS2.out]
      generalize stP y = sa at HT1 ⊢
      generalize moP y = sb at HT2 ⊢
      have OW := Lib.hid (show w6.ownsRow w.heap.size 3 1 (.slice U1 k d1) k (us.map (.int .i64)) from by have := S7.out.ownRI; rwa [HL1.out] at this)
      obtain ⟨q0, q1, qf⟩ := (S7.out.bk 3 rfl).c2
      have hz6 := S7.out.1.size
      go_wp2_with (first | (at_builtin; go_loud (refine wpList_append_own_at _ rfl (.tmp 41) (.tmp 43) 25 rfl w.heap.size 3 i0 (.int .i64 0) 1 8 Tryz.underlying25 hi0 hz0 hz1 hz2 rfl (by decide) (.slice U1 k d1) k (us.map (.int .i64)) rfl (by exact OW.out.alloc _) ⟨w6.heap.size, 0, none⟩ 1 1 [.int .i64 sa] rfl rfl ?c1 ?c2 ?c3 ?c4 ?c5 ?_)) | fail)
      try case c1 => exact one_cell _ _ _
      case c2 => simp [Value.oneCell']
      case c3 => unfold maxLen; omega
      case c4 => omega
      case c5 => first | omega | (simp; omega)
      intro v'' w7 hown7 hg7 _ hat7
      obtain ⟨G9, h9⟩ := S7.out.appI2 hown7 hg7 (by simpa using hat7)
      have S8 := Lib.hid h9
      clear hown7 hg7 hat7 h9 OW S7
      clear q0 q1 qf
      obtain ⟨Z1, z1, rfl⟩ := slice_ints (S8.out.rd 0 rfl)
      rw [List.length_append, HL1.out, List.length_singleton] at S8 ⊢
      obtain ⟨q0, q1, qf⟩ := (S8.out.bk 3 rfl).c2
      have S9 := Lib.hid ((S8.out.boxSet 3 rfl 0 (.slice Z1 (k + 1) z1)).pick 1 rfl)
      simp only [List.set_cons_succ, List.set_cons_zero, List.eraseIdx_cons_succ, List.eraseIdx_cons_zero] at S9
      have OW := Lib.hid (show (World.setCell w7 ⟨w.heap.size + 1 + 1, 0, none⟩ (.slice Z1 (k + 1) z1)).ownsRow w.heap.size 3 1 (.slice U2 k d2) k (vs.map (.int .i64)) from by have := S9.out.ownRI; rwa [HL2.out] at this)
      have hz7 : w.heap.size ≤ w7.heap.size := by have := S9.out.1.size; simpa using this
      clear S8
      go_wp2_with (first | (at_builtin; go_loud (refine wpList_append_own_at _ rfl (.tmp 47) (.tmp 49) 25 rfl w.heap.size 3 i0 (.int .i64 0) 1 8 Tryz.underlying25 hi0 hz0 hz1 hz2 rfl (by decide) (.slice U2 k d2) k (vs.map (.int .i64)) rfl (by exact OW.out.alloc _) ⟨w7.heap.size, 0, none⟩ 1 1 [.int .i64 sb] rfl rfl ?c1 ?c2 ?c3 ?c4 ?c5 ?_)) | fail)
      try case c1 =>
        have h1 := one_cell (World.setCell w7 ⟨w.heap.size + 1 + 1, 0, none⟩ (.slice Z1 (k + 1) z1)) (.int .i64 sb) 3
        intro j u hu
        have h2 := h1 j u hu
        simpa using h2
      case c2 => simp [Value.oneCell']
      case c3 => unfold maxLen; omega
      case c4 => omega
      case c5 => first | omega | (simp; omega)
      intro v3 w8 hown8 hg8 _ hat8
      obtain ⟨H9, h9⟩ := S9.out.appI2 hown8 hg8 (by simpa using hat8)
      have S10 := Lib.hid h9
      clear hown8 hg8 hat8 h9 OW S9
      clear q0 q1 qf
      obtain ⟨Z2, z2, rfl⟩ := slice_ints (S10.out.rd 0 rfl)
      rw [List.length_append, HL2.out, List.length_singleton] at S10 ⊢
      obtain ⟨q0, q1, qf⟩ := (S10.out.bk 3 rfl).c2
      have S11 := Lib.hid ((S10.out.boxSet 3 rfl 1 (.slice Z2 (k + 1) z2)).pick 1 rfl)
      simp only [List.set_cons_succ, List.set_cons_zero, List.eraseIdx_cons_succ, List.eraseIdx_cons_zero] at S11
      rw [← HT1.out, ← HT2.out] at S11
      clear S10
      go_wp2
      go_roundw
      case rel => exact ⟨k + 1, Z1, Z2, z1, z2, _, _, by omega, by go_num, S11.out⟩
      case measure => simp [intOf]; omega
    · have hge : ¬ (k : Int) < (W.length : Int) := by omega
      obtain rfl : k = W.length := by omega
      rw [List.take_length] at S3
      obtain ⟨e0, e1, e2, e3, e4, ef⟩ := (S3.out.bk 5 rfl).c5
      obtain ⟨q0, q1, qf⟩ := (S3.out.bk 3 rfl).c2
      have HSR := Lib.hid (show ∀ W2, Below wr.heap.size wr W2 → (trSc (prsS x)).rd W2 (.agg #[.slice U1 W.length d1, .slice U2 W.length d2]) from fun W2 hb => by
        rw [HPS.out]
        have h1 := Tr.rd_below hb (Nat.le_refl _) _ _ (S3.out.rd 0 rfl)
        have h2 := Tr.rd_below hb (Nat.le_refl _) _ _ (S3.out.rd 1 rfl)
        have := mk_rdSchedule_t (d := ⟨W.map stP, W.map moP⟩) h1 h2
        exact this)
      go_wp2_with fail
      clear e0 e1 e2 e3 e4 ef
      clear q0 q1 qf
      refine (specFormatSchedule_any p (prsS x) _ _ _ (by exact S3.out.old HV.out) HK.out (by exact HSR.out _ (Below.refl _ _))).mono ?_
      rintro e w6 ⟨rfl, b6⟩
      have S6 := Lib.hid (S3.out.go b6)
      have HSR2 := Lib.hid (HSR.out _ b6)
      clear S3 b6 HSR
      have HB6 := Lib.hid HV.out
      by_cases he : fmtScB p (prsS x) = ⟨#[]⟩
      · have HR := Lib.hid (show okPS p x = false from by rw [HOK.out]; simp [he])
        have HR2 := Lib.hid (resPS_no HR.out)
        have hem := emp he
        obtain ⟨q0, q1, qf⟩ := (S6.out.bk 4 rfl).c2
        clear he
        generalize fmtScB p (prsS x) = f at hem ⊢
        go_wp2
        have SZ := (S6.out.boxSet 4 rfl 0 (.slice none 0 0)).boxSet 4 rfl 1 (.slice none 0 0)
        refine bodyPost_ret (v := .tuple #[.agg #[.slice none 0 0, .slice none 0 0], .bool false]) (by simp [results, Tryz.results13, go_sem, q0, q1]) rfl ⟨_, [], by rw [HR.out], by rw [HR2.out]; exact sc_nil _ _ SZ.1.size, List.nodup_nil, SZ.1⟩
      have hem := str_some he
      obtain ⟨e0, e1, e2, e3, e4, ef⟩ := (S6.out.bk 5 rfl).c5
      obtain ⟨q0, q1, qf⟩ := (S6.out.bk 3 rfl).c2
      have HE := Lib.hid he
      clear he
      generalize hf0 : fmtScB p (prsS x) = f at hem HE ⊢
      have HF0 := Lib.hid hf0
      clear hf0
      go_wp2_with fail
      clear e0 e1 e2 e3 e4 ef
      clear q0 q1 qf
      refine (specFormatSchedule_any p (prsS x) _ _ _ (by exact S6.out.old HV.out) HK.out (by exact HSR2.out)).mono ?_
      rintro e w7 ⟨rfl, b7⟩
      have S7 := Lib.hid (S6.out.go b7)
      clear S6 b7 HSR2
      rw [HF0.out]
      obtain ⟨q0, q1, qf⟩ := (S7.out.bk 4 rfl).c2
      by_cases hf : f = x
      rotate_left
      · have HR := Lib.hid (show okPS p x = false from by rw [HOK.out, HF0.out]; simp [hf])
        have HR2 := Lib.hid (resPS_no HR.out)
        have hne := str_ne hf
        clear hf
        go_wp2
        have SZ := (S7.out.boxSet 4 rfl 0 (.slice none 0 0)).boxSet 4 rfl 1 (.slice none 0 0)
        refine bodyPost_ret (v := .tuple #[.agg #[.slice none 0 0, .slice none 0 0], .bool false]) (by simp [results, Tryz.results13, go_sem, q0, q1]) rfl ⟨_, [], by rw [HR.out], by rw [HR2.out]; exact sc_nil _ _ SZ.1.size, List.nodup_nil, SZ.1⟩
      have HR := Lib.hid (show okPS p x = true from by rw [HOK.out, HF0.out]; simp [hf]; rw [← hf]; exact HE.out)
      have HR2 := Lib.hid (resPS_yes HR.out)
      obtain ⟨g0, g1, gf⟩ := (S7.out.bk 3 rfl).c2
      subst hf
      go_wp2
      have SZ := (S7.out.boxSet 4 rfl 0 (.slice U1 W.length d1)).boxSet 4 rfl 1 (.slice U2 W.length d2)
      have P := SZ.nil0
      have P := (P.pick 2 rfl).pack
      have P := (P.pick 1 rfl).pack
      refine bodyPost_ret (v := .tuple #[.agg #[.slice U1 W.length d1, .slice U2 W.length d2], .bool true]) (by simp [results, Tryz.results13, go_sem, q0, q1]) rfl ⟨_, _, by rw [HR.out], by rw [HR2.out, HPS.out]; exact (P.own 0 rfl).1, (P.own 0 rfl).2, P.1⟩

theorem resPS_sz (p : Pj) (x : ByteArray) : (trSc (resPS p x)).sz ≤ 12 := by
  have hs : ∀ s : Sc, (trSc s).sz = s.st.length + (s.mo.length + 0) := fun s => by
    show (trI s.st).sz + ((trI s.mo).sz + 0) = _
    rw [trI_sz, trI_sz]
  rw [hs]
  rcases h : okPS p x with _ | _
  · rw [resPS_no h]; simp
  · rw [resPS_yes h]
    have h2 := h
    simp only [okPS, Bool.and_eq_true, decide_eq_true_eq] at h2
    rcases hf : formB p (prsS x) with _ | _
    · exact absurd (fmtSc_bad hf) h2.1
    · have f := form_of hf
      have := f.h1
      have := f.h2
      have := f.n6
      omega
end Go.Proofs.YtcoheknnkdmdiabGreatDoor
