/- DERIVED. CONTRACTS: TopologicalOrder, of the program. -/
import Derived.Test.YtfdhoddooeedoaaGreatLkT
import Derived.Test.YtfdhoddooeedoaaGreatLkGg
namespace Go.Proofs.YtfdhoddooeedoaaGreat
open Go.RowKit Go.Shelf
set_option linter.unusedVariables false

set_option maxRecDepth 100000 in
set_option maxHeartbeats 8000000 in
theorem implTopological_any (p : Pj) (v : Value) (w : World) (hv : (trPj p).rd w v) (hk : (trPj p).ok) :
    Calls Tryz.prog 25 #[v] w fun e w' => ∃ u F, e = .returned (.tuple #[u, .bool (topoB p)]) ∧ (trI (topoL p)).own w' w.heap.size u F ∧ F.Nodup ∧ Below w.heap.size w w' := by
  have HV := Lib.hid hv
  obtain ⟨A1, c1, A2, c2, A3, c3, A4, c4, rfl, r1, r2, r3, r4⟩ := rdProject_t hv
  obtain ⟨hl2, B2, d2, he, g2⟩ := rdLinkS_t r2
  injection he with he _ he2
  subst he he2
  have G2 := Lib.hid g2
  clear hv r1 r2 r3 r4 g2
  have HK := Lib.hid hk
  clear hk G2 hl2
  obtain ⟨i0, hi0, hz0, hz1, hz2⟩ := info_parts infoInt
  have S0 := Lib.hid ((Sn.start w).box 34 [.int .i64 p.dl, .slice A1 p.acts.length c1, .slice A2 p.lks.length c2, .slice A3 p.ress.length c3, .slice A4 p.stk.length c4])
  go_enter Tryz.func25, Tryz.ntmps25
  obtain ⟨e0, e1, e2, e3, e4, ef⟩ := (S0.out.bk 0 rfl).c5
  go_wp2_with fail
  clear e0 e1 e2 e3 e4 ef
  refine (implProjectOk_any p _ _ (by exact S0.out.old HV.out) HK.out).mono ?_
  rintro e w1 ⟨rfl, b⟩
  have S1 := Lib.hid (S0.out.go b)
  clear S0 b
  rcases hok : pokB p with _ | _
  · have HT := Lib.hid (topo_bad hok)
    clear hok
    go_wp2
    have hnil : ∀ W : World, (trI (topoL p)).own W w.heap.size (.slice none 0 0) [] := fun W => by rw [topoL_no HT.out]; exact ⟨[], [], ⟨rfl, .inl ⟨rfl, rfl⟩⟩, ⟨rfl, rfl⟩, rfl⟩
    refine bodyPost_ret (v := .tuple #[.slice none 0 0, .bool false]) (by simp [results, Tryz.results25, go_sem]) rfl ?_
    first
      | exact ⟨.slice none 0 0, [], by rw [HT.out], hnil _, List.nodup_nil, S1.out.1⟩
      | exact ⟨.slice none 0 0, by rw [HT.out], [], hnil _, List.nodup_nil, S1.out.1⟩
  have HOK := Lib.hid hok
  have h6 := (pok_acts hok).1
  clear hok
  obtain ⟨e0, e1, e2, e3, e4, ef⟩ := (S1.out.bk 0 rfl).c5
  go_wp2_with fail
  clear e0 e1 e2 e3 e4 ef
  refine (implGaps_any p _ _ (by exact S1.out.old HV.out) HOK.out).mono ?_
  rintro e w2 ⟨ug, FG, rfl, og, hng, bg⟩
  have S2 := Lib.hid (S1.out.new og hng bg).nilI
  clear og hng bg S1
  obtain ⟨e0, e1, e2, e3, e4, ef⟩ := (S2.out.bk 2 rfl).c5
  go_wp2
  clear e0 e1 e2 e3 e4 ef
  go_loopw [5, 16] (fun u i wr => ∃ (k : Nat) (F : List Nat), k ≤ p.acts.length ∧ i = .int .i64 k ∧ (ordK p k).length = k ∧ Sn w wr [⟨trI (ordK p k), u, F⟩, ⟨trI (gapsL p), ug, FG⟩, boxI w.heap.size 34 [.int .i64 p.dl, .slice A1 p.acts.length c1, .slice A2 p.lks.length c2, .slice A3 p.ress.length c3, .slice A4 p.stk.length c4]]) (fun _ i _ => p.acts.length - (intOf i).toNat)
  case atStart => exact ⟨0, _, Nat.zero_le _, rfl, rfl, S2.out⟩
  case round =>
    obtain ⟨k, F, hkl, rfl, hle, hS⟩ := hrel
    have S3 := Lib.hid hS
    have HLE := Lib.hid hle
    clear hS S2 hle
    obtain ⟨U, cu, rfl⟩ := slice_ints (S3.out.rd 0 rfl)
    by_cases hlt : k < p.acts.length
    · have hlt' : (k : Int) < (p.acts.length : Int) := by omega
      obtain ⟨e0, e1, e2, e3, e4, ef⟩ := (S3.out.bk 2 rfl).c5
      go_wp2_with fail
      clear e0 e1 e2 e3 e4 ef
      refine (implFirst_any p (ordK p k) _ _ _ _ (by exact S3.out.old HV.out) (by exact rd_flat (S3.out.rd 1 rfl)) (by exact rd_flat (S3.out.rd 0 rfl)) HOK.out).mono ?_
      rintro e w5 ⟨rfl, b5⟩
      have S4 := Lib.hid (S3.out.go b5)
      clear b5 S3
      rcases hf : firstB p (ordK p k) with _ | a
      · have HT := Lib.hid (topo_stuck hlt hf)
        clear hf
        simp only [firstV]
        go_wp2
        have hnil : ∀ W : World, (trI (topoL p)).own W w.heap.size (.slice none 0 0) [] := fun W => by rw [topoL_no HT.out]; exact ⟨[], [], ⟨rfl, .inl ⟨rfl, rfl⟩⟩, ⟨rfl, rfl⟩, rfl⟩
        refine bodyPost_ret (v := .tuple #[.slice none 0 0, .bool false]) (by simp [results, Tryz.results25, go_sem]) rfl ?_
        first
          | exact ⟨.slice none 0 0, [], by rw [HT.out], hnil _, List.nodup_nil, S4.out.1⟩
          | exact ⟨.slice none 0 0, by rw [HT.out], [], hnil _, List.nodup_nil, S4.out.1⟩
      · have HO := Lib.hid (ordK_some hf)
        clear hf
        simp only [firstV]
        have hle2 := HLE.out
        generalize ordK p k = D at S4 HO hle2 ⊢
        have HLE2 := Lib.hid hle2
        have hol : D.length ≤ 6 := by omega
        clear hle2
        have OW := Lib.hid S4.out.ownRI
        have hz := S4.out.1.size
        go_wp2_with (first | (at_builtin; refine wpList_append_own_at _ rfl (.tmp 27) (.tmp 29) 25 rfl w.heap.size 3 i0 (.int .i64 0) 1 8 Tryz.underlying25 hi0 hz0 hz1 hz2 rfl (by decide) (.slice U D.length cu) D.length (D.map (.int .i64)) rfl (by exact OW.out.alloc _) ⟨w5.heap.size, 0, none⟩ 1 1 [.int .i64 (a : Int)] rfl rfl ?c1 ?c2 ?c3 ?c4 ?c5 ?_))
        try case c1 => exact one_cell _ _ _
        case c2 => simp [Value.oneCell']
        case c3 => unfold maxLen; omega
        case c4 => omega
        case c5 => first | omega | (simp; omega)
        intro v' w8 hown8 hg8 _ hat8
        obtain ⟨F9, h9⟩ := S4.out.appI2 hown8 hg8 (by simpa using hat8)
        have S9 := Lib.hid h9
        clear hown8 hg8 hat8 h9 OW S4
        go_wp2
        go_roundw
        case rel => exact ⟨k + 1, _, by omega, by go_num, by rw [HO.out, List.length_append, HLE2.out]; rfl, by rw [HO.out]; exact S9.out⟩
        case measure => simp [intOf]; omega
    · have hge : ¬ (k : Int) < (p.acts.length : Int) := by omega
      obtain rfl : k = p.acts.length := by omega
      have HT := Lib.hid (show topoB p = true by rw [topoB, HOK.out, decide_eq_true HLE.out]; rfl)
      have HL := Lib.hid (show topoL p = ordK p p.acts.length by rw [topoL, if_pos HT.out])
      go_wp2
      refine bodyPost_ret (v := .tuple #[.slice U (ordK p p.acts.length).length cu, .bool true]) (by simp [results, Tryz.results25, go_sem]) rfl ?_
      first
        | exact ⟨.slice U (ordK p p.acts.length).length cu, _, by rw [HT.out], by rw [HL.out]; exact (S3.out.own 0 rfl).1, (S3.out.own 0 rfl).2, S3.out.1⟩
        | exact ⟨.slice U (ordK p p.acts.length).length cu, by rw [HT.out], _, by rw [HL.out]; exact (S3.out.own 0 rfl).1, (S3.out.own 0 rfl).2, S3.out.1⟩

end Go.Proofs.YtfdhoddooeedoaaGreat
