/- DERIVED. CONTRACT: the program's Distances. -/
import Derived.Test.YtoggakfkpeloiaaGreatDsJ
import Derived.Test.YtoggakfkpeloiaaGreatDsP
import Derived.Test.YtoggakfkpeloiaaGreatShelf
namespace Go.Proofs.YtoggakfkpeloiaaGreat
open Go.RowKit Go.Shelf
set_option linter.unusedVariables false

section
variable {w0 W : World} {L : List Item}
/-- A tree among the state's put into a place of a row of the state's. -/
theorem Sn.putRow {t' : Tr} {x' : Value} {H' F : List Nat} {e : TypeId} {s n g cap i : Nat} {cs : List Tr} (h : Sn w0 W (⟨t', x', H'⟩ :: ⟨.row e s n cs, .slice (some ⟨g, 0, none⟩) n cap, F⟩ :: L)) (hi : i < cs.length) :
    ∃ F', Sn w0 (W.setCell ⟨g, i, none⟩ x') (⟨.row e s n (cs.set i t'), .slice (some ⟨g, 0, none⟩) n cap, F'⟩ :: L) := by
  have h1 := h.own 0 rfl
  have h2 := h.own 1 rfl
  have hra : RowAt W w0.heap.size e s n g cap cs F := ⟨h2.1, h2.2⟩
  have hap := h.2.apart (i := 0) (j := 1) rfl rfl (by omega)
  obtain ⟨F', r, rs⟩ := hra.put hi h1.1 h1.2 (fun k hk => hap k hk)
  refine ⟨F', h.merge2.turn (t' := .row e s n (cs.set i t')) r.1 r.2 (fun k hk => .inl ?_) (Wr.setCell W ⟨g, i, none⟩ ?_ x')⟩
  · show k ∈ F ++ (H' ++ [])
    rw [List.append_nil]
    exact List.mem_append.2 (rs k hk)
  · show g ∈ F ++ (H' ++ [])
    exact List.mem_append.2 (.inl hra.mem)
end

set_option maxRecDepth 100000 in
set_option maxHeartbeats 8000000 in
theorem implDistances_any (p : Pj) (v : Value) (w : World) (hv : (trPj p).rd w v) (hk : (trPj p).ok) :
    Calls Tryz.prog 13 #[v] w fun e w' => ∃ u F, e = .returned u ∧ (trSu (distL p)).own w' w.heap.size u F ∧ F.Nodup ∧ Below w.heap.size w w' := by
  have HV := Lib.hid hv
  obtain ⟨A1, c1, A2, c2, A3, c3, A4, c4, rfl, r1, r2, r3, r4⟩ := rdProject_t hv
  clear hv r1 r2 r3 r4
  have HK := Lib.hid hk
  clear hk
  have S0 := Lib.hid ((Sn.start w).box 35 [.int .i64 p.dl, .slice A1 p.acts.length c1, .slice A2 p.lks.length c2, .slice A3 p.ress.length c3, .slice A4 p.stk.length c4])
  go_enter Tryz.func13, Tryz.ntmps13
  obtain ⟨e0, e1, e2, e3, e4, ef⟩ := (S0.out.bk 0 rfl).c5
  go_wp2_with fail
  clear e0 e1 e2 e3 e4 ef
  refine (timing_any p _ _ (by exact S0.out.old HV.out) HK.out).mono ?_
  rintro e w1 ⟨N, T, d, rfl, hN, b⟩
  have S1 := Lib.hid (S0.out.go b)
  have HN := Lib.hid hN
  have hW := bk_whole (vs := timC N T d) (Bk.new w1 59 ⟨timC 0 zT zD⟩) (by simp only [timC_len])
  have S2 := Lib.hid ((S1.out.box 59 (timC 0 zT zD)).boxWr 0 rfl hW.1 hW.2)
  simp only [List.set_cons_zero] at S2
  clear hW S0 S1 b hN
  rcases hok : okD p with _ | _
  · have HS := Lib.hid (dist_no hok)
    clear hok
    go_wp2_with (first | ((refine wpList_store_mid rfl 59 _ _ rfl (w1.heap.size) 0 ⟨timC N T d⟩ rfl rfl (bk_there (Bk.new w1 59 ⟨timC 0 zT zD⟩) (by simp [timC_len])) (timC_info N T d) (oneAll N T d) ?_); change wpList _ _ _ _ _ ((w1.alloc (.cells ⟨timC 0 zT zD⟩ 59)).setCells w1.heap.size 0 (timC N T d)); generalize (w1.alloc (.cells ⟨timC 0 zT zD⟩ 59)).setCells w1.heap.size 0 (timC N T d) = w2 at S2 ⊢; generalize w1.heap.size = g at S2 ⊢; have x0 := (S2.out.bk 0 rfl).tim.1) | (refine wpList_load_mid rfl 59 _ rfl (g) 0 rfl (timC N T d) _ (bk_range (S2.out.bk 0 rfl)) Tryz.underlying59 rfl (timC_info N T d) ?_) | fail)
    go_ret
    have hnil : ∀ W : World, (trSu (distL p)).own W w.heap.size (.slice none 0 0) [] := fun W => by rw [HS.out]; exact ⟨[], [], ⟨rfl, .inl ⟨rfl, rfl⟩⟩, ⟨rfl, rfl⟩, rfl⟩
    first
      | exact ⟨[], hnil _, List.nodup_nil, S2.out.1⟩
      | exact ⟨.slice none 0 0, [], rfl, hnil _, List.nodup_nil, S2.out.1⟩
      | exact ⟨.slice none 0 0, rfl, [], hnil _, List.nodup_nil, S2.out.1⟩
  obtain ⟨rfl, rfl, rfl⟩ := HN.out hok
  have HS := Lib.hid (dist_yes hok)
  have h6 := (pok_acts (okD_pok hok)).1
  obtain ⟨i0, hi, hz0, hz1, hz2⟩ := info_parts infoInt_t
  clear hok HN
  go_wp2_with (first | (at_make; refine wpList_make_full _ rfl _ _ 29 rfl w2.heap.size 25 i0 (.slice none 0 0) 1 Tryz.underlying29 hi hz0 hz1 .i64 .i64 _ _ p.acts.length rfl rfl rfl rfl (by rw [hz2]; omega) (by unfold maxLen; omega) (Nat.le_refl _) ?_; intro w3 hown3 hgrow3; have hml := hown3.1; have S3 := Lib.hid (S2.out.new (row_made hown3).1 (row_made hown3).2 ((Below.refl _ _).grown hgrow3 (Nat.le_refl _) (by simp))); clear hown3 hgrow3 x0) | (first | ((refine wpList_store_mid rfl 59 _ _ rfl (w1.heap.size) 0 ⟨timC p.acts.length (distT p) (shortA p)⟩ rfl rfl (bk_there (Bk.new w1 59 ⟨timC 0 zT zD⟩) (by simp [timC_len])) (timC_info p.acts.length (distT p) (shortA p)) (oneAll p.acts.length (distT p) (shortA p)) ?_); change wpList _ _ _ _ _ ((w1.alloc (.cells ⟨timC 0 zT zD⟩ 59)).setCells w1.heap.size 0 (timC p.acts.length (distT p) (shortA p))); generalize (w1.alloc (.cells ⟨timC 0 zT zD⟩ 59)).setCells w1.heap.size 0 (timC p.acts.length (distT p) (shortA p)) = w2 at S2 ⊢; generalize w1.heap.size = g at S2 ⊢; have x0 := (S2.out.bk 0 rfl).tim.1) | (refine wpList_load_mid rfl 59 _ rfl (g) 0 rfl (timC p.acts.length (distT p) (shortA p)) _ (bk_range (S2.out.bk 0 rfl)) Tryz.underlying59 rfl (timC_info p.acts.length (distT p) (shortA p)) ?_) | fail))
  generalize hms : (madeCells _ (p.acts.length * 1)).toList = raw at S3 hml
  have HM := Lib.hid (show raw.length = (tabL p.acts.length (distT p)).length * 1 by rw [hml, tabL_len])
  have hll := tabL_len p.acts.length (distT p)
  generalize w2.heap.size = go at S3 ⊢
  clear hml hms S2
  go_loopw [19] (fun i wr => ∃ (k : Nat) (F : List Nat), k ≤ p.acts.length ∧ i = .int .i64 k ∧ Sn w wr [⟨.row 25 1 p.acts.length (mixR cellsI1 1 raw (tabL p.acts.length (distT p)) k), .slice (some ⟨go, 0, none⟩) p.acts.length p.acts.length, F⟩, boxI g 59 (timC p.acts.length (distT p) (shortA p)), boxI w.heap.size 35 [.int .i64 p.dl, .slice A1 p.acts.length c1, .slice A2 p.lks.length c2, .slice A3 p.ress.length c3, .slice A4 p.stk.length c4]]) (fun i _ => p.acts.length - (intOf i).toNat)
  case atStart => exact ⟨0, _, Nat.zero_le _, rfl, by rw [mixR_zero]; exact S3.out⟩
  case round =>
    obtain ⟨k, F, hkl, rfl, hS⟩ := hrel
    have S4 := Lib.hid hS
    clear hS S3
    by_cases hlt : k < p.acts.length
    · have hlt' : (k : Int) < (p.acts.length : Int) := by omega
      have hk6 : (k : Int) < 6 := by omega
      have hk0 : (0 : Int) ≤ (k : Int) := by omega
      have hn6 : (p.acts.length : Int) ≤ 6 := by omega
      have hn0 : (0 : Int) ≤ (p.acts.length : Int) := by omega
      have hra : RowAt wr w.heap.size 25 1 p.acts.length go p.acts.length (mixR cellsI1 1 raw (tabL p.acts.length (distT p)) k) F := ⟨(S4.out.own 0 rfl).1, (S4.out.own 0 rfl).2⟩
      have hcl : (mixR cellsI1 1 raw (tabL p.acts.length (distT p)) k).length = p.acts.length := by rw [mixR_len cellsI1_len HM.out (by omega), hll, Nat.mul_one]
      obtain ⟨y0, hy0⟩ := hra.some (i := k) (by omega)
      have hfz := hra.frozen k
      have hgo := hra.lt.2
      have x0 := (S4.out.bk 1 rfl).tim.1
      have hgl := (S4.out.bk 1 rfl).lt
      have BR := Lib.hid (S4.out.bk 1 rfl)
      have HST := Lib.hid (mixR_set (f := cellsI1) (s := 1) cellsI1_len HM.out (k := k) (by omega))
      go_wp2_with fail
      have CE := Lib.hid (fun (W : World) (h : Below wr.heap.size wr W) => show Hid (Below wr.heap.size wr W) ∧ W.cell? ⟨g, 0, none⟩ = some (.int .i64 (p.acts.length : Int)) ∧ W.cell? ⟨go, k, none⟩ = some y0 ∧ W.frozen? ⟨go, k, none⟩ = false from ⟨Lib.hid h, (h.cell (p := ⟨g, 0, none⟩) hgl).trans x0, (h.cell (p := ⟨go, k, none⟩) hgo).trans hy0, (h.frozen (p := ⟨go, k, none⟩) hgo).trans hfz⟩)
      have INIT := Lib.hid (CE.out _ (Below.refl _ _).drew)
      have KEEP := Lib.hid (fun (W2 W : World) (hb2 : Below W.heap.size W W2) (h : Hid (Below wr.heap.size wr W) ∧ W.cell? ⟨g, 0, none⟩ = some (.int .i64 (p.acts.length : Int)) ∧ W.cell? ⟨go, k, none⟩ = some y0 ∧ W.frozen? ⟨go, k, none⟩ = false) => CE.out W2 (h.1.out.trans (hb2.mono h.1.out.size)))
      have S5 := Lib.hid S4.out.drew1
      have BD := Lib.hid (S5.out.bk 1 rfl)
      have hrl := rowL_len p.acts.length (distT p) k
      have RC := Lib.hid (fun j (hj : j < (rowL p.acts.length (distT p) k).length) => show wr.drew.cell? ⟨g, 1 + k * 6 + j, none⟩ = some (.int .i64 ((rowL p.acts.length (distT p) k).getD j 0)) from by
        rw [List.getD_eq_getElem?_getD, List.getElem?_eq_getElem hj, Option.getD_some, rowL_at]
        rw [hrl] at hj
        exact BD.out.tim.2.1 k j (by omega) (by omega))
      have HSK := Lib.hid (show (mixR cellsI1 1 raw (tabL p.acts.length (distT p)) k).set k (trI (rowL p.acts.length (distT p) k)) = mixR cellsI1 1 raw (tabL p.acts.length (distT p)) (k + 1) from by
        have h := HST.out
        rw [Nat.mul_one, tabL_at] at h
        exact h)
      clear CE x0 hy0 hfz hgo hgl BR hra S4 BD HST
      refine wpAnyZ_start 10 (fun W => Hid (Below wr.heap.size wr W) ∧ W.cell? ⟨g, 0, none⟩ = some (.int .i64 (p.acts.length : Int)) ∧ W.cell? ⟨go, k, none⟩ = some y0 ∧ W.frozen? ⟨go, k, none⟩ = false) (by kernel_rfl) INIT.out (fun hHeld => ?_)
      refine wpAnyZ_take (i := 0) (v := ?_) rfl (by kernel_rfl) (by kernel_rfl) (by kernel_rfl) (fun _ _ _ h => h) (Or.inl ⟨by rfl, ?_⟩) (by assumption) ?_
      rotate_left
      · (intro W hSw; (try dsimp only at hSw); go_simp <;> with_reducible rfl)
      (try simp only [Act.put])
      refine wpAnyZ_take (i := 1) (v := ?_) rfl (by kernel_rfl) (by kernel_rfl) (by kernel_rfl) (fun _ _ _ h => h) (Or.inl ⟨by rfl, ?_⟩) (by assumption) ?_
      rotate_left
      · (intro W hSw; (try dsimp only at hSw); go_simp <;> with_reducible rfl)
      (try simp only [Act.put])
      refine wpAnyZ_take (i := 2) (v := ?_) rfl (by kernel_rfl) (by kernel_rfl) (by kernel_rfl) (fun _ _ _ h => h) (Or.inl ⟨by rfl, ?_⟩) (by assumption) ?_
      rotate_left
      · (intro W hSw; (try dsimp only at hSw); go_simp <;> with_reducible rfl)
      (try simp only [Act.put])
      refine wpAnyZ_take (i := 3) (v := ?_) rfl (by kernel_rfl) (by kernel_rfl) (by kernel_rfl) (fun _ _ _ h => h) (Or.inl ⟨by rfl, ?_⟩) (by assumption) ?_
      rotate_left
      · (intro W hSw; (try dsimp only at hSw); go_simp <;> with_reducible rfl)
      (try simp only [Act.put])
      refine wpAnyZ_take (i := 4) (v := ?_) rfl (by kernel_rfl) (by kernel_rfl) (by kernel_rfl) (fun _ _ _ h => h) (Or.inl ⟨by rfl, ?_⟩) (by assumption) ?_
      rotate_left
      · (intro W hSw; (try dsimp only at hSw); go_simp <;> with_reducible rfl)
      (try simp only [Act.put])
      refine wpAnyZ_take (i := 5) (v := ?_) rfl (by kernel_rfl) (by kernel_rfl) (by kernel_rfl) (fun _ _ _ h => h) (Or.inl ⟨by rfl, ?_⟩) (by assumption) ?_
      rotate_left
      · (intro W hSw; (try dsimp only at hSw); go_simp <;> with_reducible rfl)
      (try simp only [Act.put])
      refine wpAnyZ_take (i := 6) (v := ?_) rfl (by kernel_rfl) (by kernel_rfl) (by kernel_rfl) (fun _ _ _ h => h) (Or.inl ⟨by rfl, ?_⟩) (by assumption) ?_
      rotate_left
      · (intro W hSw; (try dsimp only at hSw); go_simp <;> with_reducible rfl)
      (try simp only [Act.put])
      refine wpAnyZ_take (i := 7) (v := ?_) rfl (by kernel_rfl) (by kernel_rfl) (by kernel_rfl) (fun _ _ _ h => h) (Or.inl ⟨by rfl, ?_⟩) (by assumption) ?_
      rotate_left
      · (intro W hSw; (try dsimp only at hSw); go_simp <;> with_reducible rfl)
      (try simp only [Act.put])
      refine wpAnyZ_one (i := 8) (by kernel_rfl) rfl (fun K hK => ?_)
      go_simp
      go_at_call 46
      refine (Tryz.slices_Clone_int g (1 + k * 6) p.acts.length 6 (rowL p.acts.length (distT p) k) _ (by omega) (by omega) (by exact RC.out)).mono ?_
      rintro e w8 ⟨v8, rfl, o8, _, b8⟩
      (first | done | go_wp2_with fail)
      refine hK.out _ _ (KEEP.out _ _ b8 hHeld) (fun hHeld8 => ?_)
      clear hK K
      rw [List.take_of_length_le (show (rowL p.acts.length (distT p) k).length ≤ p.acts.length by omega)] at o8
      obtain ⟨U8, c8, he8⟩ := slice_ints (xs := rowL p.acts.length (distT p) k) (Tr.own_rd _ _ _ (flat_own o8).1)
      rw [hrl] at he8
      subst he8
      have S8 := Lib.hid (S5.out.new (flat_own o8).1 (flat_own o8).2 b8)
      obtain ⟨F9, h9⟩ := Sn.putRow (t' := trI (rowL p.acts.length (distT p) k)) (i := k) S8.out (by omega)
      rw [HSK.out] at h9
      have S9 := Lib.hid h9
      clear h9 S8 S5 o8 b8 RC INIT KEEP HSK
      refine wpAnyZ_take (i := 9) (v := ?_) rfl (by kernel_rfl) (by kernel_rfl) (by kernel_rfl) (fun _ _ _ h => h) (Or.inl ⟨by rfl, ?_⟩) (by assumption) ?_
      rotate_left
      · (intro W hSw; (try dsimp only at hSw); go_simp <;> with_reducible rfl)
      (try simp only [Act.put])
      refine wpAnyZ_last (by kernel_rfl) (by kernel_rfl) rfl (fun K hK => ?_)
      go_simp
      refine hK.out _ _ ?_
      clear hK K
      generalize World.setCell w8 _ _ = w9 at S9 ⊢
      clear hHeld hHeld8
      go_wp2
      go_roundw
      case rel => exact ⟨k + 1, F9, by omega, by go_num, S9.out⟩
      case measure => simp [intOf]; omega
    · have hge : ¬ (k : Int) < (p.acts.length : Int) := by omega
      obtain rfl : k = p.acts.length := by omega
      rw [show mixR cellsI1 1 raw (tabL p.acts.length (distT p)) p.acts.length = (tabL p.acts.length (distT p)).flatMap cellsI1 from by
        have h := mixR_full (f := cellsI1) (s := 1) HM.out
        rwa [hll] at h] at S4
      have HT := Lib.hid (show trSu (distL p) = .row 25 1 p.acts.length ((tabL p.acts.length (distT p)).flatMap cellsI1) from by rw [HS.out, trSu, rows, hll])
      go_wp2
      go_ret
      first
        | exact ⟨_, rfl, _, by rw [HT.out]; exact (S4.out.own 0 rfl).1, (S4.out.own 0 rfl).2, S4.out.1⟩
        | exact ⟨_, _, rfl, by rw [HT.out]; exact (S4.out.own 0 rfl).1, (S4.out.own 0 rfl).2, S4.out.1⟩
        | exact ⟨_, by rw [HT.out]; exact (S4.out.own 0 rfl).1, (S4.out.own 0 rfl).2, S4.out.1⟩
end Go.Proofs.YtoggakfkpeloiaaGreat
