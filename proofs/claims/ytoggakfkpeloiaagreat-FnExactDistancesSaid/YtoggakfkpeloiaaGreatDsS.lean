/- DERIVED. CONTRACT: the model's table of distances (spec.l08Dist). -/
import Derived.Test.YtoggakfkpeloiaaGreatDsMod
import Derived.Test.YtoggakfkpeloiaaGreatDsTab
import Derived.Test.YtoggakfkpeloiaaGreatLkGa
import Derived.Test.YtoggakfkpeloiaaGreatTIntS
import Derived.Test.YtoggakfkpeloiaaGreatSum
namespace Go.Proofs.YtoggakfkpeloiaaGreat
open Go.RowKit Go.Shelf
set_option linter.unusedVariables false

def rowsK (n k : Nat) : List (List Int) := (List.range k).map (rowL n (tb0 n))
def colsK (n k j : Nat) : List Int := (List.range j).map (tb0 n k)
theorem rowsK_len (n k : Nat) : (rowsK n k).length = k := by simp [rowsK]
theorem colsK_len (n k j : Nat) : (colsK n k j).length = j := by simp [colsK]
theorem rowsK_next (n k : Nat) : rowsK n k ++ [colsK n k n] = rowsK n (k + 1) := by simp [rowsK, colsK, rowL, List.range_succ]
theorem rowsK_full (n : Nat) : rowsK n n = tabL n (tb0 n) := rfl
theorem colsK_next (n k j : Nat) : colsK n k j ++ [tb0 n k j] = colsK n k (j + 1) := by simp [colsK, List.range_succ]
theorem tb0_eq {n k j : Nat} (hk : k < n) (hj : j < n) (h : (k : Int) = (j : Int)) : tb0 n k j = 0 := by rw [tb0, if_pos ⟨hk, hj⟩, if_pos (by omega)]
theorem tb0_ne {n k j : Nat} (hk : k < n) (hj : j < n) (h : ¬ (k : Int) = (j : Int)) : tb0 n k j = -1000 := by rw [tb0, if_pos ⟨hk, hj⟩, if_neg (by omega)]

set_option maxRecDepth 100000 in
set_option maxHeartbeats 8000000 in
theorem specDist_any (p : Pj) (v : Value) (w : World) (hv : (trPj p).rd w v) (hok : pokB p = true) :
    Calls Tryz.prog 40 #[v] w fun e w' => ∃ u F, e = .returned u ∧ (trSu (tabL p.acts.length (distT p))).own w' w.heap.size u F ∧ F.Nodup ∧ Below w.heap.size w w' := by
  have HV := Lib.hid hv
  obtain ⟨A1, c1, A2, c2, A3, c3, A4, c4, rfl, r1, r2, r3, r4⟩ := rdProject_t hv
  obtain ⟨hl2, B2, d2, he, g2⟩ := rdLinkS_t r2
  injection he with he _ he2
  subst he he2
  have G2 := Lib.hid g2
  obtain ⟨hl1, B1, d1, he, g1⟩ := rdActivityS_t r1
  injection he with he _ he2
  subst he he2
  have G1 := Lib.hid g1
  clear hv r1 r2 r3 r4 g1 g2
  have S0 := Lib.hid ((Sn.start w).box 35 [.int .i64 p.dl, .slice A1 p.acts.length c1, .slice A2 p.lks.length c2, .slice A3 p.ress.length c3, .slice A4 p.stk.length c4])
  have h6 := (pok_acts hok).1
  have h12 := (pok_lks hok).1
  have HOK := Lib.hid hok
  clear hok
  obtain ⟨i0, hi0, hz0, hz1, hz2⟩ := info_parts infoInt
  obtain ⟨ii, hj0, hjz, hjs, hjb⟩ := info_parts infoInt_t
  have S1 := Lib.hid (S0.out.emptyR (α := List Int) 25 1 cellsI1)
  simp only [World.size_alloc] at S1
  go_enter Tryz.func40, Tryz.ntmps40
  obtain ⟨e0, e1, e2, e3, e4, ef⟩ := (S1.out.bk 1 rfl).c5
  go_wp2
  clear e0 e1 e2 e3 e4 ef S0
  go_loopw [3, 17] (fun u i wr => ∃ (k : Nat) (F : List Nat), k ≤ p.acts.length ∧ i = .int .i64 k ∧ Sn w wr [⟨trSu (rowsK p.acts.length k), u, F⟩, boxI w.heap.size 35 [.int .i64 p.dl, .slice A1 p.acts.length c1, .slice A2 p.lks.length c2, .slice A3 p.ress.length c3, .slice A4 p.stk.length c4]]) (fun _ i _ => p.acts.length - (intOf i).toNat)
  case atStart => exact ⟨0, _, Nat.zero_le _, rfl, S1.out⟩
  case round =>
    obtain ⟨k, Fo, hkl, rfl, hS⟩ := hrel
    have S2 := Lib.hid hS
    clear hS S1
    obtain ⟨O, co, rfl⟩ := rows_slice (S2.out.rd 0 rfl)
    rw [rowsK_len] at S2 ⊢
    by_cases hlt : k < p.acts.length
    · have hlt' : (k : Int) < (p.acts.length : Int) := by omega
      have S3 := Lib.hid S2.out.emptyI
      obtain ⟨e0, e1, e2, e3, e4, ef⟩ := (S3.out.bk 2 rfl).c5
      clear S2
      go_wp2
      clear e0 e1 e2 e3 e4 ef
      go_loopw [5, 24] (fun u i wr => ∃ (j : Nat) (F : List Nat), j ≤ p.acts.length ∧ i = .int .i64 j ∧ Sn w wr [⟨trI (colsK p.acts.length k j), u, F⟩, ⟨trSu (rowsK p.acts.length k), .slice O k co, Fo⟩, boxI w.heap.size 35 [.int .i64 p.dl, .slice A1 p.acts.length c1, .slice A2 p.lks.length c2, .slice A3 p.ress.length c3, .slice A4 p.stk.length c4]]) (fun _ i _ => p.acts.length - (intOf i).toNat)
      case atStart => exact ⟨0, _, Nat.zero_le _, rfl, S3.out⟩
      case round =>
        obtain ⟨j, Fu, hjl, rfl, hS⟩ := hrel
        have S4 := Lib.hid hS
        clear hS S3
        obtain ⟨U, cu, rfl⟩ := slice_ints (S4.out.rd 0 rfl)
        rw [colsK_len] at S4 ⊢
        have hcl := colsK_len p.acts.length k j
        by_cases hlt2 : j < p.acts.length
        · have hlt2' : (j : Int) < (p.acts.length : Int) := by omega
          have NX := Lib.hid (colsK_next p.acts.length k j)
          have HQ := Lib.hid (tb0_eq hlt hlt2)
          have HR := Lib.hid (tb0_ne hlt hlt2)
          generalize tb0 p.acts.length k j = q at NX HQ HR
          have hz := S4.out.1.size
          have OW := Lib.hid S4.out.ownRI
          rw [hcl] at OW
          by_cases hd : (k : Int) = (j : Int)
          · have hb : ((k : Int) == (j : Int)) = true := by simp; omega
            obtain rfl := HQ.out hd
            clear hd HQ HR
            go_wp2_with (first | (at_builtin; refine wpList_append_own_at _ rfl (.tmp 30) (.tmp 32) 25 rfl w.heap.size 3 i0 (.int .i64 0) 1 8 Tryz.underlying25 hi0 hz0 hz1 hz2 rfl (by decide) (.slice U j cu) j ((colsK p.acts.length k j).map (.int .i64)) rfl (by exact OW.out.alloc _) ⟨wr.heap.size, 0, none⟩ 1 1 [.int .i64 0] rfl rfl ?c1 ?c2 ?c3 ?c4 ?c5 ?_))
            try case c1 => exact one_cell _ _ _
            case c2 => simp [Value.oneCell']
            case c3 => unfold maxLen; omega
            case c4 => omega
            case c5 => first | omega | (simp; omega)
            intro v' w8 hown8 hg8 _ hat8
            obtain ⟨F9, h9⟩ := S4.out.appI2 hown8 hg8 (by simpa using hat8)
            rw [NX.out] at h9
            have S9 := Lib.hid h9
            clear hown8 hg8 hat8 h9 OW S4
            go_wp2
            go_roundw
            case rel => exact ⟨j + 1, F9, by omega, by go_num, S9.out⟩
            case measure => simp [intOf]; omega
          · have hb : ((k : Int) == (j : Int)) = false := by simp; omega
            obtain rfl := HR.out hd
            clear hd HQ HR
            go_wp2_with (first | (at_builtin; refine wpList_append_own_at _ rfl (.tmp 30) (.tmp 32) 25 rfl w.heap.size 3 i0 (.int .i64 0) 1 8 Tryz.underlying25 hi0 hz0 hz1 hz2 rfl (by decide) (.slice U j cu) j ((colsK p.acts.length k j).map (.int .i64)) rfl (by exact OW.out.alloc _) ⟨wr.heap.size, 0, none⟩ 1 1 [.int .i64 (-1000)] rfl rfl ?c1 ?c2 ?c3 ?c4 ?c5 ?_))
            try case c1 => exact one_cell _ _ _
            case c2 => simp [Value.oneCell']
            case c3 => unfold maxLen; omega
            case c4 => omega
            case c5 => first | omega | (simp; omega)
            intro v' w8 hown8 hg8 _ hat8
            obtain ⟨F9, h9⟩ := S4.out.appI2 hown8 hg8 (by simpa using hat8)
            rw [NX.out] at h9
            have S9 := Lib.hid h9
            clear hown8 hg8 hat8 h9 OW S4
            go_wp2
            go_roundw
            case rel => exact ⟨j + 1, F9, by omega, by go_num, S9.out⟩
            case measure => simp [intOf]; omega
        · have hge2 : ¬ (j : Int) < (p.acts.length : Int) := by omega
          obtain rfl : j = p.acts.length := by omega
          have S5 := Lib.hid S4.out.wrap
          obtain ⟨vs, G, ov, ol, hF⟩ := rowsD_raw (S5.out.own 1 rfl).1
          rw [rowsK_len] at ov
          have OV := Lib.hid ov
          have OL := Lib.hid ol
          have HF := Lib.hid hF
          have hz := S4.out.1.size
          have NR := Lib.hid (rowsK_next p.acts.length k)
          have hrl := Lib.hid (rowsK_len p.acts.length k)
          clear ov ol hF S4
          go_wp2_with (first | (at_builtin; refine wpList_append_own_at _ rfl (.tmp 35) (.tmp 37) 29 rfl w.heap.size 25 ii (.slice none 0 0) 1 24 Tryz.underlying29 hj0 hjz hjs hjb rfl (by decide) (.slice O k co) k vs rfl (by exact OV.out.alloc _) ⟨wr.heap.size, 0, none⟩ 1 1 [.slice U p.acts.length cu] rfl rfl ?c1 ?c2 ?c3 ?c4 ?c5 ?_))
          try case c1 => exact one_cell _ _ _
          case c2 => simp [Value.oneCell']
          case c3 => unfold maxLen; omega
          case c4 => omega
          case c5 => first | omega | (simp; omega)
          intro v' w8 hown8 hg8 _ hat8
          obtain ⟨F9, h9⟩ := Sn.appG (f := cellsI1) (x := colsK p.acts.length k p.acts.length) (by rw [hrl.out]) S5.out OL.out HF.out hown8 hg8 (by simpa using hat8)
          rw [NR.out] at h9
          have S9 := Lib.hid h9
          clear hown8 hg8 hat8 h9
          go_wp2
          go_roundw
          case rel => exact ⟨k + 1, F9, by omega, by go_num, S9.out⟩
          case measure => simp [intOf]; omega
    · have hge : ¬ (k : Int) < (p.acts.length : Int) := by omega
      obtain rfl : k = p.acts.length := by omega
      rw [rowsK_full] at S2
      obtain ⟨e0, e1, e2, e3, e4, ef⟩ := (S2.out.bk 1 rfl).c5
      go_wp2
      clear e0 e1 e2 e3 e4 ef
      go_loopw [43] (fun i wr => ∃ (k : Nat) (F : List Nat), k ≤ p.lks.length ∧ i = .int .i64 k ∧ Sn w wr [⟨trSu (tabL p.acts.length (linkT p k)), .slice O p.acts.length co, F⟩, boxI w.heap.size 35 [.int .i64 p.dl, .slice A1 p.acts.length c1, .slice A2 p.lks.length c2, .slice A3 p.ress.length c3, .slice A4 p.stk.length c4]]) (fun i _ => p.lks.length - (intOf i).toNat)
      case atStart => exact ⟨0, _, Nat.zero_le _, rfl, S2.out⟩
      case round =>
        obtain ⟨k, F, hkl2, rfl, hS⟩ := hrel
        have S3 := Lib.hid hS
        clear hS S2
        by_cases hlt2 : k < p.lks.length
        · have hlt2' : (k : Int) < (p.lks.length : Int) := by omega
          obtain ⟨b, o, rfl, hb, hc⟩ := G2.out k hlt2
          obtain ⟨y0, y1, y2, y3⟩ := hc k hlt2
          have hx0 := (S3.out.1.cell (p := ⟨b, o + k * 4, none⟩) hb).trans y0
          have hx1 := (S3.out.1.cell (p := ⟨b, o + k * 4 + 1, none⟩) hb).trans y1
          have hx2 := (S3.out.1.cell (p := ⟨b, o + k * 4 + 2, none⟩) hb).trans y2
          have hx3 := (S3.out.1.cell (p := ⟨b, o + k * 4 + 3, none⟩) hb).trans y3
          have LOK := (pok_lks HOK.out).2 _ (List.getElem_mem hlt2)
          obtain ⟨x, hx⟩ : ∃ x : Nat, p.lks[k].fr = (x : Int) := ⟨p.lks[k].fr.toNat, by omega⟩
          obtain ⟨y, hy⟩ : ∃ y : Nat, p.lks[k].to = (y : Int) := ⟨p.lks[k].to.toNat, by omega⟩
          have hxn : x < p.acts.length := by omega
          have hyn : y < p.acts.length := by omega
          have hxn' : (x : Int) < (p.acts.length : Int) := by omega
          have hyn' : (y : Int) < (p.acts.length : Int) := by omega
          have hxp : (0 : Int) ≤ (x : Int) := by omega
          have hyp : (0 : Int) ≤ (y : Int) := by omega
          have NX := Lib.hid (show linkT p (k + 1) = upT (linkT p k) x y (max (linkT p k x y) (gapA p p.lks[k])) from linkT_next hlt2 hx hy)
          have GAP := Lib.hid (fun v w hv => specAll_any p k v w hv HOK.out hlt2)
          rw [hx] at hx0
          rw [hy] at hx1
          clear LOK hx hy hc y0 y1 y2 y3
          generalize p.lks[k].fe = fe at hx2
          generalize p.lks[k].lag = lg at hx3
          generalize gapA p p.lks[k] = ga at GAP NX
          have S4 := Lib.hid (S3.out.box 92 [.int .i64 (x : Int), .int .i64 (y : Int), .bool fe, .int .i64 lg])
          clear S3
          go_wp2_with fail
          clear hx0 hx1 hx2 hx3
          generalize wr.heap.size = gl at S4 ⊢
          generalize World.alloc wr _ = wv at S4 ⊢
          obtain ⟨q0, q1, q2, q3, qf⟩ := (S4.out.bk 0 rfl).c4
          obtain ⟨e0, e1, e2, e3, e4, ef⟩ := (S4.out.bk 2 rfl).c5
          have hl0 := (S4.out.bk 0 rfl).lt
          have hl2 := (S4.out.bk 2 rfl).lt
          obtain ⟨g, rfl, hgl, hrow⟩ := (S4.out.drop 0).tab (by omega)
          obtain ⟨br, cb, hcx, hbl, hb0, hbg, hin⟩ := hrow x hxn
          obtain ⟨hcy, hfy, hset⟩ := hin y hyn
          clear hrow hin hset
          generalize linkT p k x y = t at hcy NX
          have CE := Lib.hid (fun (W : World) (h : Below wv.heap.size wv W) => show Hid (Below wv.heap.size wv W) ∧ W.cell? ⟨w.heap.size, 0, none⟩ = some (.int .i64 p.dl) ∧ W.cell? ⟨w.heap.size, 1, none⟩ = some (.slice A1 p.acts.length c1) ∧ W.cell? ⟨w.heap.size, 2, none⟩ = some (.slice (some ⟨b, o, none⟩) p.lks.length c2) ∧ W.cell? ⟨w.heap.size, 3, none⟩ = some (.slice A3 p.ress.length c3) ∧ W.cell? ⟨w.heap.size, 4, none⟩ = some (.slice A4 p.stk.length c4) ∧ W.cell? ⟨gl, 0, none⟩ = some (.int .i64 (x : Int)) ∧ W.cell? ⟨gl, 1, none⟩ = some (.int .i64 (y : Int)) ∧ W.cell? ⟨g, x, none⟩ = some (.slice (some ⟨br, 0, none⟩) p.acts.length cb) ∧ W.cell? ⟨br, y, none⟩ = some (.int .i64 t) ∧ W.frozen? ⟨br, y, none⟩ = false from ⟨Lib.hid h, (h.cell (p := ⟨w.heap.size, 0, none⟩) hl2).trans e0, (h.cell (p := ⟨w.heap.size, 1, none⟩) hl2).trans e1, (h.cell (p := ⟨w.heap.size, 2, none⟩) hl2).trans e2, (h.cell (p := ⟨w.heap.size, 3, none⟩) hl2).trans e3, (h.cell (p := ⟨w.heap.size, 4, none⟩) hl2).trans e4, (h.cell (p := ⟨gl, 0, none⟩) hl0).trans q0, (h.cell (p := ⟨gl, 1, none⟩) hl0).trans q1, (h.cell (p := ⟨g, x, none⟩) hgl).trans hcx, (h.cell (p := ⟨br, y, none⟩) hbl).trans hcy, (h.frozen (p := ⟨br, y, none⟩) hbl).trans hfy⟩)
          have INIT := Lib.hid (CE.out _ (Below.refl _ _).drew)
          have KEEP := Lib.hid (fun (W2 W : World) (hb2 : Below W.heap.size W W2) (h : Hid (Below wv.heap.size wv W) ∧ W.cell? ⟨w.heap.size, 0, none⟩ = some (.int .i64 p.dl) ∧ W.cell? ⟨w.heap.size, 1, none⟩ = some (.slice A1 p.acts.length c1) ∧ W.cell? ⟨w.heap.size, 2, none⟩ = some (.slice (some ⟨b, o, none⟩) p.lks.length c2) ∧ W.cell? ⟨w.heap.size, 3, none⟩ = some (.slice A3 p.ress.length c3) ∧ W.cell? ⟨w.heap.size, 4, none⟩ = some (.slice A4 p.stk.length c4) ∧ W.cell? ⟨gl, 0, none⟩ = some (.int .i64 (x : Int)) ∧ W.cell? ⟨gl, 1, none⟩ = some (.int .i64 (y : Int)) ∧ W.cell? ⟨g, x, none⟩ = some (.slice (some ⟨br, 0, none⟩) p.acts.length cb) ∧ W.cell? ⟨br, y, none⟩ = some (.int .i64 t) ∧ W.frozen? ⟨br, y, none⟩ = false) => CE.out W2 (h.1.out.trans (hb2.mono h.1.out.size)))
          have S5 := Lib.hid (S4.out.drop 0).drew1
          simp only [List.eraseIdx_cons_zero] at S5
          clear S4 q0 q1 q2 q3 qf e0 e1 e2 e3 e4 ef hl0 hl2 hgl hcx hbl hb0 hbg hcy hfy hb
          refine wpAnyZ_start 21 (fun W => Hid (Below wv.heap.size wv W) ∧ W.cell? ⟨w.heap.size, 0, none⟩ = some (.int .i64 p.dl) ∧ W.cell? ⟨w.heap.size, 1, none⟩ = some (.slice A1 p.acts.length c1) ∧ W.cell? ⟨w.heap.size, 2, none⟩ = some (.slice (some ⟨b, o, none⟩) p.lks.length c2) ∧ W.cell? ⟨w.heap.size, 3, none⟩ = some (.slice A3 p.ress.length c3) ∧ W.cell? ⟨w.heap.size, 4, none⟩ = some (.slice A4 p.stk.length c4) ∧ W.cell? ⟨gl, 0, none⟩ = some (.int .i64 (x : Int)) ∧ W.cell? ⟨gl, 1, none⟩ = some (.int .i64 (y : Int)) ∧ W.cell? ⟨g, x, none⟩ = some (.slice (some ⟨br, 0, none⟩) p.acts.length cb) ∧ W.cell? ⟨br, y, none⟩ = some (.int .i64 t) ∧ W.frozen? ⟨br, y, none⟩ = false) (by kernel_rfl) INIT.out (fun hHeld => ?_)
          refine wpAnyZ_take (i := 0) (v := ?_) rfl (by kernel_rfl) (by kernel_rfl) (by kernel_rfl) (fun _ _ _ h => h) (Or.inl ⟨by rfl, ?_⟩) (by assumption) ?_
          rotate_left
          · (intro W hSw; (try dsimp only at hSw); go_simp <;> with_reducible rfl)
          (try simp only [Act.put])
          refine wpAnyZ_take (i := 1) (v := ?_) rfl (by kernel_rfl) (by kernel_rfl) (by kernel_rfl) (fun _ _ _ h => h) (Or.inl ⟨by rfl, ?_⟩) (by assumption) ?_
          rotate_left
          · (intro W hSw; (try dsimp only at hSw); go_simp <;> with_reducible rfl)
          (try simp only [Act.put])
          refine wpAnyZ_take (i := 2) (v := ?_) rfl (by kernel_rfl) (by kernel_rfl) (by kernel_rfl) (fun _ _ _ h => h) (Or.inl ⟨by rfl, ?_⟩) (by assumption) ?_
          rotate_left
          · (intro W hSw; (try dsimp only at hSw); go_simp <;> with_reducible rfl)
          (try simp only [Act.put])
          refine wpAnyZ_take (i := 3) (v := ?_) rfl (by kernel_rfl) (by kernel_rfl) (by kernel_rfl) (fun _ _ _ h => h) (Or.inl ⟨by rfl, ?_⟩) (by assumption) ?_
          rotate_left
          · (intro W hSw; (try dsimp only at hSw); go_simp <;> with_reducible rfl)
          (try simp only [Act.put])
          refine wpAnyZ_take (i := 4) (v := ?_) rfl (by kernel_rfl) (by kernel_rfl) (by kernel_rfl) (fun _ _ _ h => h) (Or.inl ⟨by rfl, ?_⟩) (by assumption) ?_
          rotate_left
          · (intro W hSw; (try dsimp only at hSw); go_simp <;> with_reducible rfl)
          (try simp only [Act.put])
          refine wpAnyZ_take (i := 5) (v := ?_) rfl (by kernel_rfl) (by kernel_rfl) (by kernel_rfl) (fun _ _ _ h => h) (Or.inl ⟨by rfl, ?_⟩) (by assumption) ?_
          rotate_left
          · (intro W hSw; (try dsimp only at hSw); go_simp <;> with_reducible rfl)
          (try simp only [Act.put])
          refine wpAnyZ_take (i := 6) (v := ?_) rfl (by kernel_rfl) (by kernel_rfl) (by kernel_rfl) (fun _ _ _ h => h) (Or.inl ⟨by rfl, ?_⟩) (by assumption) ?_
          rotate_left
          · (intro W hSw; (try dsimp only at hSw); go_simp <;> with_reducible rfl)
          (try simp only [Act.put])
          refine wpAnyZ_take (i := 7) (v := ?_) rfl (by kernel_rfl) (by kernel_rfl) (by kernel_rfl) (fun _ _ _ h => h) (Or.inl ⟨by rfl, ?_⟩) (by assumption) ?_
          rotate_left
          · (intro W hSw; (try dsimp only at hSw); go_simp <;> with_reducible rfl)
          (try simp only [Act.put])
          refine wpAnyZ_take (i := 8) (v := ?_) rfl (by kernel_rfl) (by kernel_rfl) (by kernel_rfl) (fun _ _ _ h => h) (Or.inl ⟨by rfl, ?_⟩) (by assumption) ?_
          rotate_left
          · (intro W hSw; (try dsimp only at hSw); go_simp <;> with_reducible rfl)
          (try simp only [Act.put])
          refine wpAnyZ_take (i := 9) (v := ?_) rfl (by kernel_rfl) (by kernel_rfl) (by kernel_rfl) (fun _ _ _ h => h) (Or.inl ⟨by rfl, ?_⟩) (by assumption) ?_
          rotate_left
          · (intro W hSw; (try dsimp only at hSw); go_simp <;> with_reducible rfl)
          (try simp only [Act.put])
          refine wpAnyZ_take (i := 10) (v := ?_) rfl (by kernel_rfl) (by kernel_rfl) (by kernel_rfl) (fun _ _ _ h => h) (Or.inl ⟨by rfl, ?_⟩) (by assumption) ?_
          rotate_left
          · (intro W hSw; (try dsimp only at hSw); go_simp <;> with_reducible rfl)
          (try simp only [Act.put])
          refine wpAnyZ_take (i := 11) (v := ?_) rfl (by kernel_rfl) (by kernel_rfl) (by kernel_rfl) (fun _ _ _ h => h) (Or.inl ⟨by rfl, ?_⟩) (by assumption) ?_
          rotate_left
          · (intro W hSw; (try dsimp only at hSw); go_simp <;> with_reducible rfl)
          (try simp only [Act.put])
          refine wpAnyZ_take (i := 12) (v := ?_) rfl (by kernel_rfl) (by kernel_rfl) (by kernel_rfl) (fun _ _ _ h => h) (Or.inl ⟨by rfl, ?_⟩) (by assumption) ?_
          rotate_left
          · (intro W hSw; (try dsimp only at hSw); go_simp <;> with_reducible rfl)
          (try simp only [Act.put])
          refine wpAnyZ_take (i := 13) (v := ?_) rfl (by kernel_rfl) (by kernel_rfl) (by kernel_rfl) (fun _ _ _ h => h) (Or.inl ⟨by rfl, ?_⟩) (by assumption) ?_
          rotate_left
          · (intro W hSw; (try dsimp only at hSw); go_simp <;> with_reducible rfl)
          (try simp only [Act.put])
          refine wpAnyZ_take (i := 14) (v := ?_) rfl (by kernel_rfl) (by kernel_rfl) (by kernel_rfl) (fun _ _ _ h => h) (Or.inl ⟨by rfl, ?_⟩) (by assumption) ?_
          rotate_left
          · (intro W hSw; (try dsimp only at hSw); go_simp <;> with_reducible rfl)
          (try simp only [Act.put])
          refine wpAnyZ_take (i := 15) (v := ?_) rfl (by kernel_rfl) (by kernel_rfl) (by kernel_rfl) (fun _ _ _ h => h) (Or.inl ⟨by rfl, ?_⟩) (by assumption) ?_
          rotate_left
          · (intro W hSw; (try dsimp only at hSw); go_simp <;> with_reducible rfl)
          (try simp only [Act.put])
          refine wpAnyZ_take (i := 16) (v := ?_) rfl (by kernel_rfl) (by kernel_rfl) (by kernel_rfl) (fun _ _ _ h => h) (Or.inl ⟨by rfl, ?_⟩) (by assumption) ?_
          rotate_left
          · (intro W hSw; (try dsimp only at hSw); go_simp <;> with_reducible rfl)
          (try simp only [Act.put])
          refine wpAnyZ_take (i := 17) (v := ?_) rfl (by kernel_rfl) (by kernel_rfl) (by kernel_rfl) (fun _ _ _ h => h) (Or.inl ⟨by rfl, ?_⟩) (by assumption) ?_
          rotate_left
          · (intro W hSw; (try dsimp only at hSw); go_simp <;> with_reducible rfl)
          (try simp only [Act.put])
          refine wpAnyZ_one (i := 18) (by kernel_rfl) rfl (fun K hK => ?_)
          go_simp
          go_at_call 71
          refine (GAP.out _ _ (by exact S5.out.old HV.out)).mono ?_
          rintro e w18 ⟨rfl, b18⟩
          (first | done | go_wp2_with fail)
          refine hK.out _ _ (KEEP.out _ _ b18 hHeld) (fun hHeld18 => ?_)
          clear hK K
          refine wpAnyZ_one (i := 19) (by kernel_rfl) rfl (fun K hK => ?_)
          go_simp
          go_at_call 53
          refine (max_any t ga _).mono ?_
          rintro e w19 ⟨rfl, hw19⟩
          (first | done | go_wp2_with fail)
          refine hK.out _ _ (hHeld18) (fun hHeld19 => ?_)
          clear hK K
          subst hw19
          refine wpAnyZ_take (i := 20) (v := ?_) rfl (by kernel_rfl) (by kernel_rfl) (by kernel_rfl) (fun _ _ _ h => h) (Or.inl ⟨by rfl, ?_⟩) (by assumption) ?_
          rotate_left
          · (intro W hSw; (try dsimp only at hSw); go_simp <;> with_reducible rfl)
          (try simp only [Act.put])
          refine wpAnyZ_last (by kernel_rfl) (by kernel_rfl) rfl (fun K hK => ?_)
          go_simp
          refine hK.out _ _ ?_
          clear hK K
          have S6 := Lib.hid (S5.out.go b18)
          obtain ⟨F9, h9⟩ := S6.out.put2 hxn hyn hHeld18.2.2.2.2.2.2.2.2.1 (max t ga)
          rw [← NX.out] at h9
          have S9 := Lib.hid h9
          clear h9 S6 S5 CE INIT KEEP b18 hHeld hHeld18 hHeld19
          go_wp2
          go_roundw
          case rel => exact ⟨k + 1, F9, by omega, by go_num, S9.out⟩
          case measure => simp [intOf]; omega
        · have hge2 : ¬ (k : Int) < (p.lks.length : Int) := by omega
          obtain rfl : k = p.lks.length := by omega
          obtain ⟨e0, e1, e2, e3, e4, ef⟩ := (S3.out.bk 1 rfl).c5
          go_wp2
          clear e0 e1 e2 e3 e4 ef
          go_loopw [73] (fun i wr => ∃ (m : Nat) (F : List Nat), m ≤ p.acts.length ∧ i = .int .i64 m ∧ Sn w wr [⟨trSu (tabL p.acts.length (outT (linkT p p.lks.length) p.acts.length m)), .slice O p.acts.length co, F⟩, boxI w.heap.size 35 [.int .i64 p.dl, .slice A1 p.acts.length c1, .slice A2 p.lks.length c2, .slice A3 p.ress.length c3, .slice A4 p.stk.length c4]]) (fun i _ => p.acts.length - (intOf i).toNat)
          case atStart => exact ⟨0, _, Nat.zero_le _, rfl, S3.out⟩
          case round =>
            obtain ⟨m, F, hmn, rfl, hS⟩ := hrel
            have S4 := Lib.hid hS
            clear hS S3
            by_cases hlm : m < p.acts.length
            · have hlm' : (m : Int) < (p.acts.length : Int) := by omega
              have hm0 : (0 : Int) ≤ (m : Int) := by omega
              have NM := Lib.hid (show outT (linkT p p.lks.length) p.acts.length (m + 1) = midT (outT (linkT p p.lks.length) p.acts.length m) m p.acts.length p.acts.length from rfl)
              generalize outT (linkT p p.lks.length) p.acts.length m = X at S4 NM
              obtain ⟨e0, e1, e2, e3, e4, ef⟩ := (S4.out.bk 1 rfl).c5
              go_wp2
              clear e0 e1 e2 e3 e4 ef
              go_loopw [79] (fun i wr => ∃ (a : Nat) (F : List Nat), a ≤ p.acts.length ∧ i = .int .i64 a ∧ Sn w wr [⟨trSu (tabL p.acts.length (midT X m p.acts.length a)), .slice O p.acts.length co, F⟩, boxI w.heap.size 35 [.int .i64 p.dl, .slice A1 p.acts.length c1, .slice A2 p.lks.length c2, .slice A3 p.ress.length c3, .slice A4 p.stk.length c4]]) (fun i _ => p.acts.length - (intOf i).toNat)
              case atStart => exact ⟨0, _, Nat.zero_le _, rfl, S4.out⟩
              case round =>
                obtain ⟨a, F, han, rfl, hS⟩ := hrel
                have S5 := Lib.hid hS
                clear hS S4
                by_cases hla : a < p.acts.length
                · have hla' : (a : Int) < (p.acts.length : Int) := by omega
                  have ha0 : (0 : Int) ≤ (a : Int) := by omega
                  have NA := Lib.hid (show midT X m p.acts.length (a + 1) = rowT (midT X m p.acts.length a) m a p.acts.length from rfl)
                  generalize midT X m p.acts.length a = Y at S5 NA
                  obtain ⟨e0, e1, e2, e3, e4, ef⟩ := (S5.out.bk 1 rfl).c5
                  go_wp2
                  clear e0 e1 e2 e3 e4 ef
                  go_loopw [85] (fun i wr => ∃ (c : Nat) (F : List Nat), c ≤ p.acts.length ∧ i = .int .i64 c ∧ Sn w wr [⟨trSu (tabL p.acts.length (rowT Y m a c)), .slice O p.acts.length co, F⟩, boxI w.heap.size 35 [.int .i64 p.dl, .slice A1 p.acts.length c1, .slice A2 p.lks.length c2, .slice A3 p.ress.length c3, .slice A4 p.stk.length c4]]) (fun i _ => p.acts.length - (intOf i).toNat)
                  case atStart => exact ⟨0, _, Nat.zero_le _, rfl, S5.out⟩
                  case round =>
                    obtain ⟨c, F, hcn, rfl, hS⟩ := hrel
                    have S6 := Lib.hid hS
                    clear hS S5
                    by_cases hlc : c < p.acts.length
                    · have hlc' : (c : Int) < (p.acts.length : Int) := by omega
                      have hc0 : (0 : Int) ≤ (c : Int) := by omega
                      have NY := Lib.hid (show rowT Y m a (c + 1) = stepT (rowT Y m a c) m a c from rfl)
                      generalize rowT Y m a c = V at S6 NY
                      have NZ := Lib.hid (show stepT V m a c = (if V a m = -1000 then V else if V m c = -1000 then V else upT V a c (max (V a c) (wrap64 (V a m + V m c)))) from rfl)
                      obtain ⟨g, rfl, hgl, hrow⟩ := S6.out.tab (by omega)
                      obtain ⟨ba, ca, hca, hbl, _, _, hina⟩ := hrow a hla
                      obtain ⟨bm, cm, hcm, hml, _, _, hinm⟩ := hrow m hlm
                      obtain ⟨hk1, hf1, _⟩ := hina c hlc
                      obtain ⟨hk2, _, _⟩ := hina m hlm
                      obtain ⟨hk3, _, _⟩ := hinm c hlc
                      clear hrow hina hinm
                      generalize V a c = t1 at hk1 NZ
                      generalize V a m = t2 at hk2 NZ
                      generalize V m c = t3 at hk3 NZ
                      by_cases h2 : t2 = -1000
                      · have NQ := Lib.hid (NY.out.trans (NZ.out.trans (if_pos h2)))
                        subst h2
                        clear NY NZ
                        go_wp2
                        go_roundw
                        case rel => exact ⟨c + 1, F, by omega, by go_num, by rw [NQ.out]; exact S6.out⟩
                        case measure => simp [intOf]; omega
                      have h2' : (t2 != -1000) = true := by simp; omega
                      by_cases h3 : t3 = -1000
                      · have NQ := Lib.hid (NY.out.trans (NZ.out.trans ((if_neg h2).trans (if_pos h3))))
                        subst h3
                        clear NY NZ h2
                        go_wp2
                        go_roundw
                        case rel => exact ⟨c + 1, F, by omega, by go_num, by rw [NQ.out]; exact S6.out⟩
                        case measure => simp [intOf]; omega
                      have h3' : (t3 != -1000) = true := by simp; omega
                      have NQ := Lib.hid (NY.out.trans (NZ.out.trans ((if_neg h2).trans (if_neg h3))))
                      clear NY NZ h2 h3
                      go_wp2_with fail
                      have CE := Lib.hid (fun (W : World) (h : Below wr.heap.size wr W) => show Hid (Below wr.heap.size wr W) ∧ W.cell? ⟨g, a, none⟩ = some (.slice (some ⟨ba, 0, none⟩) p.acts.length ca) ∧ W.cell? ⟨g, m, none⟩ = some (.slice (some ⟨bm, 0, none⟩) p.acts.length cm) ∧ W.cell? ⟨ba, c, none⟩ = some (.int .i64 t1) ∧ W.cell? ⟨ba, m, none⟩ = some (.int .i64 t2) ∧ W.cell? ⟨bm, c, none⟩ = some (.int .i64 t3) ∧ W.frozen? ⟨ba, c, none⟩ = false from ⟨Lib.hid h, (h.cell (p := ⟨g, a, none⟩) hgl).trans hca, (h.cell (p := ⟨g, m, none⟩) hgl).trans hcm, (h.cell (p := ⟨ba, c, none⟩) hbl).trans hk1, (h.cell (p := ⟨ba, m, none⟩) hbl).trans hk2, (h.cell (p := ⟨bm, c, none⟩) hml).trans hk3, (h.frozen (p := ⟨ba, c, none⟩) hbl).trans hf1⟩)
                      have INIT := Lib.hid (CE.out _ (Below.refl _ _).drew)
                      have HCA := Lib.hid hca
                      clear CE hca hcm hk1 hk2 hk3 hf1 hgl hbl hml
                      refine wpAnyZ_start 29 (fun W => Hid (Below wr.heap.size wr W) ∧ W.cell? ⟨g, a, none⟩ = some (.slice (some ⟨ba, 0, none⟩) p.acts.length ca) ∧ W.cell? ⟨g, m, none⟩ = some (.slice (some ⟨bm, 0, none⟩) p.acts.length cm) ∧ W.cell? ⟨ba, c, none⟩ = some (.int .i64 t1) ∧ W.cell? ⟨ba, m, none⟩ = some (.int .i64 t2) ∧ W.cell? ⟨bm, c, none⟩ = some (.int .i64 t3) ∧ W.frozen? ⟨ba, c, none⟩ = false) (by kernel_rfl) INIT.out (fun hHeld => ?_)
                      refine wpAnyZ_take (i := 0) (v := ?_) rfl (by kernel_rfl) (by kernel_rfl) (by kernel_rfl) (fun _ _ _ h => h) (Or.inl ⟨by rfl, ?_⟩) (by assumption) ?_
                      rotate_left
                      · (intro W hSw; (try dsimp only at hSw); go_simp <;> with_reducible rfl)
                      (try simp only [Act.put])
                      refine wpAnyZ_take (i := 1) (v := ?_) rfl (by kernel_rfl) (by kernel_rfl) (by kernel_rfl) (fun _ _ _ h => h) (Or.inl ⟨by rfl, ?_⟩) (by assumption) ?_
                      rotate_left
                      · (intro W hSw; (try dsimp only at hSw); go_simp <;> with_reducible rfl)
                      (try simp only [Act.put])
                      refine wpAnyZ_take (i := 2) (v := ?_) rfl (by kernel_rfl) (by kernel_rfl) (by kernel_rfl) (fun _ _ _ h => h) (Or.inl ⟨by rfl, ?_⟩) (by assumption) ?_
                      rotate_left
                      · (intro W hSw; (try dsimp only at hSw); go_simp <;> with_reducible rfl)
                      (try simp only [Act.put])
                      refine wpAnyZ_take (i := 3) (v := ?_) rfl (by kernel_rfl) (by kernel_rfl) (by kernel_rfl) (fun _ _ _ h => h) (Or.inl ⟨by rfl, ?_⟩) (by assumption) ?_
                      rotate_left
                      · (intro W hSw; (try dsimp only at hSw); go_simp <;> with_reducible rfl)
                      (try simp only [Act.put])
                      refine wpAnyZ_take (i := 4) (v := ?_) rfl (by kernel_rfl) (by kernel_rfl) (by kernel_rfl) (fun _ _ _ h => h) (Or.inl ⟨by rfl, ?_⟩) (by assumption) ?_
                      rotate_left
                      · (intro W hSw; (try dsimp only at hSw); go_simp <;> with_reducible rfl)
                      (try simp only [Act.put])
                      refine wpAnyZ_take (i := 5) (v := ?_) rfl (by kernel_rfl) (by kernel_rfl) (by kernel_rfl) (fun _ _ _ h => h) (Or.inl ⟨by rfl, ?_⟩) (by assumption) ?_
                      rotate_left
                      · (intro W hSw; (try dsimp only at hSw); go_simp <;> with_reducible rfl)
                      (try simp only [Act.put])
                      refine wpAnyZ_take (i := 6) (v := ?_) rfl (by kernel_rfl) (by kernel_rfl) (by kernel_rfl) (fun _ _ _ h => h) (Or.inl ⟨by rfl, ?_⟩) (by assumption) ?_
                      rotate_left
                      · (intro W hSw; (try dsimp only at hSw); go_simp <;> with_reducible rfl)
                      (try simp only [Act.put])
                      refine wpAnyZ_take (i := 7) (v := ?_) rfl (by kernel_rfl) (by kernel_rfl) (by kernel_rfl) (fun _ _ _ h => h) (Or.inl ⟨by rfl, ?_⟩) (by assumption) ?_
                      rotate_left
                      · (intro W hSw; (try dsimp only at hSw); go_simp <;> with_reducible rfl)
                      (try simp only [Act.put])
                      refine wpAnyZ_take (i := 8) (v := ?_) rfl (by kernel_rfl) (by kernel_rfl) (by kernel_rfl) (fun _ _ _ h => h) (Or.inl ⟨by rfl, ?_⟩) (by assumption) ?_
                      rotate_left
                      · (intro W hSw; (try dsimp only at hSw); go_simp <;> with_reducible rfl)
                      (try simp only [Act.put])
                      refine wpAnyZ_take (i := 9) (v := ?_) rfl (by kernel_rfl) (by kernel_rfl) (by kernel_rfl) (fun _ _ _ h => h) (Or.inl ⟨by rfl, ?_⟩) (by assumption) ?_
                      rotate_left
                      · (intro W hSw; (try dsimp only at hSw); go_simp <;> with_reducible rfl)
                      (try simp only [Act.put])
                      refine wpAnyZ_take (i := 10) (v := ?_) rfl (by kernel_rfl) (by kernel_rfl) (by kernel_rfl) (fun _ _ _ h => h) (Or.inl ⟨by rfl, ?_⟩) (by assumption) ?_
                      rotate_left
                      · (intro W hSw; (try dsimp only at hSw); go_simp <;> with_reducible rfl)
                      (try simp only [Act.put])
                      refine wpAnyZ_take (i := 11) (v := ?_) rfl (by kernel_rfl) (by kernel_rfl) (by kernel_rfl) (fun _ _ _ h => h) (Or.inl ⟨by rfl, ?_⟩) (by assumption) ?_
                      rotate_left
                      · (intro W hSw; (try dsimp only at hSw); go_simp <;> with_reducible rfl)
                      (try simp only [Act.put])
                      refine wpAnyZ_take (i := 12) (v := ?_) rfl (by kernel_rfl) (by kernel_rfl) (by kernel_rfl) (fun _ _ _ h => h) (Or.inl ⟨by rfl, ?_⟩) (by assumption) ?_
                      rotate_left
                      · (intro W hSw; (try dsimp only at hSw); go_simp <;> with_reducible rfl)
                      (try simp only [Act.put])
                      refine wpAnyZ_take (i := 13) (v := ?_) rfl (by kernel_rfl) (by kernel_rfl) (by kernel_rfl) (fun _ _ _ h => h) (Or.inl ⟨by rfl, ?_⟩) (by assumption) ?_
                      rotate_left
                      · (intro W hSw; (try dsimp only at hSw); go_simp <;> with_reducible rfl)
                      (try simp only [Act.put])
                      refine wpAnyZ_take (i := 14) (v := ?_) rfl (by kernel_rfl) (by kernel_rfl) (by kernel_rfl) (fun _ _ _ h => h) (Or.inl ⟨by rfl, ?_⟩) (by assumption) ?_
                      rotate_left
                      · (intro W hSw; (try dsimp only at hSw); go_simp <;> with_reducible rfl)
                      (try simp only [Act.put])
                      refine wpAnyZ_take (i := 15) (v := ?_) rfl (by kernel_rfl) (by kernel_rfl) (by kernel_rfl) (fun _ _ _ h => h) (Or.inl ⟨by rfl, ?_⟩) (by assumption) ?_
                      rotate_left
                      · (intro W hSw; (try dsimp only at hSw); go_simp <;> with_reducible rfl)
                      (try simp only [Act.put])
                      refine wpAnyZ_take (i := 16) (v := ?_) rfl (by kernel_rfl) (by kernel_rfl) (by kernel_rfl) (fun _ _ _ h => h) (Or.inl ⟨by rfl, ?_⟩) (by assumption) ?_
                      rotate_left
                      · (intro W hSw; (try dsimp only at hSw); go_simp <;> with_reducible rfl)
                      (try simp only [Act.put])
                      refine wpAnyZ_take (i := 17) (v := ?_) rfl (by kernel_rfl) (by kernel_rfl) (by kernel_rfl) (fun _ _ _ h => h) (Or.inl ⟨by rfl, ?_⟩) (by assumption) ?_
                      rotate_left
                      · (intro W hSw; (try dsimp only at hSw); go_simp <;> with_reducible rfl)
                      (try simp only [Act.put])
                      refine wpAnyZ_take (i := 18) (v := ?_) rfl (by kernel_rfl) (by kernel_rfl) (by kernel_rfl) (fun _ _ _ h => h) (Or.inl ⟨by rfl, ?_⟩) (by assumption) ?_
                      rotate_left
                      · (intro W hSw; (try dsimp only at hSw); go_simp <;> with_reducible rfl)
                      (try simp only [Act.put])
                      refine wpAnyZ_take (i := 19) (v := ?_) rfl (by kernel_rfl) (by kernel_rfl) (by kernel_rfl) (fun _ _ _ h => h) (Or.inl ⟨by rfl, ?_⟩) (by assumption) ?_
                      rotate_left
                      · (intro W hSw; (try dsimp only at hSw); go_simp <;> with_reducible rfl)
                      (try simp only [Act.put])
                      refine wpAnyZ_take (i := 20) (v := ?_) rfl (by kernel_rfl) (by kernel_rfl) (by kernel_rfl) (fun _ _ _ h => h) (Or.inl ⟨by rfl, ?_⟩) (by assumption) ?_
                      rotate_left
                      · (intro W hSw; (try dsimp only at hSw); go_simp <;> with_reducible rfl)
                      (try simp only [Act.put])
                      refine wpAnyZ_take (i := 21) (v := ?_) rfl (by kernel_rfl) (by kernel_rfl) (by kernel_rfl) (fun _ _ _ h => h) (Or.inl ⟨by rfl, ?_⟩) (by assumption) ?_
                      rotate_left
                      · (intro W hSw; (try dsimp only at hSw); go_simp <;> with_reducible rfl)
                      (try simp only [Act.put])
                      refine wpAnyZ_take (i := 22) (v := ?_) rfl (by kernel_rfl) (by kernel_rfl) (by kernel_rfl) (fun _ _ _ h => h) (Or.inl ⟨by rfl, ?_⟩) (by assumption) ?_
                      rotate_left
                      · (intro W hSw; (try dsimp only at hSw); go_simp <;> with_reducible rfl)
                      (try simp only [Act.put])
                      refine wpAnyZ_take (i := 23) (v := ?_) rfl (by kernel_rfl) (by kernel_rfl) (by kernel_rfl) (fun _ _ _ h => h) (Or.inl ⟨by rfl, ?_⟩) (by assumption) ?_
                      rotate_left
                      · (intro W hSw; (try dsimp only at hSw); go_simp <;> with_reducible rfl)
                      (try simp only [Act.put])
                      refine wpAnyZ_take (i := 24) (v := ?_) rfl (by kernel_rfl) (by kernel_rfl) (by kernel_rfl) (fun _ _ _ h => h) (Or.inl ⟨by rfl, ?_⟩) (by assumption) ?_
                      rotate_left
                      · (intro W hSw; (try dsimp only at hSw); go_simp <;> with_reducible rfl)
                      (try simp only [Act.put])
                      refine wpAnyZ_take (i := 25) (v := ?_) rfl (by kernel_rfl) (by kernel_rfl) (by kernel_rfl) (fun _ _ _ h => h) (Or.inl ⟨by rfl, ?_⟩) (by assumption) ?_
                      rotate_left
                      · (intro W hSw; (try dsimp only at hSw); go_simp <;> with_reducible rfl)
                      (try simp only [Act.put])
                      refine wpAnyZ_take (i := 26) (v := ?_) rfl (by kernel_rfl) (by kernel_rfl) (by kernel_rfl) (fun _ _ _ h => h) (Or.inl ⟨by rfl, ?_⟩) (by assumption) ?_
                      rotate_left
                      · (intro W hSw; (try dsimp only at hSw); go_simp <;> with_reducible rfl)
                      (try simp only [Act.put])
                      refine wpAnyZ_one (i := 27) (by kernel_rfl) rfl (fun K hK => ?_)
                      go_simp
                      go_at_call 53
                      refine (max_any t1 (IntKind.i64.wrap (t2 + t3)) _).mono ?_
                      rintro e w27 ⟨rfl, hw27⟩
                      (first | done | go_wp2_with fail)
                      refine hK.out _ _ (hHeld) (fun hHeld27 => ?_)
                      clear hK K
                      subst hw27
                      refine wpAnyZ_take (i := 28) (v := ?_) rfl (by kernel_rfl) (by kernel_rfl) (by kernel_rfl) (fun _ _ _ h => h) (Or.inl ⟨by rfl, ?_⟩) (by assumption) ?_
                      rotate_left
                      · (intro W hSw; (try dsimp only at hSw); go_simp <;> with_reducible rfl)
                      (try simp only [Act.put])
                      refine wpAnyZ_last (by kernel_rfl) (by kernel_rfl) rfl (fun K hK => ?_)
                      go_simp
                      refine hK.out _ _ ?_
                      clear hK K
                      obtain ⟨F9, h9⟩ := S6.out.put2 hla hlc HCA.out (max t1 (wrap64 (t2 + t3)))
                      have S9 := Lib.hid h9.drew1
                      clear h9 S6 INIT hHeld hHeld27
                      go_wp2
                      go_roundw
                      case rel => exact ⟨c + 1, F9, by omega, by go_num, by rw [NQ.out]; exact S9.out⟩
                      case measure => simp [intOf]; omega
                    · have hgec : ¬ (c : Int) < (p.acts.length : Int) := by omega
                      obtain rfl : c = p.acts.length := by omega
                      go_wp2
                      go_roundw
                      case rel => exact ⟨a + 1, F, by omega, by go_num, by rw [NA.out]; exact S6.out⟩
                      case measure => simp [intOf]; omega
                · have hgea : ¬ (a : Int) < (p.acts.length : Int) := by omega
                  obtain rfl : a = p.acts.length := by omega
                  go_wp2
                  go_roundw
                  case rel => exact ⟨m + 1, F, by omega, by go_num, by rw [NM.out]; exact S5.out⟩
                  case measure => simp [intOf]; omega
            · have hgem : ¬ (m : Int) < (p.acts.length : Int) := by omega
              obtain rfl : m = p.acts.length := by omega
              have S5 := Lib.hid (show Sn w wr [⟨trSu (tabL p.acts.length (distT p)), .slice O p.acts.length co, F⟩, boxI w.heap.size 35 [.int .i64 p.dl, .slice A1 p.acts.length c1, .slice A2 p.lks.length c2, .slice A3 p.ress.length c3, .slice A4 p.stk.length c4]] from S4.out)
              go_wp2
              go_ret
              first
                | exact ⟨_, rfl, _, (S5.out.own 0 rfl).1, (S5.out.own 0 rfl).2, S5.out.1⟩
                | exact ⟨_, _, rfl, (S5.out.own 0 rfl).1, (S5.out.own 0 rfl).2, S5.out.1⟩
                | exact ⟨_, (S5.out.own 0 rfl).1, (S5.out.own 0 rfl).2, S5.out.1⟩
end Go.Proofs.YtoggakfkpeloiaaGreat
