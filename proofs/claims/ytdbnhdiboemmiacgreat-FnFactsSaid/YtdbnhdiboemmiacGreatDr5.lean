/- DERIVED. CONTRACT: spec.l05Setup: a matrix of setup times drawn. -/
import Derived.Test.YtdbnhdiboemmiacGreatPrj
namespace Go.Proofs.YtdbnhdiboemmiacGreat
open Go.RowKit

/-- Setup times as they are drawn. -/
def DrSu (su : List (List Int)) : Prop := ∀ r ∈ su, r.length = 4 ∧ DrI r
theorem infoInts : (Tryz.prog.info? 26).map (fun i => (i.zero, i.size, i.bytes)) = some (some (.slice none 0 0), 1, 24) := by kernel_rfl
set_option maxRecDepth 100000 in
set_option maxHeartbeats 4000000 in
theorem setup_any (g : Nat) (A : Option Addr) (c : Nat) (bs : List Int) (W0 w : World) (h : Drw W0 w g A c bs) :
    Calls Tryz.prog 39 #[.pointer (some ⟨g, 0, none⟩)] w fun e w' => ∃ v su F, e = .returned v ∧ (su.length = 4 ∧ DrSu su) ∧ (trSu su).own w' w.heap.size v F ∧ F.Nodup ∧ Drw W0 w' g A c bs ∧ w.grownBy w' (some g) := by
  obtain ⟨i0, hi0, hz0, hz1, hz2⟩ := info_parts infoInt
  obtain ⟨ii, hj0, hjz, hjs, hjb⟩ := info_parts infoInts
  have S0 := Lib.hid ((Sd.start h).empty 26 1 cellsI1)
  clear h
  go_enter Tryz.func39, Tryz.ntmps39
  go_wp2
  go_loopw [3, 4] (fun out i wr => ∃ (su : List (List Int)) (O : Option Addr) (co : Nat) (Fo : List Nat), su.length ≤ 4 ∧ i = .int .i64 su.length ∧ out = .slice O su.length co ∧ DrSu su ∧ Sd W0 w g A c bs [⟨trSu su, .slice O su.length co, Fo⟩] wr) (fun _ i _ => 4 - (intOf i).toNat)
  case atStart => exact ⟨[], some ⟨w.heap.size, 0, none⟩, 0, [w.heap.size], by simp, rfl, rfl, fun r hr => (by cases hr), S0.out⟩
  case round =>
    obtain ⟨su, O, co, Fo, hl, rfl, rfl, hsu, hS⟩ := hrel
    have S1 := Lib.hid hS
    have HSU := Lib.hid hsu
    clear hS hsu
    by_cases hlt : su.length < 4
    · have hlt' : (su.length : Int) < 4 := by omega
      have S2 := Lib.hid (S1.out.emptyI 3)
      clear S1
      go_wp2
      go_loopw [5, 6] (fun row k wr' => ∃ (us : List Int) (U : Option Addr) (cu : Nat) (Fu : List Nat), us.length ≤ 4 ∧ k = .int .i64 us.length ∧ row = .slice U us.length cu ∧ DrI us ∧ Sd W0 w g A c bs [⟨trI us, .slice U us.length cu, Fu⟩, ⟨trSu su, .slice O su.length co, Fo⟩] wr') (fun _ k _ => 4 - (intOf k).toNat)
      case atStart => exact ⟨[], some ⟨wr.heap.size, 0, none⟩, 0, [wr.heap.size], by simp, rfl, rfl, fun r hr => (by cases hr), S2.out⟩
      case round =>
        obtain ⟨us, U, cu, Fu, hul, rfl, rfl, hud, hS⟩ := hrel
        have S3 := Lib.hid hS
        have HUD := Lib.hid hud
        clear hS hud
        by_cases hlt2 : us.length < 4
        · have hlt2' : (us.length : Int) < 4 := by omega
          by_cases hd : (su.length : Int) = (us.length : Int)
          · have hd' : ((su.length : Int) != (us.length : Int)) = false := by simp; omega
            clear hd
            have hz := S3.out.wr.size
            have OW := Lib.hid (own_flat (S3.out.own 0 rfl).1).1
            simp only [List.length_map] at OW
            go_wp2_with (first | (at_builtin; refine wpList_append_own_at _ rfl (.tmp 23) (.tmp 25) 26 rfl w.heap.size 3 i0 (.int .i64 0) 1 8 Tryz.underlying26 hi0 hz0 hz1 hz2 rfl (by decide) (.slice U us.length cu) us.length (us.map (.int .i64)) rfl (by exact OW.out.alloc _) ⟨wr.heap.size, 0, none⟩ 1 1 [.int .i64 0] rfl rfl ?c1 ?c2 ?c3 ?c4 ?c5 ?_))
            try case c1 => exact newI_cell _ _ _
            case c2 => simp [Value.oneCell']
            case c3 => unfold maxLen; omega
            case c4 => omega
            case c5 => first | omega | (simp; omega)
            intro v' w8 hown8 hg8 _ hat8
            obtain ⟨F9, h9⟩ := S3.out.appI2 hown8 hg8 (by simpa using hat8)
            have HL9 := Lib.hid (show (us ++ [0]).length = us.length + 1 from by simp)
            obtain ⟨U9, c9, hv9, _⟩ := rdI_slice (rd_flat (h9.rd 0 rfl))
            rw [HL9.out] at hv9
            subst hv9
            have S9 := Lib.hid h9
            clear hown8 hg8 hat8 h9 OW
            go_wp2
            go_roundw
            case rel => exact ⟨us ++ [0], U9, c9, F9, by rw [HL9.out]; omega, by rw [HL9.out]; go_num, by rw [HL9.out], HUD.out.snoc (by omega) (by omega), by rw [HL9.out]; exact S9.out⟩
            case measure => simp [intOf]; omega
          · have hd' : ((su.length : Int) != (us.length : Int)) = true := by simp; omega
            clear hd
            go_wp2_with fail
            refine (below_small 3 (by omega) (by omega) g A c bs W0 _ S3.out.drw).mono ?_
            rintro e w5 ⟨r5, rfl, hr51, hr52, hd5, hg5⟩
            have S5 := Lib.hid (S3.out.call hd5 hg5)
            clear S3 hd5 hg5
            have hz := S5.out.wr.size
            have OW := Lib.hid (own_flat (S5.out.own 0 rfl).1).1
            simp only [List.length_map] at OW
            go_wp2_with (first | (at_builtin; refine wpList_append_own_at _ rfl (.tmp 23) (.tmp 25) 26 rfl w.heap.size 3 i0 (.int .i64 0) 1 8 Tryz.underlying26 hi0 hz0 hz1 hz2 rfl (by decide) (.slice U us.length cu) us.length (us.map (.int .i64)) rfl (by exact OW.out.alloc _) ⟨w5.heap.size, 0, none⟩ 1 1 [.int .i64 r5] rfl rfl ?c1 ?c2 ?c3 ?c4 ?c5 ?_))
            try case c1 => exact newI_cell _ _ _
            case c2 => simp [Value.oneCell']
            case c3 => unfold maxLen; omega
            case c4 => omega
            case c5 => first | omega | (simp; omega)
            intro v' w8 hown8 hg8 _ hat8
            obtain ⟨F9, h9⟩ := S5.out.appI2 hown8 hg8 (by simpa using hat8)
            have HL9 := Lib.hid (show (us ++ [r5]).length = us.length + 1 from by simp)
            obtain ⟨U9, c9, hv9, _⟩ := rdI_slice (rd_flat (h9.rd 0 rfl))
            rw [HL9.out] at hv9
            subst hv9
            have S9 := Lib.hid h9
            clear hown8 hg8 hat8 h9 OW
            go_wp2
            go_roundw
            case rel => exact ⟨us ++ [r5], U9, c9, F9, by rw [HL9.out]; omega, by rw [HL9.out]; go_num, by rw [HL9.out], HUD.out.snoc (by omega) (by omega), by rw [HL9.out]; exact S9.out⟩
            case measure => simp [intOf]; omega
        · have hge2 : ¬ (us.length : Int) < 4 := by omega
          have HX := Lib.hid (show us.length = 4 from by omega)
          clear hlt2
          have S4 := Lib.hid S3.out.wrap
          obtain ⟨vs, G, ov, ol, hF⟩ := rows_raw (S4.out.own 1 rfl).1
          have OV := Lib.hid ov
          have OL := Lib.hid ol
          have HF := Lib.hid hF
          have hz := S3.out.wr.size
          clear ov ol hF S3
          go_wp2_with (first | (at_builtin; refine wpList_append_own_at _ rfl (.tmp 27) (.tmp 29) 30 rfl w.heap.size 26 ii (.slice none 0 0) 1 24 Tryz.underlying30 hj0 hjz hjs hjb rfl (by decide) (.slice O su.length co) su.length vs rfl (by exact OV.out.alloc _) ⟨wr.heap.size, 0, none⟩ 1 1 [.slice U us.length cu] rfl rfl ?c1 ?c2 ?c3 ?c4 ?c5 ?_))
          try case c1 => exact newI_cell _ _ _
          case c2 => simp [Value.oneCell']
          case c3 => unfold maxLen; omega
          case c4 => omega
          case c5 => first | omega | (simp; omega)
          intro v' w8 hown8 hg8 _ hat8
          obtain ⟨F9, h9⟩ := Sd.appG (f := cellsI1) (x := us) rfl S4.out OL.out HF.out hown8 hg8 (by simpa using hat8)
          have HL9 := Lib.hid (show (su ++ [us]).length = su.length + 1 from by simp)
          obtain ⟨O9, c9, hv9⟩ := rows_slice (h9.rd 0 rfl)
          rw [HL9.out] at hv9
          subst hv9
          have S9 := Lib.hid h9
          have HS9 := Lib.hid (show DrSu (su ++ [us]) from by
            intro r hr
            rcases List.mem_append.1 hr with hr | hr
            · exact HSU.out r hr
            · simp at hr; subst hr; exact ⟨HX.out, HUD.out⟩)
          clear hown8 hg8 hat8 h9
          go_wp2
          go_roundw
          case rel => exact ⟨su ++ [us], O9, c9, F9, by rw [HL9.out]; omega, by rw [HL9.out]; go_num, by rw [HL9.out], HS9.out, by rw [HL9.out]; exact S9.out⟩
          case measure => simp [intOf]; omega
    · have hge : ¬ (su.length : Int) < 4 := by omega
      have HX := Lib.hid (show su.length = 4 from by omega)
      go_wp2
      go_ret
      exact ⟨_, rfl, su, ⟨HX.out, HSU.out⟩, Fo, (S1.out.own 0 rfl).1, (S1.out.own 0 rfl).2, S1.out.drw, wr_grown S1.out.wr⟩
end Go.Proofs.YtdbnhdiboemmiacGreat
