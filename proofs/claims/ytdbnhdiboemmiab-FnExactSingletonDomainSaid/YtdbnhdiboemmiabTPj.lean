/- DERIVED. CONTRACTS of the laws' helpers over Project and slices of it, by trees. -/
import Derived.Test.YtdbnhdiboemmiabDats
import Derived.Test.YtdbnhdiboemmiabModT
import Derived.Deep.RegionWith
import Derived.Deep.RegionHeld3

section
namespace Go.Proofs.Ytdbnhdiboemmiab
open Go.RowKit
set_option linter.unusedVariables false

theorem thin_StepL (d : (Int × Int)) : thinL (cellsPt d) := ⟨trivial, trivial, trivial⟩
theorem szL_Step0 : ∀ xs : List (Int × Int), szL (xs.flatMap cellsPt) = 0
  | [] => rfl
  | x :: xs => by rw [List.flatMap_cons, szL_app, szL_Step0 xs]; rfl

end Go.Proofs.Ytdbnhdiboemmiab
end

section
namespace Go.Proofs.Ytdbnhdiboemmiab
open Go.RowKit
set_option linter.unusedVariables false

theorem thin_ModeL (d : Md) : thinL (cellsM d) := ⟨trivial, thin_ints _, thin_ints _, trivial⟩
end Go.Proofs.Ytdbnhdiboemmiab
end

section
namespace Go.Proofs.Ytdbnhdiboemmiab
open Go.RowKit
set_option linter.unusedVariables false

end Go.Proofs.Ytdbnhdiboemmiab
end

section
namespace Go.Proofs.Ytdbnhdiboemmiab
open Go.RowKit
set_option linter.unusedVariables false

theorem thin_LinkL (d : Lk) : thinL (cellsL d) := ⟨trivial, trivial, trivial, trivial, trivial⟩
theorem szL_Link0 : ∀ xs : List Lk, szL (xs.flatMap cellsL) = 0
  | [] => rfl
  | x :: xs => by rw [List.flatMap_cons, szL_app, szL_Link0 xs]; rfl

end Go.Proofs.Ytdbnhdiboemmiab
end

section
namespace Go.Proofs.Ytdbnhdiboemmiab
open Go.RowKit
set_option linter.unusedVariables false

theorem thin_IntL (d : (List Int)) : thinL (cellsI1 d) := ⟨thin_ints _, trivial⟩
theorem thin_IntSS (xs : List (List Int)) : (trSu xs).thins := thin_rows cellsI1_len (by omega) thin_IntL xs

set_option maxRecDepth 100000 in
set_option maxHeartbeats 1000000 in
theorem szIntSS_t (xs : List (List Int)) (v : Value) (left : Int) (w : World) (hr : (trSu xs).rd w v) (hk : (trSu xs).ok) (h0 : 0 ≤ left) (h3 : left ≤ 1048576) :
    Calls Try.prog 26 #[v, .int .i64 left] w fun e w' => e = .returned (.int .i64 (if left < (trSu xs).sz then -1 else left - (trSu xs).sz)) ∧ Below w.heap.size w w' := by
  obtain ⟨hl, A, c, rfl, ga⟩ := rdIntSS_t hr
  have GA := Lib.hid ga
  clear ga hr
  have HZ := Lib.hid (show (trSu xs).sz = xs.length + szL (xs.flatMap cellsI1) from rfl)
  generalize (trSu xs).sz = Z at HZ ⊢
  generalize hres : (if left < (Z : Int) then -1 else left - (Z : Int)) = res
  have RES := Lib.hid hres
  clear hres
  by_cases hn : left < (xs.length : Int)
  · have hn' : left - (xs.length : Int) < 0 := by omega
    go_enter Try.func26, Try.ntmps26
    go_wp2
    go_ret
    exact ⟨ret_numZ (by rw [← RES.out, if_pos (by have := HZ.out; omega)]), Below.refl _ _⟩
  have hn' : ¬ left - (xs.length : Int) < 0 := by omega
  have hn2 : (xs.length : Int) ≤ 1048576 := by omega
  have KL := Lib.hid (okL_flat (f := cellsI1) (xs := xs) hk)
  clear hk
  go_enter Try.func26, Try.ntmps26
  go_wp2
  go_loopw [1, 5] (fun q i wr => ∃ k : Nat, k ≤ xs.length ∧ i = .int .i64 k ∧ q = .int .i64 (left - xs.length - (szL ((xs.take k).flatMap cellsI1) : Nat)) ∧ 0 ≤ left - xs.length - (szL ((xs.take k).flatMap cellsI1) : Nat) ∧ Below w.heap.size w wr) (fun _ i _ => xs.length - (intOf i).toNat)
  case atStart => exact ⟨0, Nat.zero_le _, rfl, by simp [szL], by simp [szL]; omega, Below.refl _ _⟩
  case round =>
    obtain ⟨k, hk, rfl, rfl, hq, hbel⟩ := hrel
    by_cases hlt : k < xs.length
    · have hlt' : (k : Int) < (xs.length : Int) := by omega
      obtain ⟨b, o, rfl, hb, hc⟩ := GA.out k hlt
      obtain ⟨A0, c0, hc0, r0⟩ := hc k hlt
      have hx0 := (hbel.cell (p := ⟨b, o + k, none⟩) hb).trans hc0
      have HM := Lib.hid (Tr.rd_below hbel (Nat.le_refl _) _ _ r0)
      clear hc hc0 r0
      have HT := Lib.hid (szL_flat (f := cellsI1) hlt)
      have HLE := szL_flat_le (f := cellsI1) xs (k + 1)
      have HSZ := Lib.hid (show (trI xs[k]).sz = szL (cellsI1 xs[k]) from (by simp [cellsI1, szL]))
      have HKK := Lib.hid (KL.out _ (List.getElem_mem hlt))
      have HK := Lib.hid (show (trI xs[k]).ok from HKK.out.1)
      clear HKK
      generalize szL (cellsI1 xs[k]) = ze at HT HSZ
      generalize xs[k] = m at hx0 HM HK HSZ
      have HB := Lib.hid hbel
      clear hbel
      generalize hQ : left - (xs.length : Int) - (szL ((xs.take k).flatMap cellsI1) : Nat) = Q at hq ⊢
      have HQ := Lib.hid hQ
      have hq2 : Q ≤ 1048576 := by omega
      clear hQ
      go_wp2_with fail
      refine (szIntS_t m _ _ _ (by exact HM.out) HK.out hq hq2).mono ?_
      rintro e w1 ⟨rfl, hb1⟩
      rw [HSZ.out]
      all_goals
        have HB1 := Lib.hid (HB.out.trans (hb1.mono HB.out.size))
        clear hb1
        by_cases hs : Q < (ze : Int)
        · rw [if_pos hs]
          go_wp2
          go_ret
          exact ⟨ret_numZ (by rw [← RES.out, if_pos (by have := HZ.out; have := HT.out; have := HQ.out; omega)]), HB1.out⟩
        · rw [if_neg hs]
          have hs' : 0 ≤ Q - (ze : Int) := by omega
          go_wp2
          go_roundw
          case rel => exact ⟨k + 1, by omega, by go_num, by have := HT.out; have := HQ.out; congr 1; omega, by have := HT.out; have := HQ.out; omega, HB1.out⟩
          case measure => simp [intOf]; omega
    · have hge : ¬ (k : Int) < (xs.length : Int) := by omega
      obtain rfl : k = xs.length := by omega
      rw [List.take_length] at hq ⊢
      have HB := Lib.hid hbel
      clear hbel
      go_wp2
      go_ret
      exact ⟨ret_numZ (by rw [← RES.out, if_neg (by have := HZ.out; omega)]; have := HZ.out; omega), HB.out⟩

set_option maxRecDepth 100000 in
set_option maxHeartbeats 1000000 in
theorem eqIntSS_t (xs : List (List Int)) (v u : Value) (w : World) (hv : (trSu xs).rd w v) (hu : (trSu xs).rd w u) :
    Calls Try.prog 36 #[v, u] w fun e w' => e = .returned (.bool true) ∧ Below w.heap.size w w' := by
  obtain ⟨hl, A, c, rfl, ga⟩ := rdIntSS_t hv
  obtain ⟨_, B, c2, rfl, gb⟩ := rdIntSS_t hu
  have GA := Lib.hid ga
  have GB := Lib.hid gb
  clear ga gb hv hu
  go_enter Try.func36, Try.ntmps36
  go_wp2
  go_loopw [5] (fun i wr => ∃ k : Nat, k ≤ xs.length ∧ i = .int .i64 k ∧ Below w.heap.size w wr) (fun i _ => xs.length - (intOf i).toNat)
  case atStart => exact ⟨0, Nat.zero_le _, rfl, Below.refl _ _⟩
  case round =>
    obtain ⟨k, hk, rfl, hbel⟩ := hrel
    by_cases hlt : k < xs.length
    · have hlt' : (k : Int) < (xs.length : Int) := by omega
      obtain ⟨b1, o1, rfl, hb1, hc⟩ := GA.out k hlt
      obtain ⟨b2, o2, rfl, hb2, hd⟩ := GB.out k hlt
      obtain ⟨A0, c0, hc0, r0⟩ := hc k hlt
      obtain ⟨B0, d0, hd0, s0⟩ := hd k hlt
      have hx0 := (hbel.cell (p := ⟨b1, o1 + k, none⟩) hb1).trans hc0
      have hy0 := (hbel.cell (p := ⟨b2, o2 + k, none⟩) hb2).trans hd0
      have HM := Lib.hid (Tr.rd_below hbel.drew (Nat.le_refl _) _ _ r0)
      have HN := Lib.hid (Tr.rd_below hbel.drew (Nat.le_refl _) _ _ s0)
      clear hc hd hc0 hd0 r0 s0
      have HB := Lib.hid hbel
      clear hbel
      generalize xs[k] = m at hx0 hy0 HM HN
      go_wp2
      go_region_with (go_at_call 35; refine (eqIntS_t m _ _ _ (by exact HM.out) (by exact HN.out)).mono ?_; rintro e w1 ⟨rfl, hb3⟩)
      all_goals
        go_wp2
        go_roundw
        case rel => exact ⟨k + 1, by omega, by go_num, HB.out.drew.trans (hb3.mono HB.out.size)⟩
        case measure => simp [intOf]; omega
    · have hge : ¬ (k : Int) < (xs.length : Int) := by omega
      have HB := Lib.hid hbel
      clear hbel
      go_wp2
      go_ret
      exact ⟨rfl, HB.out⟩

theorem infoInt_t : (Try.prog.info? 22).map (fun i => (i.zero, i.size, i.bytes)) = some (some (.slice none 0 0), 1, 24) := by kernel_rfl

set_option maxRecDepth 100000 in
set_option maxHeartbeats 1000000 in
theorem toIntSS_t (xs : List (List Int)) (v : Value) (w : World) (hv : (trSu xs).rd w v) (hl : (trSu xs).sz ≤ 1073741824) :
    Calls Try.prog 31 #[v] w fun e w' => ∃ u F, e = .returned u ∧ (trSu xs).own w' w.heap.size u F ∧ F.Nodup ∧ Below w.heap.size w w' := by
  obtain ⟨hla, A, c, rfl, ga⟩ := rdIntSS_t hv
  have GA := Lib.hid ga
  clear ga hv
  have hsz : (trSu xs).sz = xs.length + szL (xs.flatMap cellsI1) := rfl
  rw [hsz] at hl
  clear hsz
  obtain ⟨i0, hi, hz0, hz1, hz2⟩ := info_parts infoInt_t
  go_enter Try.func31, Try.ntmps31
  go_wp2_with (at_make; refine wpList_make_full _ rfl _ _ 23 rfl w.heap.size 22 i0 (.slice none 0 0) 1 Try.underlying23 hi hz0 hz1 .i64 .i64 _ _ xs.length rfl rfl rfl rfl (by rw [hz2]; omega) (by unfold maxLen; omega) (Nat.le_refl _) ?_; intro w1 hown1 hgrow1)
  have hbel1 : Below w.heap.size w w1 := (Below.refl _ _).grown hgrow1 (Nat.le_refl _) (by simp)
  have hm := hown1.1
  generalize hms : (madeCells _ (xs.length * 1)).toList = raw at hown1 hm
  have HM := Lib.hid hm
  have HO := Lib.hid hown1
  clear hm hms hgrow1 hown1
  go_loopw [4] (fun i wr => ∃ k : Nat, k ≤ xs.length ∧ i = .int .i64 k ∧ (∃ F, RowAt wr w.heap.size 22 1 xs.length w.heap.size xs.length (mixR cellsI1 1 raw xs k) F) ∧ Below w.heap.size w wr) (fun i _ => xs.length - (intOf i).toNat)
  case atStart => exact ⟨0, Nat.zero_le _, rfl, ⟨_, by rw [mixR_zero]; exact row_made HO.out⟩, hbel1⟩
  case round =>
    obtain ⟨k, hk, rfl, ⟨F, how⟩, hbel⟩ := hrel
    by_cases hlt : k < xs.length
    · have hlt' : (k : Int) < (xs.length : Int) := by omega
      obtain ⟨b, o, rfl, hb, hc⟩ := GA.out k hlt
      obtain ⟨A0, c0, hc0, r0⟩ := hc k hlt
      have hx0 := (hbel.cell (p := ⟨b, o + k, none⟩) hb).trans hc0
      have hse := szL_flat_at (f := cellsI1) hlt
      have HRD := Lib.hid (Tr.rd_below hbel (Nat.le_refl _) _ _ r0)
      have hzz : szL (cellsI1 xs[k]) = (trI xs[k]).sz := by simp [cellsI1, szL]
      have hle : (trI xs[k]).sz ≤ 1073741824 := by omega
      have HST := Lib.hid (mixR_set cellsI1_len HM.out hlt)
      have HLEN := Lib.hid (mixR_len cellsI1_len HM.out hk)
      clear hc hse hc0 r0
      generalize xs[k] = m at hx0 HRD HST hle
      have HB := Lib.hid hbel
      have HW := Lib.hid how
      clear hbel how
      go_wp2_with fail
      refine (toIntS_t m _ _ HRD.out hle).mono ?_
      rintro e w2 ⟨u, H, rfl, ho, hn, hb2⟩
      obtain ⟨A1, c1, rfl⟩ := slice_ints (Tr.own_rd _ _ _ ho)
      have how2 := HW.out.below hb2 (Nat.le_refl _)
      have hcl : (mixR cellsI1 1 raw xs k).length = xs.length * 1 := HLEN.out
      obtain ⟨y0, hy0⟩ := how2.some (i := k) (by omega)
      have hf := how2.frozen
      have hgw := how2.lt.2
      have hw0 := HW.out.lt.2
      have hoL : ownL w2 wr.heap.size (cellsI1 m) [.slice A1 m.length c1] H := ⟨_, [], H, [], rfl, ho, ⟨rfl, rfl⟩, by simp⟩
      obtain ⟨F', hp, _⟩ := RowAt.putL (K := wr.heap.size) HB.out.size hw0 (cellsI1 m) _ w2 _ F H (k * 1) how2 (by rw [cellsI1_len]; omega) hoL hn (fun j hj hj2 => by
        have h1 := (ownL_lt _ _ _ hoL j hj).1
        have h2 := (HW.out.allLt j hj2).2
        omega)
      rw [HST.out] at hp
      rw [Nat.mul_one] at hp
      have HP := Lib.hid hp
      have HBZ := Lib.hid (setL_below (Nat.le_refl _) [.slice A1 m.length c1] w2 (k) (HB.out.trans (hb2.mono HB.out.size)))
      clear hp hoL how2 hb2 hn hcl
      go_wp2
      go_roundw
      case rel => exact ⟨k + 1, by omega, by go_num, ⟨F', HP.out⟩, HBZ.out⟩
      case measure => simp [intOf]; omega
    · have hge : ¬ (k : Int) < (xs.length : Int) := by omega
      obtain rfl : k = xs.length := by omega
      rw [mixR_full HM.out] at how
      have HW := Lib.hid how
      have HB := Lib.hid hbel
      clear how hbel
      go_wp2
      go_ret
      exact ⟨_, rfl, F, HW.out.1, HW.out.2, HB.out⟩

set_option maxRecDepth 100000 in
set_option maxHeartbeats 2000000 in
theorem markIntSS_t (k B : Nat) (xs : List (List Int)) (v : Value) (F : List Nat) (w : World) (hown : (trSu xs).own w B v F) (hn : F.Nodup) (h0 : 0 < k) (hk : k + (trSu xs).cnt ≤ 1000000000) :
    Calls Try.prog 39 #[v, .int .i64 k] w fun e w' => ∃ F', e = .returned (.int .i64 (k + (trSu xs).cnt : Nat)) ∧ ((trSu xs).mkd k).own w' B v F' ∧ F'.Nodup ∧ (∀ x ∈ F', x ∈ F) ∧ Wr F w w' := by
  rcases own_form hown with ⟨rfl, hl⟩ | ⟨g, cap, rfl, hcap, hmx⟩
  · obtain rfl : xs = [] := List.eq_nil_of_length_eq_zero hl
    have HO := Lib.hid hown
    have HN := Lib.hid hn
    clear hown hn hl
    go_enter Try.func39, Try.ntmps39
    go_wp2
    refine wp_loop_rounds 1 ?_
    rw [rounds_succ]
    go_wp2
    go_ret
    first | exact ⟨rfl, F, HO.out, HN.out, fun _ h => h, Wr.refl _ _⟩ | exact ⟨F, rfl, HO.out, HN.out, fun _ h => h, Wr.refl _ _⟩
  have HO := Lib.hid (show RowAt w B 22 1 xs.length g cap (xs.flatMap cellsI1) F from ⟨hown, hn⟩)
  clear hown hn
  have hC : (trSu xs).cnt = cntL (xs.flatMap cellsI1) := rfl
  rw [hC] at hk ⊢
  clear hC
  go_enter Try.func39, Try.ntmps39
  go_wp2
  go_loopw [1, 5] (fun q i wr => ∃ j : Nat, j ≤ xs.length ∧ i = .int .i64 j ∧ q = .int .i64 (k + cntL ((xs.flatMap cellsI1).take (j)) : Nat) ∧ (∃ F', RowAt wr B 22 1 xs.length g cap (mixC k (xs.flatMap cellsI1) (j)) F' ∧ ∀ x ∈ F', x ∈ F) ∧ Wr F w wr) (fun _ i _ => xs.length - (intOf i).toNat)
  case atStart => exact ⟨0, Nat.zero_le _, rfl, by simp [cntL], ⟨F, by rw [mixC_zero]; exact HO.out, fun _ h => h⟩, Wr.refl _ _⟩
  case round =>
    obtain ⟨j, hj, rfl, rfl, ⟨F1, how, hsub⟩, hwr⟩ := hrel
    by_cases hlt : j < xs.length
    · have hlt' : (j : Int) < (xs.length : Int) := by omega
      have t0 : (xs.flatMap cellsI1)[j]? = some (trI xs[j]) := by simpa [cellsI1] using flatMap_get cellsI1_len xs j hlt 0 (by omega)
      have a0 : cntL ((xs.flatMap cellsI1).take (j + 1)) = cntL ((xs.flatMap cellsI1).take (j)) + (trI xs[j]).cnt := cntL_take t0
      have hle := cntL_le (xs.flatMap cellsI1) (j + 1)
      generalize hQ : k + cntL ((xs.flatMap cellsI1).take (j)) = Q
      have e0 : k + cntL ((xs.flatMap cellsI1).take (j)) = Q := by omega
      have e1 : k + cntL ((xs.flatMap cellsI1).take (j + 1)) = Q + (trI xs[j]).cnt := by omega
      have hbd : Q + (trI xs[j]).cnt ≤ 1000000000 := by omega
      have hQ0 : 0 < Q := by omega
      clear hle a0
      have T0 := Lib.hid t0
      clear t0
      have E0 := Lib.hid e0
      clear e0
      have E1 := Lib.hid e1
      clear e1
      have HQ := Lib.hid hQ
      clear hQ
      have hlen := how.len
      rw [mixC_len] at hlen
      have HN_ := Lib.hid (show ((j + 1) = j + 1) from by omega)
      have HOW0 := Lib.hid how
      have HSUB0 := Lib.hid hsub
      have HWR0 := Lib.hid hwr
      clear how hsub hwr
      obtain ⟨x0, hz0, hr0⟩ := rowAt_peek HOW0.out (i := j) (by omega) T0.out
      obtain ⟨A0, c0, rfl⟩ := slice_ints hr0
      clear hr0
      have hf := HOW0.out.frozen
      have hgw := HOW0.out.lt.2
      obtain ⟨x0, H0, hx0, ho0, hn0, hs0, back0⟩ := rowAt_markR HOW0.out T0.out
      rw [E0.out] at back0
      obtain rfl : .slice A0 xs[j].length c0 = x0 := Option.some.inj ((hz0).symm.trans hx0)
      have HO0 := Lib.hid ho0
      have BK0 := Lib.hid back0
      have HS0 := Lib.hid hs0
      clear hx0 ho0 hs0 back0
      go_wp2_with fail
      clear hf hgw hz0
      refine (markIntS_t (Q) B xs[j] _ H0 _ (by exact HO0.out) hn0 (by omega) (by omega)).mono ?_
      rintro e w0_ ⟨K0, rfl, o, h, hs, hw⟩
      obtain ⟨G0, m0, ms0, mw0⟩ := BK0.out _ K0 o h hs hw
      have HOW1 := Lib.hid m0
      have HSUB1 := Lib.hid (fun x hx => HSUB0.out x (ms0 x hx))
      have HWR1 := Lib.hid (HWR0.out.trans (mw0.sub (fun x hx => HSUB0.out x hx)))
      clear m0 ms0 mw0 HOW0 HSUB0 HWR0 o h hs hw hn0 HO0 BK0 HS0
      have HF := Lib.hid (show RowAt _ B 22 1 xs.length g cap (mixC k (xs.flatMap cellsI1) ((j + 1))) _ from by exact HOW1.out)
      have HC := Lib.hid (show k + cntL ((xs.flatMap cellsI1).take ((j + 1))) = Q + (trI xs[j]).cnt from by exact E1.out)
      go_wp2
      go_roundw
      case rel => exact ⟨j + 1, by omega, by go_num, by rw [HC.out]; rfl, ⟨_, HF.out, HSUB1.out⟩, HWR1.out⟩
      case measure => simp [intOf]; omega
    · have hge : ¬ (j : Int) < (xs.length : Int) := by omega
      obtain rfl : j = xs.length := by omega
      have hfl := flatMap_len cellsI1_len xs
      rw [mixC_full k _ (by omega)] at how
      rw [List.take_of_length_le (by omega)]
      have HW := Lib.hid how
      have HB := Lib.hid hwr
      have HS := Lib.hid hsub
      clear how hwr hsub hfl
      go_wp2
      go_ret
      first | exact ⟨rfl, F1, HW.out.1, HW.out.2, HS.out, HB.out⟩ | exact ⟨F1, rfl, HW.out.1, HW.out.2, HS.out, HB.out⟩

set_option maxRecDepth 100000 in
set_option maxHeartbeats 2000000 in
theorem heldIntSS_t (k : Nat) (xs : List (List Int)) (v : Value) (w : World) (hr : ((trSu xs).mkd k).rd w v) (h0 : 0 < k) (hk : k + (trSu xs).cnt ≤ 1000000000) :
    Calls Try.prog 41 #[v, .int .i64 k] w fun e w' => e = .returned (.int .i64 (k + (trSu xs).cnt : Nat)) ∧ Below w.heap.size w w' := by
  obtain ⟨hl, _, A, c, rfl, ga⟩ := rd_cells hr
  have GA := Lib.hid ga
  clear ga hr
  have hC : (trSu xs).cnt = cntL (xs.flatMap cellsI1) := rfl
  rw [hC] at hk ⊢
  clear hC
  go_enter Try.func41, Try.ntmps41
  go_wp2
  go_loopw [1, 5] (fun q i wr => ∃ j : Nat, j ≤ xs.length ∧ i = .int .i64 j ∧ q = .int .i64 (k + cntL ((xs.flatMap cellsI1).take (j)) : Nat) ∧ Below w.heap.size w wr) (fun _ i _ => xs.length - (intOf i).toNat)
  case atStart => exact ⟨0, Nat.zero_le _, rfl, by simp [cntL], Below.refl _ _⟩
  case round =>
    obtain ⟨j, hj, rfl, rfl, hbel⟩ := hrel
    by_cases hlt : j < xs.length
    · have hlt' : (j : Int) < (xs.length : Int) := by omega
      have hfl := flatMap_len cellsI1_len xs
      obtain ⟨b, o, rfl, hb, hc⟩ := GA.out (j) (by rw [mkdL_len, hfl]; omega)
      clear hfl
      have t0 : (xs.flatMap cellsI1)[j]? = some (trI xs[j]) := by simpa [cellsI1] using flatMap_get cellsI1_len xs j hlt 0 (by omega)
      have a0 : cntL ((xs.flatMap cellsI1).take (j + 1)) = cntL ((xs.flatMap cellsI1).take (j)) + (trI xs[j]).cnt := cntL_take t0
      have hle := cntL_le (xs.flatMap cellsI1) (j + 1)
      generalize hQ : k + cntL ((xs.flatMap cellsI1).take (j)) = Q
      have e0 : k + cntL ((xs.flatMap cellsI1).take (j)) = Q := by omega
      have e1 : k + cntL ((xs.flatMap cellsI1).take (j + 1)) = Q + (trI xs[j]).cnt := by omega
      have hbd : Q + (trI xs[j]).cnt ≤ 1000000000 := by omega
      have hQ0 : 0 < Q := by omega
      clear hle a0
      have T0 := Lib.hid t0
      clear t0
      have E0 := Lib.hid e0
      clear e0
      have E1 := Lib.hid e1
      clear e1
      have HQ := Lib.hid hQ
      clear hQ
      obtain ⟨x0, hx0, r0⟩ := hc _ _ (mkdL_get k _ _ _ T0.out)
      rw [E0.out] at r0
      obtain ⟨A0, c0, rfl⟩ := slice_mints r0
      have R0 := Lib.hid r0
      clear r0
      have HX0 := Lib.hid hx0
      clear hx0
      have HN_ := Lib.hid (show ((j + 1) = j + 1) from by omega)
      have HC := Lib.hid (show k + cntL ((xs.flatMap cellsI1).take ((j + 1))) = Q + (trI xs[j]).cnt from by exact E1.out)
      clear hc HN_ T0 E0 E1 HQ
      have HB0 := Lib.hid hbel
      clear hbel
      have hy0 := (HB0.out.cell (p := ⟨b, o + j, none⟩) hb).trans HX0.out
      go_wp2_with fail
      clear hy0
      refine (heldIntS_t (Q) xs[j] _ _ (by exact Tr.rd_below HB0.out (Nat.le_refl _) _ _ R0.out) (by omega) (by omega)).mono ?_
      rintro e ws0 ⟨rfl, bb⟩
      have HB1 := Lib.hid (HB0.out.trans (bb.mono HB0.out.size))
      clear HB0 bb
      go_wp2
      go_roundw
      case rel => exact ⟨j + 1, by omega, by go_num, by rw [HC.out]; rfl, HB1.out⟩
      case measure => simp [intOf]; omega
    · have hge : ¬ (j : Int) < (xs.length : Int) := by omega
      obtain rfl : j = xs.length := by omega
      have hfl := flatMap_len cellsI1_len xs
      rw [List.take_of_length_le (by omega)]
      have HB := Lib.hid hbel
      clear hbel hfl
      go_wp2
      go_ret
      exact ⟨rfl, HB.out⟩
end Go.Proofs.Ytdbnhdiboemmiab
end

section
namespace Go.Proofs.Ytdbnhdiboemmiab
open Go.RowKit
set_option linter.unusedVariables false

end Go.Proofs.Ytdbnhdiboemmiab
end

section
namespace Go.Proofs.Ytdbnhdiboemmiab
open Go.RowKit
set_option linter.unusedVariables false

end Go.Proofs.Ytdbnhdiboemmiab
end
