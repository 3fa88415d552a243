/- DERIVED. CONTRACTS of the laws' helpers over Project and slices of it, by trees. -/
import Derived.Test.YtgbpomakomddjabDats
import Derived.Test.YtgbpomakomddjabModT
import Derived.Deep.RegionWith
import Derived.Deep.RegionHeld3

section
namespace Go.Proofs.Ytgbpomakomddjab
open Go.RowKit
set_option linter.unusedVariables false

theorem thin_StepL (d : (Int × Int)) : thinL (cellsPt d) := ⟨trivial, trivial, trivial⟩
theorem szL_Step0 : ∀ xs : List (Int × Int), szL (xs.flatMap cellsPt) = 0
  | [] => rfl
  | x :: xs => by rw [List.flatMap_cons, szL_app, szL_Step0 xs]; rfl

end Go.Proofs.Ytgbpomakomddjab
end

section
namespace Go.Proofs.Ytgbpomakomddjab
open Go.RowKit
set_option linter.unusedVariables false

theorem thin_ModeL (d : Md) : thinL (cellsM d) := ⟨trivial, thin_ints _, thin_ints _, trivial⟩
end Go.Proofs.Ytgbpomakomddjab
end

section
namespace Go.Proofs.Ytgbpomakomddjab
open Go.RowKit
set_option linter.unusedVariables false

end Go.Proofs.Ytgbpomakomddjab
end

section
namespace Go.Proofs.Ytgbpomakomddjab
open Go.RowKit
set_option linter.unusedVariables false

theorem thin_LinkL (d : Lk) : thinL (cellsL d) := ⟨trivial, trivial, trivial, trivial, trivial⟩
theorem szL_Link0 : ∀ xs : List Lk, szL (xs.flatMap cellsL) = 0
  | [] => rfl
  | x :: xs => by rw [List.flatMap_cons, szL_app, szL_Link0 xs]; rfl

end Go.Proofs.Ytgbpomakomddjab
end

section
namespace Go.Proofs.Ytgbpomakomddjab
open Go.RowKit
set_option linter.unusedVariables false

theorem thin_IntL (d : (List Int)) : thinL (cellsI1 d) := ⟨thin_ints _, trivial⟩
theorem thin_IntSS (xs : List (List Int)) : (trSu xs).thins := thin_rows cellsI1_len (by omega) thin_IntL xs

set_option maxRecDepth 100000 in
set_option maxHeartbeats 1000000 in
theorem szIntSS_t (xs : List (List Int)) (v : Value) (left : Int) (w : World) (hr : (trSu xs).rd w v) (hk : (trSu xs).ok) (h0 : 0 ≤ left) (h3 : left ≤ 1048576) :
    Calls Try.prog 14 #[v, .int .i64 left] w fun e w' => e = .returned (.int .i64 (if left < (trSu xs).sz then -1 else left - (trSu xs).sz)) ∧ Below w.heap.size w w' := by
  obtain ⟨hl, A, c, rfl, ga⟩ := rdIntSS_t hr
  have GA := Lib.hid ga
  clear ga hr
  have HZ := Lib.hid (show (trSu xs).sz = xs.length + szL (xs.flatMap cellsI1) from rfl)
  generalize (trSu xs).sz = Z at HZ ⊢
  generalize hres : (if left < (Z : Int) then -1 else left - (Z : Int)) = res
  have RES := Lib.hid hres
  clear hres
  by_cases hn : left < (xs.length : Int)
  · have hn' : left - (xs.length : Int) < 0 := by omega
    go_enter Try.func14, Try.ntmps14
    go_wp2
    go_ret
    exact ⟨ret_numZ (by rw [← RES.out, if_pos (by have := HZ.out; omega)]), Below.refl _ _⟩
  have hn' : ¬ left - (xs.length : Int) < 0 := by omega
  have hn2 : (xs.length : Int) ≤ 1048576 := by omega
  have KL := Lib.hid (okL_flat (f := cellsI1) (xs := xs) hk)
  clear hk
  go_enter Try.func14, Try.ntmps14
  go_wp2
  go_loopw [1, 5] (fun q i wr => ∃ k : Nat, k ≤ xs.length ∧ i = .int .i64 k ∧ q = .int .i64 (left - xs.length - (szL ((xs.take k).flatMap cellsI1) : Nat)) ∧ 0 ≤ left - xs.length - (szL ((xs.take k).flatMap cellsI1) : Nat) ∧ Below w.heap.size w wr) (fun _ i _ => xs.length - (intOf i).toNat)
  case atStart => exact ⟨0, Nat.zero_le _, rfl, by simp [szL], by simp [szL]; omega, Below.refl _ _⟩
  case round =>
    obtain ⟨k, hk, rfl, rfl, hq, hbel⟩ := hrel
    by_cases hlt : k < xs.length
    · have hlt' : (k : Int) < (xs.length : Int) := by omega
      obtain ⟨b, o, rfl, hb, hc⟩ := GA.out k hlt
      obtain ⟨A0, c0, hc0, r0⟩ := hc k hlt
      have hx0 := (hbel.cell (p := ⟨b, o + k, none⟩) hb).trans hc0
      have HM := Lib.hid (Tr.rd_below hbel (Nat.le_refl _) _ _ r0)
      clear hc hc0 r0
      have HT := Lib.hid (szL_flat (f := cellsI1) hlt)
      have HLE := szL_flat_le (f := cellsI1) xs (k + 1)
      have HSZ := Lib.hid (show (trI xs[k]).sz = szL (cellsI1 xs[k]) from (by simp [cellsI1, szL]))
      have HKK := Lib.hid (KL.out _ (List.getElem_mem hlt))
      have HK := Lib.hid (show (trI xs[k]).ok from HKK.out.1)
      clear HKK
      generalize szL (cellsI1 xs[k]) = ze at HT HSZ
      generalize xs[k] = m at hx0 HM HK HSZ
      have HB := Lib.hid hbel
      clear hbel
      generalize hQ : left - (xs.length : Int) - (szL ((xs.take k).flatMap cellsI1) : Nat) = Q at hq ⊢
      have HQ := Lib.hid hQ
      have hq2 : Q ≤ 1048576 := by omega
      clear hQ
      go_wp2_with fail
      refine (szIntS_t m _ _ _ (by exact HM.out) HK.out hq hq2).mono ?_
      rintro e w1 ⟨rfl, hb1⟩
      rw [HSZ.out]
      all_goals
        have HB1 := Lib.hid (HB.out.trans (hb1.mono HB.out.size))
        clear hb1
        by_cases hs : Q < (ze : Int)
        · rw [if_pos hs]
          go_wp2
          go_ret
          exact ⟨ret_numZ (by rw [← RES.out, if_pos (by have := HZ.out; have := HT.out; have := HQ.out; omega)]), HB1.out⟩
        · rw [if_neg hs]
          have hs' : 0 ≤ Q - (ze : Int) := by omega
          go_wp2
          go_roundw
          case rel => exact ⟨k + 1, by omega, by go_num, by have := HT.out; have := HQ.out; congr 1; omega, by have := HT.out; have := HQ.out; omega, HB1.out⟩
          case measure => simp [intOf]; omega
    · have hge : ¬ (k : Int) < (xs.length : Int) := by omega
      obtain rfl : k = xs.length := by omega
      rw [List.take_length] at hq ⊢
      have HB := Lib.hid hbel
      clear hbel
      go_wp2
      go_ret
      exact ⟨ret_numZ (by rw [← RES.out, if_neg (by have := HZ.out; omega)]; have := HZ.out; omega), HB.out⟩

set_option maxRecDepth 100000 in
set_option maxHeartbeats 1000000 in
theorem eqIntSS_t (xs : List (List Int)) (v u : Value) (w : World) (hv : (trSu xs).rd w v) (hu : (trSu xs).rd w u) :
    Calls Try.prog 21 #[v, u] w fun e w' => e = .returned (.bool true) ∧ Below w.heap.size w w' := by
  obtain ⟨hl, A, c, rfl, ga⟩ := rdIntSS_t hv
  obtain ⟨_, B, c2, rfl, gb⟩ := rdIntSS_t hu
  have GA := Lib.hid ga
  have GB := Lib.hid gb
  clear ga gb hv hu
  go_enter Try.func21, Try.ntmps21
  go_wp2
  go_loopw [5] (fun i wr => ∃ k : Nat, k ≤ xs.length ∧ i = .int .i64 k ∧ Below w.heap.size w wr) (fun i _ => xs.length - (intOf i).toNat)
  case atStart => exact ⟨0, Nat.zero_le _, rfl, Below.refl _ _⟩
  case round =>
    obtain ⟨k, hk, rfl, hbel⟩ := hrel
    by_cases hlt : k < xs.length
    · have hlt' : (k : Int) < (xs.length : Int) := by omega
      obtain ⟨b1, o1, rfl, hb1, hc⟩ := GA.out k hlt
      obtain ⟨b2, o2, rfl, hb2, hd⟩ := GB.out k hlt
      obtain ⟨A0, c0, hc0, r0⟩ := hc k hlt
      obtain ⟨B0, d0, hd0, s0⟩ := hd k hlt
      have hx0 := (hbel.cell (p := ⟨b1, o1 + k, none⟩) hb1).trans hc0
      have hy0 := (hbel.cell (p := ⟨b2, o2 + k, none⟩) hb2).trans hd0
      have HM := Lib.hid (Tr.rd_below hbel.drew (Nat.le_refl _) _ _ r0)
      have HN := Lib.hid (Tr.rd_below hbel.drew (Nat.le_refl _) _ _ s0)
      clear hc hd hc0 hd0 r0 s0
      have HB := Lib.hid hbel
      clear hbel
      generalize xs[k] = m at hx0 hy0 HM HN
      go_wp2
      go_region_with (go_at_call 20; refine (eqIntS_t m _ _ _ (by exact HM.out) (by exact HN.out)).mono ?_; rintro e w1 ⟨rfl, hb3⟩)
      all_goals
        go_wp2
        go_roundw
        case rel => exact ⟨k + 1, by omega, by go_num, HB.out.drew.trans (hb3.mono HB.out.size)⟩
        case measure => simp [intOf]; omega
    · have hge : ¬ (k : Int) < (xs.length : Int) := by omega
      have HB := Lib.hid hbel
      clear hbel
      go_wp2
      go_ret
      exact ⟨rfl, HB.out⟩

theorem infoInt_t : (Try.prog.info? 22).map (fun i => (i.zero, i.size, i.bytes)) = some (some (.slice none 0 0), 1, 24) := by kernel_rfl

set_option maxRecDepth 100000 in
set_option maxHeartbeats 1000000 in
theorem toIntSS_t (xs : List (List Int)) (v : Value) (w : World) (hv : (trSu xs).rd w v) (hl : (trSu xs).sz ≤ 1073741824) :
    Calls Try.prog 17 #[v] w fun e w' => ∃ u F, e = .returned u ∧ (trSu xs).own w' w.heap.size u F ∧ F.Nodup ∧ Below w.heap.size w w' := by
  obtain ⟨hla, A, c, rfl, ga⟩ := rdIntSS_t hv
  have GA := Lib.hid ga
  clear ga hv
  have hsz : (trSu xs).sz = xs.length + szL (xs.flatMap cellsI1) := rfl
  rw [hsz] at hl
  clear hsz
  obtain ⟨i0, hi, hz0, hz1, hz2⟩ := info_parts infoInt_t
  go_enter Try.func17, Try.ntmps17
  go_wp2_with (at_make; refine wpList_make_full _ rfl _ _ 23 rfl w.heap.size 22 i0 (.slice none 0 0) 1 Try.underlying23 hi hz0 hz1 .i64 .i64 _ _ xs.length rfl rfl rfl rfl (by rw [hz2]; omega) (by unfold maxLen; omega) (Nat.le_refl _) ?_; intro w1 hown1 hgrow1)
  have hbel1 : Below w.heap.size w w1 := (Below.refl _ _).grown hgrow1 (Nat.le_refl _) (by simp)
  have hm := hown1.1
  generalize hms : (madeCells _ (xs.length * 1)).toList = raw at hown1 hm
  have HM := Lib.hid hm
  have HO := Lib.hid hown1
  clear hm hms hgrow1 hown1
  go_loopw [4] (fun i wr => ∃ k : Nat, k ≤ xs.length ∧ i = .int .i64 k ∧ (∃ F, RowAt wr w.heap.size 22 1 xs.length w.heap.size xs.length (mixR cellsI1 1 raw xs k) F) ∧ Below w.heap.size w wr) (fun i _ => xs.length - (intOf i).toNat)
  case atStart => exact ⟨0, Nat.zero_le _, rfl, ⟨_, by rw [mixR_zero]; exact row_made HO.out⟩, hbel1⟩
  case round =>
    obtain ⟨k, hk, rfl, ⟨F, how⟩, hbel⟩ := hrel
    by_cases hlt : k < xs.length
    · have hlt' : (k : Int) < (xs.length : Int) := by omega
      obtain ⟨b, o, rfl, hb, hc⟩ := GA.out k hlt
      obtain ⟨A0, c0, hc0, r0⟩ := hc k hlt
      have hx0 := (hbel.cell (p := ⟨b, o + k, none⟩) hb).trans hc0
      have hse := szL_flat_at (f := cellsI1) hlt
      have HRD := Lib.hid (Tr.rd_below hbel (Nat.le_refl _) _ _ r0)
      have hzz : szL (cellsI1 xs[k]) = (trI xs[k]).sz := by simp [cellsI1, szL]
      have hle : (trI xs[k]).sz ≤ 1073741824 := by omega
      have HST := Lib.hid (mixR_set cellsI1_len HM.out hlt)
      have HLEN := Lib.hid (mixR_len cellsI1_len HM.out hk)
      clear hc hse hc0 r0
      generalize xs[k] = m at hx0 HRD HST hle
      have HB := Lib.hid hbel
      have HW := Lib.hid how
      clear hbel how
      go_wp2_with fail
      refine (toIntS_t m _ _ HRD.out hle).mono ?_
      rintro e w2 ⟨u, H, rfl, ho, hn, hb2⟩
      obtain ⟨A1, c1, rfl⟩ := slice_ints (Tr.own_rd _ _ _ ho)
      have how2 := HW.out.below hb2 (Nat.le_refl _)
      have hcl : (mixR cellsI1 1 raw xs k).length = xs.length * 1 := HLEN.out
      obtain ⟨y0, hy0⟩ := how2.some (i := k) (by omega)
      have hf := how2.frozen
      have hgw := how2.lt.2
      have hw0 := HW.out.lt.2
      have hoL : ownL w2 wr.heap.size (cellsI1 m) [.slice A1 m.length c1] H := ⟨_, [], H, [], rfl, ho, ⟨rfl, rfl⟩, by simp⟩
      obtain ⟨F', hp, _⟩ := RowAt.putL (K := wr.heap.size) HB.out.size hw0 (cellsI1 m) _ w2 _ F H (k * 1) how2 (by rw [cellsI1_len]; omega) hoL hn (fun j hj hj2 => by
        have h1 := (ownL_lt _ _ _ hoL j hj).1
        have h2 := (HW.out.allLt j hj2).2
        omega)
      rw [HST.out] at hp
      rw [Nat.mul_one] at hp
      have HP := Lib.hid hp
      have HBZ := Lib.hid (setL_below (Nat.le_refl _) [.slice A1 m.length c1] w2 (k) (HB.out.trans (hb2.mono HB.out.size)))
      clear hp hoL how2 hb2 hn hcl
      go_wp2
      go_roundw
      case rel => exact ⟨k + 1, by omega, by go_num, ⟨F', HP.out⟩, HBZ.out⟩
      case measure => simp [intOf]; omega
    · have hge : ¬ (k : Int) < (xs.length : Int) := by omega
      obtain rfl : k = xs.length := by omega
      rw [mixR_full HM.out] at how
      have HW := Lib.hid how
      have HB := Lib.hid hbel
      clear how hbel
      go_wp2
      go_ret
      exact ⟨_, rfl, F, HW.out.1, HW.out.2, HB.out⟩

end Go.Proofs.Ytgbpomakomddjab
end

section
namespace Go.Proofs.Ytgbpomakomddjab
open Go.RowKit
set_option linter.unusedVariables false

end Go.Proofs.Ytgbpomakomddjab
end

section
namespace Go.Proofs.Ytgbpomakomddjab
open Go.RowKit
set_option linter.unusedVariables false

end Go.Proofs.Ytgbpomakomddjab
end
