/- DERIVED. Sizes of rows of literals. -/
import Derived.Test.YtgbpomakomddjabGreatDoorScLt
import Derived.Test.YtgbpomakomddjabGreatDoorElmS
import Derived.Test.YtgbpomakomddjabGreatDoorStpA
import Derived.Test.YtgbpomakomddjabGreatDoorChecked
import Derived.Test.YtgbpomakomddjabGreatDoorCore
import Derived.Test.YtgbpomakomddjabGreatDoorDats
import Derived.Test.YtgbpomakomddjabGreatDoorTxtMaths
import Derived.Test.YtgbpomakomddjabGreatDoorShelf
import Derived.WalkKit
import Derived.Lib.Hide
import Derived.Lib.SmallJoins
import Derived.Lib.AppendIntMem
import Derived.Outline
import Derived.Test.YtgbpomakomddjabGreatDoorLtQ
import Derived.Test.YtgbpomakomddjabGreatDoorLtO
import Derived.Test.YtgbpomakomddjabGreatDoorJoin
import Derived.OwnWalk
import Derived.BigQuiet
import Derived.Deep.QuietTactic
import Derived.Deep.RegionWith
import Derived.Test.YtgbpomakomddjabGreatDoorClQ
import Derived.Test.YtgbpomakomddjabGreatDoorClO
import Derived.Test.YtgbpomakomddjabGreatDoorSpL
import Derived.Test.YtgbpomakomddjabGreatDoorRowV
import Derived.Test.YtgbpomakomddjabGreatDoorClM
import Derived.Test.YtgbpomakomddjabGreatDoorRwT

section
namespace Go.Proofs.YtgbpomakomddjabGreatDoor
open Go.RowKit
set_option linter.unusedVariables false

set_option maxRecDepth 100000 in
set_option maxHeartbeats 8000000 in
theorem ltSigns_any (w : World) :
    Calls Tryz.prog 96 #[] w fun e w' => ∃ u, e = .returned u ∧ Rd w' u (ltSigns.map .string) ∧ Below w.heap.size w w' := by
  go_enter Tryz.func96, Tryz.ntmps96
  go_wp2
  go_ret
  first
    | exact ⟨_, rfl, newRow_any w _ ltSigns (by decide), (Below.refl _ _).alloc (Nat.le_refl _) _⟩
    | exact ⟨newRow_any w _ ltSigns (by decide), (Below.refl _ _).alloc (Nat.le_refl _) _⟩
set_option maxRecDepth 100000 in
set_option maxHeartbeats 8000000 in
theorem implLiteralSign_any (k : Int) (w : World) :
    Calls Tryz.prog 60 #[.int .i64 k] w fun e w' => e = .returned (.string (ltSg k)) ∧ Below w.heap.size w w' := by
  generalize hres : ltSg k = res
  have RES := Lib.hid hres
  clear hres
  go_enter Tryz.func60, Tryz.ntmps60
  go_wp2_with fail
  refine (ltSigns_any _).mono ?_
  rintro e w1 ⟨u, rfl, hr, b⟩
  have HR := Lib.hid hr
  have HB := Lib.hid b
  clear hr b
  go_wp2_with fail
  by_cases hk : 0 ≤ k ∧ k < (ltSigns.length : Int)
  · obtain ⟨n, rfl⟩ : ∃ n : Nat, k = (n : Int) := ⟨k.toNat, by omega⟩
    have hn : n < ltSigns.length := by omega
    have HN := Lib.hid (ltSg_yes hn)
    refine (elemS_yes ltSigns n hn _ _ HR.out).mono ?_
    rintro e w2 ⟨rfl, rfl⟩
    generalize ltSigns[n] = x at HN
    clear hk hn
    go_wp2
    go_ret
    exact ⟨ret_strZ (by rw [← RES.out, HN.out]), HB.out⟩
  · have HN := Lib.hid (ltSg_no (k := k) (by have h7 : ltSigns.length = 5 := rfl; omega))
    refine (elemS_no ltSigns k _ _ HR.out hk).mono ?_
    rintro e w2 ⟨rfl, rfl⟩
    clear hk
    go_wp2
    go_ret
    exact ⟨ret_strZ (by rw [← RES.out, HN.out]), HB.out⟩
set_option maxRecDepth 100000 in
set_option maxHeartbeats 8000000 in
theorem specLiteralSign_any (k : Int) (w : World) :
    Calls Tryz.prog 50 #[.int .i64 k] w fun e w' => e = .returned (.string (ltSg k)) ∧ Below w.heap.size w w' := by
  by_cases hk : 1 ≤ k ∧ k ≤ 4
  · obtain ⟨n, rfl⟩ : ∃ n : Nat, k = (n : Int) := ⟨k.toNat, by omega⟩
    have hn : n = 1 ∨ n = 2 ∨ n = 3 ∨ n = 4 := by omega
    rcases hn with rfl | rfl | rfl | rfl
    all_goals
      clear hk
      go_enter Tryz.func50, Tryz.ntmps50
      go_wp2_with fail
      refine (l01In_any _ 1 4 _).mono ?_
      rintro e w2 ⟨rfl, rfl⟩
      go_wp2
      go_ret
      exact ⟨rfl, (Below.refl _ _).alloc (Nat.le_refl _) _⟩
  · have hres : ltSg k = ⟨#[]⟩ := by
      by_cases h0 : k = 0
      · subst h0; rfl
      · exact ltSg_no (by omega)
    rw [hres]
    clear hres
    go_enter Tryz.func50, Tryz.ntmps50
    go_wp2_with fail
    refine (l01In_any k 1 4 _).mono ?_
    rintro e w2 ⟨rfl, rfl⟩
    rw [show (decide (1 ≤ k) && decide (k ≤ 4)) = false from inB_no hk]
    go_wp2
    go_ret
    exact ⟨rfl, Below.refl _ _⟩
end Go.Proofs.YtgbpomakomddjabGreatDoor
end

section
namespace Go.Proofs.YtgbpomakomddjabGreatDoor
open Go.RowKit

/-- The library's table of the powers of ten holds what it holds behind start-up. -/
def TB (w : World) : Prop := Lib.TabIs Tryz.prog w "internal/strconv.uint64pow10" .u64 Lib.pow10Tab
theorem gPow : Tryz.prog.globalNamed "internal/strconv.uint64pow10" = some 1 := by kernel_rfl
theorem TB.below {w w' : World} {B : Nat} (h : TB w) (hb : Below B w w') (hB : w.heap.size ≤ B) : TB w' := Joins.tab_stays gPow h hb hB

theorem itoa_any (n : Int) (w : World) (h0 : -9223372036854775808 ≤ n) (h1 : n ≤ 9223372036854775807) (ht : TB w) :
    Calls Tryz.prog 97 #[.int .i64 n] w fun e w' => e = .returned (.string ⟨(Lib.itoa n).toArray⟩) ∧ Below w.heap.size w w' :=
  (Tryz.strconv_Itoa n h0 h1 w ht).mono fun e w' ⟨he, k, os, hw⟩ => ⟨he, by rw [hw]; exact Lib.below_grow _ w (Nat.le_refl _) k os⟩

set_option maxHeartbeats 400000 in
theorem implFmt_any (n : Int) (w : World) (h0 : -9223372036854775808 ≤ n) (h1 : n ≤ 9223372036854775807) (ht : TB w) :
    Calls Tryz.prog 61 #[.int .i64 n] w fun e w' => e = .returned (.string (fmtB n)) ∧ Below w.heap.size w w' := by
  have HT := Lib.hid ht
  clear ht
  by_cases ha : n < -100000
  · have HF := Lib.hid (fmtB_out (n := n) (.inl ha))
    go_enter Tryz.func61, Tryz.ntmps61
    go_wp2
    go_ret
    exact ⟨by rw [HF.out]; rfl, Below.refl _ _⟩
  by_cases hb : (100000 : Int) < n
  · have HF := Lib.hid (fmtB_out (n := n) (.inr hb))
    go_enter Tryz.func61, Tryz.ntmps61
    go_wp2
    go_ret
    exact ⟨by rw [HF.out]; rfl, Below.refl _ _⟩
  have HF := Lib.hid (fmtB_in (n := n) (by omega) (by omega))
  go_enter Tryz.func61, Tryz.ntmps61
  go_wp2_with (go_at_call 97; refine (itoa_any _ _ h0 h1 HT.out).mono ?_; rintro e w' ⟨rfl, hbel⟩)
  go_ret
  exact ⟨by rw [HF.out]; rfl, hbel⟩

theorem l01In_yes (n lo hi : Int) (w : World) (h1 : lo ≤ n) (h2 : n ≤ hi) :
    Calls Tryz.prog 82 #[.int .i64 n, .int .i64 lo, .int .i64 hi] w fun e w' => e = .returned (.bool true) ∧ w = w' :=
  (l01In_any n lo hi w).mono fun e w' ⟨he, hw⟩ => ⟨by rw [he]; simp [h1, h2], hw⟩
theorem l01In_no (n lo hi : Int) (w : World) (h : n < lo ∨ hi < n) :
    Calls Tryz.prog 82 #[.int .i64 n, .int .i64 lo, .int .i64 hi] w fun e w' => e = .returned (.bool false) ∧ w = w' :=
  (l01In_any n lo hi w).mono fun e w' ⟨he, hw⟩ => ⟨by rw [he]; simp; omega, hw⟩

set_option maxRecDepth 100000 in
set_option maxHeartbeats 1000000 in
theorem specFmt_pos (n : Int) (w : World) (h0 : 0 ≤ n) (h1 : n ≤ 100000) :
    Calls Tryz.prog 51 #[.int .i64 n] w fun e w' => e = .returned (.string (fmtB n)) ∧ Below w.heap.size w w' := by
  obtain ⟨m, rfl⟩ := Int.eq_ofNat_of_zero_le h0
  have HF := Lib.hid (fmtB_pos (k := m) (by omega))
  have hneg : ¬ (m : Int) < 0 := by omega
  go_enter Tryz.func51, Tryz.ntmps51
  go_wp2_with (go_at_call 82; refine (l01In_yes _ _ _ _ (by omega) (by omega)).mono ?_; rintro e w' ⟨rfl, rfl⟩)
  go_loopw [0, 3] (fun i s wr => ∃ (k : Nat) (acc : ByteArray), k ≤ m ∧ i = .int .i64 k ∧ s = .string acc ∧ Below w.heap.size w wr ∧ dc k ++ acc = dc m ∧ acc.size + k ≤ m) (fun i _ _ => (intOf i).toNat)
  case atStart => exact ⟨m, ⟨#[]⟩, Nat.le_refl _, rfl, rfl, Below.refl _ _, app_empty _, by show 0 + m ≤ m; omega⟩
  case round =>
    obtain ⟨k, acc, hkm, rfl, rfl, hb, hgo, hsz⟩ := hrel
    by_cases hz : 9 < k
    · have hz' : (9 : Int) < k := by omega
      have hcv : (convert 104 9 (.slice (some ⟨wr.heap.size, 0, none⟩) 1 1)).run Tryz.prog (wr.alloc (.cells #[.int .u8 (48 + (k : Int) % 10)] 5)) = .ok (.string (dg1 ((k : Int) % 10))) (wr.alloc (.cells #[.int .u8 (48 + (k : Int) % 10)] 5)) :=
        run_convert_bytes_arg _ 104 5 Tryz.underlying104 Tryz.underlying5 wr.heap.size 0 1 1 [48 + (k : Int) % 10] rfl (fun i hi => by
          obtain rfl : i = 0 := by omega
          rw [World.cell?_alloc_at _ _ _ _ rfl]; rfl) 9 Tryz.underlying9
      have hnext : dc (k / 10) ++ (dg1 ((k : Int) % 10) ++ acc) = dc m := by rw [← hgo, dc_big hz acc]; rfl
      have hds : (dg1 ((k : Int) % 10)).size ≤ 1 := by rw [dg1_size]; exact Nat.le_refl _
      have HN := Lib.hid hnext
      clear hgo hnext
      generalize dg1 ((k : Int) % 10) = d at hcv hds HN
      have hsum' : d.size + acc.size ≤ 9223372036854775807 := by omega
      have HS : Hid ((d ++ acc).size + k / 10 ≤ m) := Lib.hid (by rw [ByteArray.size_append]; omega)
      clear hds
      go_wp2
      go_roundw
      case rel => exact ⟨k / 10, d ++ acc, by omega, by go_num, rfl, hb.alloc hb.size _, HN.out, HS.out⟩
      case measure => simp [intOf]; omega
    · have hz' : ¬ (9 : Int) < k := by omega
      have hcv : (convert 104 9 (.slice (some ⟨wr.heap.size, 0, none⟩) 1 1)).run Tryz.prog (wr.alloc (.cells #[.int .u8 (48 + (k : Int))] 5)) = .ok (.string (dg1 (k : Int))) (wr.alloc (.cells #[.int .u8 (48 + (k : Int))] 5)) :=
        run_convert_bytes_arg _ 104 5 Tryz.underlying104 Tryz.underlying5 wr.heap.size 0 1 1 [48 + (k : Int)] rfl (fun i hi => by
          obtain rfl : i = 0 := by omega
          rw [World.cell?_alloc_at _ _ _ _ rfl]; rfl) 9 Tryz.underlying9
      have hend : dg1 (k : Int) ++ acc = dc m := by rw [← hgo, dc_small (by omega)]
      have hds : (dg1 (k : Int)).size ≤ 1 := by rw [dg1_size]; exact Nat.le_refl _
      have HN := Lib.hid hend
      clear hgo hend
      generalize dg1 (k : Int) = d at hcv hds HN
      have hsum' : d.size + acc.size ≤ 9223372036854775807 := by omega
      clear hds
      go_wp2
      go_ret
      exact ⟨by rw [HF.out, ← HN.out]; rfl, hb.alloc hb.size _⟩

set_option maxRecDepth 100000 in
set_option maxHeartbeats 1000000 in
theorem specFmt_any (n : Int) (w : World) (h0 : -9223372036854775808 ≤ n) (h1 : n ≤ 9223372036854775807) :
    Calls Tryz.prog 51 #[.int .i64 n] w fun e w' => e = .returned (.string (fmtB n)) ∧ Below w.heap.size w w' := by
  by_cases hin : -100000 ≤ n ∧ n ≤ 100000
  · obtain ⟨ha, hb⟩ := hin
    by_cases hp : 0 ≤ n
    · exact specFmt_pos n w hp hb
    · obtain ⟨m, rfl⟩ : ∃ m : Nat, n = -(m : Int) := ⟨(-n).toNat, by omega⟩
      have HF : Hid (fmtB (-(m : Int)) = ⟨#[45]⟩ ++ fmtB m) := Lib.hid (by rw [fmtB_neg (by omega) (by omega), fmtB_pos (by omega)])
      have hneg : -(m : Int) < 0 := by omega
      have hsz := fmtB_size (m : Int)
      have hsz2 : 1 + (fmtB (m : Int)).size ≤ 9223372036854775807 := by omega
      generalize hf : fmtB (m : Int) = f at HF hsz hsz2
      have HE := Lib.hid hf
      clear hf
      go_enter Tryz.func51, Tryz.ntmps51
      go_wp2_with (first
        | (go_at_call 82; refine (l01In_yes _ _ _ _ (by omega) (by omega)).mono ?_; rintro e w' ⟨rfl, rfl⟩)
        | (go_at_call 51; refine (specFmt_pos _ _ (by omega) (by omega)).mono ?_; rintro e w1 ⟨rfl, hbel⟩; rw [HE.out]))
      go_ret
      exact ⟨by rw [HF.out]; rfl, hbel⟩
  · have hout : n < -100000 ∨ 100000 < n := by omega
    have HF := Lib.hid (fmtB_out hout)
    go_enter Tryz.func51, Tryz.ntmps51
    go_wp2_with (go_at_call 82; refine (l01In_no _ _ _ _ hout).mono ?_; rintro e w' ⟨rfl, rfl⟩)
    go_ret
    exact ⟨by rw [HF.out]; rfl, Below.refl _ _⟩
end Go.Proofs.YtgbpomakomddjabGreatDoor
end

section
namespace Go.Proofs.YtgbpomakomddjabGreatDoor
open Go.RowKit Go.Shelf
set_option linter.unusedVariables false

theorem ret_sL {a b : ByteArray} (h : a = b) : Ending.returned (.string a) = Ending.returned (.string b) := by rw [h]
theorem join_two (x y b : ByteArray) : joinB [x, y] b = x ++ b ++ y := by
  unfold joinB
  show jn [x, y] b 2 = _
  rw [jn_succ (by omega) (by simp), jn_one (by simp)]; rfl
theorem ltSg_size (k : Int) : (ltSg k).size ≤ 2 := by
  unfold ltSg
  split
  · have e : k = 0 ∨ k = 1 ∨ k = 2 ∨ k = 3 ∨ k = 4 := by omega
    rcases e with rfl | rfl | rfl | rfl | rfl <;> decide
  · show (0 : Nat) ≤ 2; omega
theorem nmB_small {s : ByteArray} (h : nmB s = true) : s.size ≤ 8 := by
  simp only [nmB, Bool.and_eq_true, decide_eq_true_eq] at h
  exact h.2.1
set_option maxRecDepth 100000 in
set_option maxHeartbeats 8000000 in
theorem implFormatLiteral_any (p : Pj) (l : Lt) (v : Value) (w : World) (hv : (trPj p).rd w v) (hk : (trPj p).ok) (ht : TB w) :
    Calls Tryz.prog 31 #[v, ltV l] w fun e w' => e = .returned (.string (fmtLt p l)) ∧ Below w.heap.size w w' := by
  have HK := Lib.hid hk
  have HT := Lib.hid ht
  have HV := Lib.hid hv
  obtain ⟨A1, c1, A2, c2, A3, c3, A4, c4, rfl, r1, _⟩ := rdProject_t hv
  obtain ⟨hl1, B1, d1, he, g1⟩ := rdActivityS_t r1
  injection he with he _ he2
  subst he he2
  have G1 := Lib.hid g1
  have HNO := Lib.hid (fun h => @fmtLt_no p l h)
  have HY := Lib.hid (fun h => @fmtLt_yes p l h)
  have HPT := Lib.hid (fun h => @lit_parts p l h)
  generalize fmtLt p l = res at HNO HY ⊢
  obtain ⟨ki, ac, va⟩ := l
  have S0 := Lib.hid (((Sn.start w).box 36 [.int .i64 p.dl, .slice A1 p.acts.length c1, .slice A2 p.lks.length c2, .slice A3 p.ress.length c3, .slice A4 p.stk.length c4]).box 55 [.int .i64 ki, .int .i64 ac, .int .i64 va])
  simp only [World.size_alloc] at S0
  clear hv hk ht r1 g1
  unfold ltV
  go_enter Tryz.func31, Tryz.ntmps31
  go_wp2_with fail
  refine (implLiteralOk_any p ⟨ki, ac, va⟩ _ _ (by exact S0.out.old HV.out) HK.out).mono ?_
  rintro e w1 ⟨rfl, b⟩
  have S1 := Lib.hid (S0.out.go b)
  clear S0 b
  rcases hx : litOkB p ⟨ki, ac, va⟩ with _ | _
  · have H := Lib.hid (HNO.out hx)
    clear hx
    go_wp2
    go_ret
    exact ⟨ret_sL H.out.symm, S1.out.1⟩
  obtain ⟨⟨n, hn, e⟩, hki, hva, hnm, _⟩ := HPT.out hx
  have H := Lib.hid (HY.out hx)
  try simp only at e hki hva hnm H
  subst e
  rw [Int.toNat_natCast, nmA_at hn] at H
  rw [Int.toNat_natCast, nmA_at hn] at hnm
  have hsz := nmB_small hnm
  obtain ⟨b1, o1, rfl, hb1, hc1⟩ := G1.out n hn
  obtain ⟨M, cm, x0, x1, x2, rm⟩ := hc1 n hn
  have y0 := (S1.out.1.cell (p := ⟨b1, o1 + n * 3, none⟩) hb1).trans x0
  have hbw := Nat.lt_of_lt_of_le hb1 S1.out.1.size
  generalize p.acts[n].nm = nm at y0 H hsz
  have g0 : (0 : Int) ≤ (n : Int) := by omega
  have g1 : (n : Int) < (p.acts.length : Int) := by omega
  have hsg := ltSg_size ki
  have hfs := fmtB_size va
  clear x0 x1 x2 rm hx HNO HY HPT hc1 hnm
  go_wp2_with fail
  obtain ⟨p0, p1, p2, p3, p4, pf⟩ := (S1.out.bk 1 rfl).c5
  obtain ⟨q0, q1, q2, qf⟩ := (S1.out.bk 0 rfl).c3
  have hlp := (S1.out.bk 1 rfl).lt
  have hll := (S1.out.bk 0 rfl).lt
  have S2 := Lib.hid S1.out.drew1
  have CE := Lib.hid (fun (W : World) (h : Wr [] w1.drew W) => show Hid (Wr [] w1.drew W) ∧ W.cell? ⟨w.heap.size, 1, none⟩ = some (.slice (some ⟨b1, o1, none⟩) p.acts.length c1) ∧ W.cell? ⟨w.heap.size + 1, 0, none⟩ = some (.int .i64 ki) ∧ W.cell? ⟨w.heap.size + 1, 1, none⟩ = some (.int .i64 (n : Int)) ∧ W.cell? ⟨w.heap.size + 1, 2, none⟩ = some (.int .i64 va) ∧ W.cell? ⟨b1, o1 + n * 3, none⟩ = some (.string nm) from ⟨Lib.hid h, (wr_cell h (p := ⟨w.heap.size, 1, none⟩) hlp (by simp)).trans (by exact by simpa using p1), (wr_cell h (p := ⟨w.heap.size + 1, 0, none⟩) hll (by simp)).trans (by exact by simpa using q0), (wr_cell h (p := ⟨w.heap.size + 1, 1, none⟩) hll (by simp)).trans (by exact by simpa using q1), (wr_cell h (p := ⟨w.heap.size + 1, 2, none⟩) hll (by simp)).trans (by exact by simpa using q2), (wr_cell h (p := ⟨b1, o1 + n * 3, none⟩) (by show b1 < _; simpa using hbw) (by simp)).trans (by exact by simpa using y0)⟩)
  have INIT := Lib.hid (CE.out _ (Wr.refl _ _))
  have KW := Lib.hid (fun (W2 W : World) (hb : Wr [] W W2) (h : Hid (Wr [] w1.drew W) ∧ W.cell? ⟨w.heap.size, 1, none⟩ = some (.slice (some ⟨b1, o1, none⟩) p.acts.length c1) ∧ W.cell? ⟨w.heap.size + 1, 0, none⟩ = some (.int .i64 ki) ∧ W.cell? ⟨w.heap.size + 1, 1, none⟩ = some (.int .i64 (n : Int)) ∧ W.cell? ⟨w.heap.size + 1, 2, none⟩ = some (.int .i64 va) ∧ W.cell? ⟨b1, o1 + n * 3, none⟩ = some (.string nm)) => CE.out W2 (h.1.out.trans hb))
  clear p0 p1 p2 p3 p4 pf q0 q1 q2 qf y0 S1
  refine wp_region_held_drew (S := fun W => Hid (Wr [] w1.drew W) ∧ W.cell? ⟨w.heap.size, 1, none⟩ = some (.slice (some ⟨b1, o1, none⟩) p.acts.length c1) ∧ W.cell? ⟨w.heap.size + 1, 0, none⟩ = some (.int .i64 ki) ∧ W.cell? ⟨w.heap.size + 1, 1, none⟩ = some (.int .i64 (n : Int)) ∧ W.cell? ⟨w.heap.size + 1, 2, none⟩ = some (.int .i64 va) ∧ W.cell? ⟨b1, o1 + n * 3, none⟩ = some (.string nm)) (by kernel_rfl) INIT.out (fun hHeld => ?_)
  refine wpAnyH_take (i := 0) (v := ?_) rfl (by kernel_rfl) (by kernel_rfl) (by kernel_rfl) (fun _ _ _ h => h) (Or.inl ⟨by rfl, ?_⟩) (by assumption) ?_
  rotate_left
  · (intro W hSw; (try dsimp only at hSw); go_simp <;> with_reducible rfl)
  (try simp only [Act.put, List.getElem_toArray, List.getElem_cons_zero, List.setIfInBounds_toArray, List.set_cons_succ, List.set_cons_zero])
  refine wpAnyH_take (i := 1) (v := ?_) rfl (by kernel_rfl) (by kernel_rfl) (by kernel_rfl) (fun _ _ _ h => h) (Or.inl ⟨by rfl, ?_⟩) (by assumption) ?_
  rotate_left
  · (intro W hSw; (try dsimp only at hSw); go_simp <;> with_reducible rfl)
  (try simp only [Act.put, List.getElem_toArray, List.getElem_cons_succ, List.getElem_cons_zero, List.setIfInBounds_toArray, List.set_cons_succ, List.set_cons_zero])
  refine wpAnyH_take (i := 3) (v := ?_) rfl (by kernel_rfl) (by kernel_rfl) (by kernel_rfl) (fun _ _ _ h => h) (Or.inl ⟨by rfl, ?_⟩) (by assumption) ?_
  rotate_left
  · (intro W hSw; (try dsimp only at hSw); go_simp <;> with_reducible rfl)
  (try simp only [Act.put, List.getElem_toArray, List.getElem_cons_succ, List.getElem_cons_zero, List.setIfInBounds_toArray, List.set_cons_succ, List.set_cons_zero])
  refine wpAnyH_take (i := 4) (v := ?_) rfl (by kernel_rfl) (by kernel_rfl) (by kernel_rfl) (fun _ _ _ h => h) (Or.inl ⟨by rfl, ?_⟩) (by assumption) ?_
  rotate_left
  · (intro W hSw; (try dsimp only at hSw); go_simp <;> with_reducible rfl)
  (try simp only [Act.put, List.getElem_toArray, List.getElem_cons_succ, List.getElem_cons_zero, List.setIfInBounds_toArray, List.set_cons_succ, List.set_cons_zero])
  refine wpAnyH_take (i := 5) (v := ?_) rfl (by kernel_rfl) (by kernel_rfl) (by kernel_rfl) (fun _ _ _ h => h) (Or.inl ⟨by rfl, ?_⟩) (by assumption) ?_
  rotate_left
  · (intro W hSw; (try dsimp only at hSw); go_simp <;> with_reducible rfl)
  (try simp only [Act.put, List.getElem_toArray, List.getElem_cons_succ, List.getElem_cons_zero, List.setIfInBounds_toArray, List.set_cons_succ, List.set_cons_zero])
  refine wpAnyH_take (i := 6) (v := ?_) rfl (by kernel_rfl) (by kernel_rfl) (by kernel_rfl) (fun _ _ _ h => h) (Or.inl ⟨by rfl, ?_⟩) (by assumption) ?_
  rotate_left
  · (intro W hSw; (try dsimp only at hSw); go_simp <;> with_reducible rfl)
  (try simp only [Act.put, List.getElem_toArray, List.getElem_cons_succ, List.getElem_cons_zero, List.setIfInBounds_toArray, List.set_cons_succ, List.set_cons_zero])
  refine wpAnyH_take (i := 7) (v := ?_) rfl (by kernel_rfl) (by kernel_rfl) (by kernel_rfl) (fun _ _ _ h => h) (Or.inl ⟨by rfl, ?_⟩) (by assumption) ?_
  rotate_left
  · (intro W hSw; (try dsimp only at hSw); go_simp <;> with_reducible rfl)
  (try simp only [Act.put, List.getElem_toArray, List.getElem_cons_succ, List.getElem_cons_zero, List.setIfInBounds_toArray, List.set_cons_succ, List.set_cons_zero])
  refine wpAnyH_take (i := 8) (v := ?_) rfl (by kernel_rfl) (by kernel_rfl) (by kernel_rfl) (fun _ _ _ h => h) (Or.inl ⟨by rfl, ?_⟩) (by assumption) ?_
  rotate_left
  · (intro W hSw; (try dsimp only at hSw); go_simp <;> with_reducible rfl)
  (try simp only [Act.put, List.getElem_toArray, List.getElem_cons_succ, List.getElem_cons_zero, List.setIfInBounds_toArray, List.set_cons_succ, List.set_cons_zero])
  refine wpAnyH_take (i := 9) (v := ?_) rfl (by kernel_rfl) (by kernel_rfl) (by kernel_rfl) (fun _ _ _ h => h) (Or.inl ⟨by rfl, ?_⟩) (by assumption) ?_
  rotate_left
  · (intro W hSw; (try dsimp only at hSw); go_simp <;> with_reducible rfl)
  (try simp only [Act.put, List.getElem_toArray, List.getElem_cons_succ, List.getElem_cons_zero, List.setIfInBounds_toArray, List.set_cons_succ, List.set_cons_zero])
  refine wpAnyH_take (i := 10) (v := ?_) rfl (by kernel_rfl) (by kernel_rfl) (by kernel_rfl) (fun _ _ _ h => h) (Or.inl ⟨by rfl, ?_⟩) (by assumption) ?_
  rotate_left
  · (intro W hSw; (try dsimp only at hSw); go_simp <;> with_reducible rfl)
  (try simp only [Act.put, List.getElem_toArray, List.getElem_cons_succ, List.getElem_cons_zero, List.setIfInBounds_toArray, List.set_cons_succ, List.set_cons_zero])
  refine wpAnyH_take (i := 11) (v := ?_) rfl (by kernel_rfl) (by kernel_rfl) (by kernel_rfl) (fun _ _ _ h => h) (Or.inl ⟨by rfl, ?_⟩) (by assumption) ?_
  rotate_left
  · (intro W hSw; (try dsimp only at hSw); go_simp <;> with_reducible rfl)
  (try simp only [Act.put, List.getElem_toArray, List.getElem_cons_succ, List.getElem_cons_zero, List.setIfInBounds_toArray, List.set_cons_succ, List.set_cons_zero])
  refine wpAnyH_ready (rs := [2]) (by kernel_rfl) (by simp) ?_
  refine AllReadyH.cons rfl (fun K hK => ?_) AllReadyH.nil
  go_simp
  go_at_call 60
  refine (implLiteralSign_any ki _).mono ?_
  rintro e w3 ⟨rfl, bb⟩
  have S3 := Lib.hid (S2.out.go bb)
  (first | done | go_wp2_with fail)
  refine hK.out _ _ (KW.out _ _ (Wr.of_below bb (Nat.le_refl _)) (by assumption)) (fun hHeld2 => ?_)
  clear hK K bb S2
  refine wpAnyH_ready (rs := [12]) (by kernel_rfl) (by simp) ?_
  refine AllReadyH.cons rfl (fun K hK => ?_) AllReadyH.nil
  go_simp
  go_at_call 61
  refine (implFmt_any va _ (by omega) (by omega) (HT.out.below S3.out.1 (Nat.le_refl _))).mono ?_
  rintro e w4 ⟨rfl, bb⟩
  have S4 := Lib.hid (S3.out.go bb)
  (first | done | go_wp2_with fail)
  refine hK.out _ _ (KW.out _ _ (Wr.of_below bb (Nat.le_refl _)) (by assumption)) (fun hHeld12 => ?_)
  clear hK K bb S3
  refine wpAnyH_ready (rs := [13]) (by kernel_rfl) (by simp) ?_
  refine AllReadyH.cons rfl (fun K hK => ?_) AllReadyH.nil
  go_simp
  have BA := (Below.refl _ w4).alloc (Nat.le_refl _) (.cells #[.string nm, .string (fmtB va)] 9)
  refine hK.out _ _ (KW.out _ _ (Wr.of_below BA (Nat.le_refl _)) (by assumption)) (fun hHeld13 => ?_)
  clear hK K
  have S5 := Lib.hid (S4.out.go BA)
  have R5 := Lib.hid (newRow_any w4 9 [nm, fmtB va] (by simp [maxLen]))
  clear BA S4
  refine wpAnyH_ready (rs := [14]) (by kernel_rfl) (by simp) ?_
  refine AllReadyH.cons rfl (fun K hK => ?_) AllReadyH.nil
  go_simp
  refine (joinAll_any [nm, fmtB va] (ltSg ki) _ _ (by first | exact R5.out | simpa using R5.out) (by simp [tot]; omega) (by simp) (by omega)).mono ?_
  rintro e w6 ⟨rfl, bb⟩
  have S6 := Lib.hid (S5.out.go bb)
  refine hK.out _ _ (KW.out _ _ (Wr.of_below bb (Nat.le_refl _)) (by assumption)) (fun hHeld14 => ?_)
  clear hK K bb S5 R5
  rw [join_two, ← H.out]
  refine wpAnyH_take (i := 15) (v := ?_) rfl (by kernel_rfl) (by kernel_rfl) (by kernel_rfl) (fun _ _ _ h => h) (Or.inl ⟨by rfl, ?_⟩) (by assumption) ?_
  rotate_left
  · (intro W hSw; (try dsimp only at hSw); go_simp <;> with_reducible rfl)
  (try simp only [Act.put, List.getElem_toArray, List.getElem_cons_succ, List.getElem_cons_zero, List.setIfInBounds_toArray, List.set_cons_succ, List.set_cons_zero])
  refine wpAnyH_done (by kernel_rfl) ?_ _
  go_wp2
  go_ret
  exact ⟨rfl, S6.out.1⟩
set_option maxRecDepth 100000 in
set_option maxHeartbeats 8000000 in
theorem specFormatLiteral_any (p : Pj) (l : Lt) (v : Value) (w : World) (hv : (trPj p).rd w v) (hk : (trPj p).ok) :
    Calls Tryz.prog 23 #[v, ltV l] w fun e w' => e = .returned (.string (fmtLt p l)) ∧ Below w.heap.size w w' := by
  have HK := Lib.hid hk
  have HV := Lib.hid hv
  obtain ⟨A1, c1, A2, c2, A3, c3, A4, c4, rfl, r1, _⟩ := rdProject_t hv
  obtain ⟨hl1, B1, d1, he, g1⟩ := rdActivityS_t r1
  injection he with he _ he2
  subst he he2
  have G1 := Lib.hid g1
  have HNO := Lib.hid (fun h => @fmtLt_no p l h)
  have HY := Lib.hid (fun h => @fmtLt_yes p l h)
  have HPT := Lib.hid (fun h => @lit_parts p l h)
  generalize fmtLt p l = res at HNO HY ⊢
  obtain ⟨ki, ac, va⟩ := l
  have S0 := Lib.hid (((Sn.start w).box 36 [.int .i64 p.dl, .slice A1 p.acts.length c1, .slice A2 p.lks.length c2, .slice A3 p.ress.length c3, .slice A4 p.stk.length c4]).box 55 [.int .i64 ki, .int .i64 ac, .int .i64 va])
  simp only [World.size_alloc] at S0
  clear hv hk r1 g1
  unfold ltV
  go_enter Tryz.func23, Tryz.ntmps23
  go_wp2_with fail
  refine (specLiteralOk_any p ⟨ki, ac, va⟩ _ _ (by exact S0.out.old HV.out) HK.out).mono ?_
  rintro e w1 ⟨rfl, b⟩
  have S1 := Lib.hid (S0.out.go b)
  clear S0 b
  rcases hx : litOkB p ⟨ki, ac, va⟩ with _ | _
  · have H := Lib.hid (HNO.out hx)
    clear hx
    go_wp2
    go_ret
    exact ⟨ret_sL H.out.symm, S1.out.1⟩
  obtain ⟨⟨n, hn, e⟩, hki, hvb, hnm, _⟩ := HPT.out hx
  have H := Lib.hid (HY.out hx)
  try simp only at e hki hvb hnm H
  subst e
  rw [Int.toNat_natCast, nmA_at hn] at H
  rw [Int.toNat_natCast, nmA_at hn] at hnm
  have hsz := nmB_small hnm
  obtain ⟨b1, o1, rfl, hb1, hc1⟩ := G1.out n hn
  obtain ⟨M, cm, x0, x1, x2, rm⟩ := hc1 n hn
  have y0 := (S1.out.1.cell (p := ⟨b1, o1 + n * 3, none⟩) hb1).trans x0
  have hbw := Nat.lt_of_lt_of_le hb1 S1.out.1.size
  generalize p.acts[n].nm = nm at y0 H hsz
  have g0 : (0 : Int) ≤ (n : Int) := by omega
  have g1 : (n : Int) < (p.acts.length : Int) := by omega
  have hsg := ltSg_size ki
  have hfs := fmtB_size va
  clear x0 x1 x2 rm hx HNO HY HPT hc1 hnm
  go_wp2_with fail
  obtain ⟨p0, p1, p2, p3, p4, pf⟩ := (S1.out.bk 1 rfl).c5
  obtain ⟨q0, q1, q2, qf⟩ := (S1.out.bk 0 rfl).c3
  have hlp := (S1.out.bk 1 rfl).lt
  have hll := (S1.out.bk 0 rfl).lt
  have S2 := Lib.hid S1.out.drew1
  have hcat1 : ¬ 9223372036854775807 < nm.size + (ltSg ki).size := by omega
  have hcat2 : ¬ 9223372036854775807 < nm.size + (ltSg ki).size + (fmtB va).size := by omega
  have CE := Lib.hid (fun (W : World) (h : Wr [] w1.drew W) => show Hid (Wr [] w1.drew W) ∧ W.cell? ⟨w.heap.size, 1, none⟩ = some (.slice (some ⟨b1, o1, none⟩) p.acts.length c1) ∧ W.cell? ⟨w.heap.size + 1, 0, none⟩ = some (.int .i64 ki) ∧ W.cell? ⟨w.heap.size + 1, 1, none⟩ = some (.int .i64 (n : Int)) ∧ W.cell? ⟨w.heap.size + 1, 2, none⟩ = some (.int .i64 va) ∧ W.cell? ⟨b1, o1 + n * 3, none⟩ = some (.string nm) from ⟨Lib.hid h, (wr_cell h (p := ⟨w.heap.size, 1, none⟩) hlp (by simp)).trans (by exact by simpa using p1), (wr_cell h (p := ⟨w.heap.size + 1, 0, none⟩) hll (by simp)).trans (by exact by simpa using q0), (wr_cell h (p := ⟨w.heap.size + 1, 1, none⟩) hll (by simp)).trans (by exact by simpa using q1), (wr_cell h (p := ⟨w.heap.size + 1, 2, none⟩) hll (by simp)).trans (by exact by simpa using q2), (wr_cell h (p := ⟨b1, o1 + n * 3, none⟩) (by show b1 < _; simpa using hbw) (by simp)).trans (by exact by simpa using y0)⟩)
  have INIT := Lib.hid (CE.out _ (Wr.refl _ _))
  have KW := Lib.hid (fun (W2 W : World) (hb : Wr [] W W2) (h : Hid (Wr [] w1.drew W) ∧ W.cell? ⟨w.heap.size, 1, none⟩ = some (.slice (some ⟨b1, o1, none⟩) p.acts.length c1) ∧ W.cell? ⟨w.heap.size + 1, 0, none⟩ = some (.int .i64 ki) ∧ W.cell? ⟨w.heap.size + 1, 1, none⟩ = some (.int .i64 (n : Int)) ∧ W.cell? ⟨w.heap.size + 1, 2, none⟩ = some (.int .i64 va) ∧ W.cell? ⟨b1, o1 + n * 3, none⟩ = some (.string nm)) => CE.out W2 (h.1.out.trans hb))
  clear p0 p1 p2 p3 p4 pf q0 q1 q2 qf y0 S1
  refine wp_region_held_drew (S := fun W => Hid (Wr [] w1.drew W) ∧ W.cell? ⟨w.heap.size, 1, none⟩ = some (.slice (some ⟨b1, o1, none⟩) p.acts.length c1) ∧ W.cell? ⟨w.heap.size + 1, 0, none⟩ = some (.int .i64 ki) ∧ W.cell? ⟨w.heap.size + 1, 1, none⟩ = some (.int .i64 (n : Int)) ∧ W.cell? ⟨w.heap.size + 1, 2, none⟩ = some (.int .i64 va) ∧ W.cell? ⟨b1, o1 + n * 3, none⟩ = some (.string nm)) (by kernel_rfl) INIT.out (fun hHeld => ?_)
  refine wpAnyH_take (i := 0) (v := ?_) rfl (by kernel_rfl) (by kernel_rfl) (by kernel_rfl) (fun _ _ _ h => h) (Or.inl ⟨by rfl, ?_⟩) (by assumption) ?_
  rotate_left
  · (intro W hSw; (try dsimp only at hSw); go_simp <;> with_reducible rfl)
  (try simp only [Act.put, List.getElem_toArray, List.getElem_cons_zero, List.setIfInBounds_toArray, List.set_cons_succ, List.set_cons_zero])
  refine wpAnyH_take (i := 1) (v := ?_) rfl (by kernel_rfl) (by kernel_rfl) (by kernel_rfl) (fun _ _ _ h => h) (Or.inl ⟨by rfl, ?_⟩) (by assumption) ?_
  rotate_left
  · (intro W hSw; (try dsimp only at hSw); go_simp <;> with_reducible rfl)
  (try simp only [Act.put, List.getElem_toArray, List.getElem_cons_succ, List.getElem_cons_zero, List.setIfInBounds_toArray, List.set_cons_succ, List.set_cons_zero])
  refine wpAnyH_take (i := 2) (v := ?_) rfl (by kernel_rfl) (by kernel_rfl) (by kernel_rfl) (fun _ _ _ h => h) (Or.inl ⟨by rfl, ?_⟩) (by assumption) ?_
  rotate_left
  · (intro W hSw; (try dsimp only at hSw); go_simp <;> with_reducible rfl)
  (try simp only [Act.put, List.getElem_toArray, List.getElem_cons_succ, List.getElem_cons_zero, List.setIfInBounds_toArray, List.set_cons_succ, List.set_cons_zero])
  refine wpAnyH_take (i := 3) (v := ?_) rfl (by kernel_rfl) (by kernel_rfl) (by kernel_rfl) (fun _ _ _ h => h) (Or.inl ⟨by rfl, ?_⟩) (by assumption) ?_
  rotate_left
  · (intro W hSw; (try dsimp only at hSw); go_simp <;> with_reducible rfl)
  (try simp only [Act.put, List.getElem_toArray, List.getElem_cons_succ, List.getElem_cons_zero, List.setIfInBounds_toArray, List.set_cons_succ, List.set_cons_zero])
  refine wpAnyH_take (i := 4) (v := ?_) rfl (by kernel_rfl) (by kernel_rfl) (by kernel_rfl) (fun _ _ _ h => h) (Or.inl ⟨by rfl, ?_⟩) (by assumption) ?_
  rotate_left
  · (intro W hSw; (try dsimp only at hSw); go_simp <;> with_reducible rfl)
  (try simp only [Act.put, List.getElem_toArray, List.getElem_cons_succ, List.getElem_cons_zero, List.setIfInBounds_toArray, List.set_cons_succ, List.set_cons_zero])
  refine wpAnyH_take (i := 5) (v := ?_) rfl (by kernel_rfl) (by kernel_rfl) (by kernel_rfl) (fun _ _ _ h => h) (Or.inl ⟨by rfl, ?_⟩) (by assumption) ?_
  rotate_left
  · (intro W hSw; (try dsimp only at hSw); go_simp <;> with_reducible rfl)
  (try simp only [Act.put, List.getElem_toArray, List.getElem_cons_succ, List.getElem_cons_zero, List.setIfInBounds_toArray, List.set_cons_succ, List.set_cons_zero])
  refine wpAnyH_take (i := 6) (v := ?_) rfl (by kernel_rfl) (by kernel_rfl) (by kernel_rfl) (fun _ _ _ h => h) (Or.inl ⟨by rfl, ?_⟩) (by assumption) ?_
  rotate_left
  · (intro W hSw; (try dsimp only at hSw); go_simp <;> with_reducible rfl)
  (try simp only [Act.put, List.getElem_toArray, List.getElem_cons_succ, List.getElem_cons_zero, List.setIfInBounds_toArray, List.set_cons_succ, List.set_cons_zero])
  refine wpAnyH_take (i := 7) (v := ?_) rfl (by kernel_rfl) (by kernel_rfl) (by kernel_rfl) (fun _ _ _ h => h) (Or.inl ⟨by rfl, ?_⟩) (by assumption) ?_
  rotate_left
  · (intro W hSw; (try dsimp only at hSw); go_simp <;> with_reducible rfl)
  (try simp only [Act.put, List.getElem_toArray, List.getElem_cons_succ, List.getElem_cons_zero, List.setIfInBounds_toArray, List.set_cons_succ, List.set_cons_zero])
  refine wpAnyH_take (i := 8) (v := ?_) rfl (by kernel_rfl) (by kernel_rfl) (by kernel_rfl) (fun _ _ _ h => h) (Or.inl ⟨by rfl, ?_⟩) (by assumption) ?_
  rotate_left
  · (intro W hSw; (try dsimp only at hSw); go_simp <;> with_reducible rfl)
  (try simp only [Act.put, List.getElem_toArray, List.getElem_cons_succ, List.getElem_cons_zero, List.setIfInBounds_toArray, List.set_cons_succ, List.set_cons_zero])
  refine wpAnyH_take (i := 11) (v := ?_) rfl (by kernel_rfl) (by kernel_rfl) (by kernel_rfl) (fun _ _ _ h => h) (Or.inl ⟨by rfl, ?_⟩) (by assumption) ?_
  rotate_left
  · (intro W hSw; (try dsimp only at hSw); go_simp <;> with_reducible rfl)
  (try simp only [Act.put, List.getElem_toArray, List.getElem_cons_succ, List.getElem_cons_zero, List.setIfInBounds_toArray, List.set_cons_succ, List.set_cons_zero])
  refine wpAnyH_take (i := 12) (v := ?_) rfl (by kernel_rfl) (by kernel_rfl) (by kernel_rfl) (fun _ _ _ h => h) (Or.inl ⟨by rfl, ?_⟩) (by assumption) ?_
  rotate_left
  · (intro W hSw; (try dsimp only at hSw); go_simp <;> with_reducible rfl)
  (try simp only [Act.put, List.getElem_toArray, List.getElem_cons_succ, List.getElem_cons_zero, List.setIfInBounds_toArray, List.set_cons_succ, List.set_cons_zero])
  refine wpAnyH_ready (rs := [9]) (by kernel_rfl) (by simp) ?_
  refine AllReadyH.cons rfl (fun K hK => ?_) AllReadyH.nil
  go_simp
  go_at_call 50
  refine (specLiteralSign_any ki _).mono ?_
  rintro e w3 ⟨rfl, bb⟩
  have S3 := Lib.hid (S2.out.go bb)
  (first | done | go_wp2_with fail)
  refine hK.out _ _ (KW.out _ _ (Wr.of_below bb (Nat.le_refl _)) (by assumption)) (fun hHeld9 => ?_)
  clear hK K bb S2
  refine wpAnyH_take (i := 10) (v := ?_) rfl (by kernel_rfl) (by kernel_rfl) (by kernel_rfl) (fun _ _ _ h => h) (Or.inl ⟨by rfl, ?_⟩) (by assumption) ?_
  rotate_left
  · (intro W hSw; (try dsimp only at hSw); go_simp <;> with_reducible rfl)
  (try simp only [Act.put, List.getElem_toArray, List.getElem_cons_succ, List.getElem_cons_zero, List.setIfInBounds_toArray, List.set_cons_succ, List.set_cons_zero])
  refine wpAnyH_ready (rs := [13]) (by kernel_rfl) (by simp) ?_
  refine AllReadyH.cons rfl (fun K hK => ?_) AllReadyH.nil
  go_simp
  go_at_call 51
  refine (specFmt_any va _ (by omega) (by omega)).mono ?_
  rintro e w4 ⟨rfl, bb⟩
  have S4 := Lib.hid (S3.out.go bb)
  (first | done | go_wp2_with fail)
  refine hK.out _ _ (KW.out _ _ (Wr.of_below bb (Nat.le_refl _)) (by assumption)) (fun hHeld13 => ?_)
  clear hK K bb S3
  refine wpAnyH_take (i := 14) (v := ?_) rfl (by kernel_rfl) (by kernel_rfl) (by kernel_rfl) (fun _ _ _ h => h) (Or.inl ⟨by rfl, ?_⟩) (by assumption) ?_
  rotate_left
  · (intro W hSw; (try dsimp only at hSw); go_simp <;> with_reducible rfl)
  (try simp only [Act.put, List.getElem_toArray, List.getElem_cons_succ, List.getElem_cons_zero, List.setIfInBounds_toArray, List.set_cons_succ, List.set_cons_zero])
  rw [← H.out]
  refine wpAnyH_take (i := 15) (v := ?_) rfl (by kernel_rfl) (by kernel_rfl) (by kernel_rfl) (fun _ _ _ h => h) (Or.inl ⟨by rfl, ?_⟩) (by assumption) ?_
  rotate_left
  · (intro W hSw; (try dsimp only at hSw); go_simp <;> with_reducible rfl)
  (try simp only [Act.put, List.getElem_toArray, List.getElem_cons_succ, List.getElem_cons_zero, List.setIfInBounds_toArray, List.set_cons_succ, List.set_cons_zero])
  refine wpAnyH_done (by kernel_rfl) ?_ _
  go_wp2
  go_ret
  exact ⟨rfl, S4.out.1⟩
end Go.Proofs.YtgbpomakomddjabGreatDoor
end

section
namespace Go.Proofs.YtgbpomakomddjabGreatDoor
open Go.RowKit

end Go.Proofs.YtgbpomakomddjabGreatDoor
end

section
namespace Go.Proofs.YtgbpomakomddjabGreatDoor
open Go.RowKit

theorem infoString : (Tryz.prog.info? 9).map (fun i => (i.zero, i.size, i.bytes)) = some (some (.string ⟨#[]⟩), 1, 16) := by kernel_rfl

theorem map_snoc (l : List ByteArray) (x : ByteArray) : (l ++ [x]).map Value.string = l.map Value.string ++ [.string x] := by simp

set_option maxRecDepth 100000 in
set_option maxHeartbeats 2000000 in
theorem specSplitAny_any (s b : ByteArray) (w : World) (hs : s.size ≤ 1099511627776) (hb : b.size ≤ maxLen) :
    Calls Tryz.prog 38 #[.string s, .string b] w fun e w' => ∃ v, e = .returned v ∧ w'.ownsRow w.heap.size 9 1 v (splitB s b).length ((splitB s b).map .string) ∧ Below w.heap.size w w' := by
  unfold maxLen at hb
  obtain ⟨i0, hi, hz0, hz1, hz2⟩ := info_parts infoString
  go_enter Tryz.func38, Tryz.ntmps38
  go_wp2
  go_loopw [5, 6, 7] (fun out from_ i wr => ∃ k : Nat, k ≤ s.size ∧ i = .int .i64 k ∧ from_ = .int .i64 (spl s b k).2 ∧ wr.ownsRow w.heap.size 9 1 out (spl s b k).1.length ((spl s b k).1.map .string) ∧ Below w.heap.size w wr) (fun _ _ i _ => s.size - (intOf i).toNat)
  case atStart => exact ⟨0, Nat.zero_le _, rfl, rfl, World.ownsRow_made w #[] 0 (Nat.le_refl _) (by decide) rfl, (Below.refl _ _).alloc (Nat.le_refl _) _⟩
  case round =>
    obtain ⟨k, hk, rfl, rfl, hown, hbel⟩ := hrel
    have hle := spl_le s b k
    by_cases hlt : k < s.size
    · have hlt' : (k : Int) < (s.size : Int) := by omega
      have hfl : (spl s b k).2 ≤ k := hle.1
      have hnl : (spl s b k).1.length ≤ k := hle.2
      have HIT := Lib.hid (spl_hit (s := s) (b := b) (k := k))
      have MISS := Lib.hid (spl_miss (s := s) (b := b) (k := k))
      clear hle
      generalize hsp : spl s b k = p at hown hfl hnl HIT MISS
      have HSP := Lib.hid hsp
      clear hsp
      obtain ⟨ps, f⟩ := p
      dsimp only at hown hfl hnl
      have hnb : ps.length ≤ 1099511627776 := by omega
      go_wp2
      go_loopw [5, 6, 8] (fun out from_ j wr' => ∃ q n : Nat, q ≤ b.size ∧ j = .int .i64 q ∧ out = u5 ∧ from_ = .int .i64 f ∧ wr' = wr.drewN n ∧ ∀ l, (hl : l < b.size) → (hk : k < s.size) → l < q → s[k] ≠ b[l]) (fun _ _ j _ => b.size - (intOf j).toNat)
      case atStart => exact ⟨0, 0, Nat.zero_le _, rfl, rfl, rfl, rfl, fun l _ _ h => absurd h (by omega)⟩
      case round =>
        obtain ⟨q, n, hq, rfl, rfl, rfl, rfl, hno⟩ := hrel
        by_cases hql : q < b.size
        · have hql' : (q : Int) < (b.size : Int) := by omega
          by_cases he : s[k] = b[q]
          · have H1 := Lib.hid (HIT.out (hitB_mk hlt hql he))
            have HE : Hid (s[k] = b[q]) := Lib.hid he
            have he' : ((s[k].toNat : Int) == (b[q].toNat : Int)) = true := by rw [he]; simp
            clear hno he
            go_wp2
            go_quiet (fail)
            go_wp2_with (first | (at_builtin; refine wpList_append_own _ rfl (.tmp 29) (.tmp 34) 53 rfl w.heap.size 9 i0 (.string ⟨#[]⟩) 1 16 Tryz.underlying53 hi hz0 hz1 hz2 rfl (by decide) u5 ps.length (ps.map .string) rfl (by exact hown.alloc _) ⟨wr.heap.size, 0, none⟩ 1 1 [.string (s.extract f k)] rfl rfl ?c1 ?c2 ?c3 ?c4 ?c5 ?_))
            case c1 => exact new_cell (wr.drewN (n + nq)) _ _
            case c2 => simp [Value.oneCell']
            case c3 => unfold maxLen; omega
            case c4 => omega
            case c5 => have := hbel.size; simp; omega
            intro v' w1 hown1 hg1 _
            have R : Hid (w1.ownsRow w.heap.size 9 1 v' (spl s b (k + 1)).1.length ((spl s b (k + 1)).1.map .string) ∧ Below w.heap.size w w1 ∧ (spl s b (k + 1)).2 = k + 1) := by
              rw [H1.out]
              refine Lib.hid ⟨by rw [List.length_append, map_snoc]; exact hown1, ?_, rfl⟩
              exact ((below_drewN hbel (n + nq)).alloc hbel.size _).grown hg1 (by have := hbel.size; simp; omega) (fun i hi => (hown.lt i hi).1)
            clear hown1 hg1 hown
            go_wp2
            go_roundw
            case rel => exact ⟨k + 1, by omega, by go_num, by rw [R.out.2.2]; go_num, R.out.1, R.out.2.1⟩
            case measure => simp [intOf]; omega
          · have he' : ((s[k].toNat : Int) == (b[q].toNat : Int)) = false := by
              rw [beq_eq_false_iff_ne]; intro e; exact he (UInt8.toNat_inj.1 (by omega))
            have STEP := Lib.hid (fun l (hl : l < b.size) (hk : k < s.size) (h : l < q + 1) => (by
              by_cases e : l = q
              · subst e; exact he
              · exact hno l hl hk (by omega) : s[k] ≠ b[l]))
            clear hno he
            go_wp2
            go_quiet (fail)
            go_wp2
            go_roundw
            case rel => exact ⟨q + 1, _, by omega, by go_num, rfl, rfl, rfl, STEP.out⟩
            case measure => simp [intOf]; omega
        · have hge : ¬ (q : Int) < (b.size : Int) := by omega
          have H1 := MISS.out (hitB_no (fun l hl hk => hno l hl hk (by omega)))
          have R : Hid ((wr.drewN n).ownsRow w.heap.size 9 1 u5 (spl s b (k + 1)).1.length ((spl s b (k + 1)).1.map .string) ∧ Below w.heap.size w (wr.drewN n) ∧ (spl s b (k + 1)).2 = f) := by
            rw [H1]
            exact Lib.hid ⟨hown, below_drewN hbel n, rfl⟩
          clear H1 hno hown
          go_wp2
          go_roundw
          case rel => exact ⟨k + 1, by omega, by go_num, by rw [R.out.2.2], R.out.1, R.out.2.1⟩
          case measure => simp [intOf]; omega
    · have hge : ¬ (k : Int) < (s.size : Int) := by omega
      obtain rfl : k = s.size := by omega
      have hfl : (spl s b s.size).2 ≤ s.size := hle.1
      have hnl : (spl s b s.size).1.length ≤ s.size := hle.2
      have hsb : splitB s b = (spl s b s.size).1 ++ [s.extract (spl s b s.size).2 s.size] := rfl
      have HSB := Lib.hid hsb
      clear hsb hle
      generalize spl s b s.size = p at hown hfl hnl HSB
      obtain ⟨ps, f⟩ := p
      dsimp only at hown hfl hnl
      go_wp2_with (first | (at_builtin; refine wpList_append_own _ rfl (.tmp 38) (.tmp 42) 53 rfl w.heap.size 9 i0 (.string ⟨#[]⟩) 1 16 Tryz.underlying53 hi hz0 hz1 hz2 rfl (by decide) u5 ps.length (ps.map .string) rfl (by exact hown.alloc _) ⟨wr.heap.size, 0, none⟩ 1 1 [.string (s.extract f s.size)] rfl rfl ?c1 ?c2 ?c3 ?c4 ?c5 ?_))
      case c2 => simp [Value.oneCell']
      case c3 => unfold maxLen; omega
      case c4 => omega
      case c5 => have := hbel.size; simp; omega
      intro v' w1 hown1 hg1 _
      have R : Hid (w1.ownsRow w.heap.size 9 1 v' (splitB s b).length ((splitB s b).map .string) ∧ Below w.heap.size w w1) := by
        rw [HSB.out]
        refine Lib.hid ⟨by rw [List.length_append, map_snoc]; exact hown1, ?_⟩
        exact (hbel.alloc hbel.size _).grown hg1 (by have := hbel.size; simp; omega) (fun i hi => (hown.lt i hi).1)
      clear hown1 hg1 hown
      go_wp2
      go_ret
      exact ⟨_, rfl, R.out.1, R.out.2⟩

theorem indexByte_any (b : ByteArray) (c : UInt8) (w : World) :
    Calls Tryz.prog 69 #[.string b, .int .u8 c.toNat] w fun e w' => e = .returned (.int .i64 (Lib.indexByte b.data.toList c)) ∧ w = w' :=
  (Tryz.strings_IndexByte b c.toNat w).mono fun e w' ⟨he, hw⟩ => ⟨by rw [he]; simp, hw.symm⟩

set_option maxHeartbeats 400000 in
theorem clone_any (s : ByteArray) (w : World) (hs : s.size ≤ 281474976710656) :
    Calls Tryz.prog 70 #[.string s] w fun e w' => e = .returned (.string s) ∧ Below w.heap.size w w' := by
  go_enter Tryz.func70, Tryz.ntmps70
  go_wp2_with (go_at_call 103; refine (Tryz.stringslite_Clone _ _ hs).mono ?_; rintro e w' ⟨rfl, hb⟩)
  go_ret
  exact ⟨rfl, hb⟩

theorem extract_le (s : ByteArray) (a b : Nat) : (s.extract a b).size ≤ s.size := by
  rw [ByteArray.size_extract]; omega

set_option maxRecDepth 100000 in
set_option maxHeartbeats 2000000 in
theorem implSplitAny_any (s b : ByteArray) (w : World) (hs : s.size ≤ 1099511627776) :
    Calls Tryz.prog 40 #[.string s, .string b] w fun e w' => ∃ v, e = .returned v ∧ w'.ownsRow w.heap.size 9 1 v (splitB s b).length ((splitB s b).map .string) ∧ Below w.heap.size w w' := by
  obtain ⟨i0, hi, hz0, hz1, hz2⟩ := info_parts infoString
  go_enter Tryz.func40, Tryz.ntmps40
  go_wp2
  go_loopw [5, 6, 10] (fun out from_ i wr => ∃ k : Nat, k ≤ s.size ∧ i = .int .i64 k ∧ from_ = .int .i64 (spl s b k).2 ∧ wr.ownsRow w.heap.size 9 1 out (spl s b k).1.length ((spl s b k).1.map .string) ∧ Below w.heap.size w wr) (fun _ _ i _ => s.size - (intOf i).toNat)
  case atStart => exact ⟨0, Nat.zero_le _, rfl, rfl, World.ownsRow_nil _ _ _ _, Below.refl _ _⟩
  case round =>
    obtain ⟨k, hk, rfl, rfl, hown, hbel⟩ := hrel
    have hle := spl_le s b k
    by_cases hlt : k < s.size
    · have hlt' : (k : Int) < (s.size : Int) := by omega
      have hfl : (spl s b k).2 ≤ k := hle.1
      have hnl : (spl s b k).1.length ≤ k := hle.2
      have hh := hit_index (s := s) (b := b) hlt
      have HIT := Lib.hid (spl_hit (s := s) (b := b) (k := k))
      have MISS := Lib.hid (spl_miss (s := s) (b := b) (k := k))
      clear hle
      generalize hsp : spl s b k = p at hown hfl hnl HIT MISS
      have HSP := Lib.hid hsp
      clear hsp
      obtain ⟨ps, f⟩ := p
      dsimp only at hown hfl hnl
      have hnb : ps.length ≤ 1099511627776 := by omega
      have hsz := extract_le s f k
      by_cases hix : 0 ≤ Lib.indexByte b.data.toList s[k]
      · have H1 := Lib.hid (HIT.out (by rw [hh]; exact decide_eq_true hix))
        clear hh
        go_wp2_with (first
          | (go_at_call 69; refine (indexByte_any _ _ _).mono ?_; rintro e w' ⟨rfl, rfl⟩)
          | (go_at_call 70; refine (clone_any _ _ (by omega)).mono ?_; rintro e w1 ⟨rfl, hb1⟩; have hown1 := own_below hown hb1 (Nat.le_refl _); have hbel1 := hbel.trans (hb1.mono hbel.size))
          | (at_builtin; refine wpList_append_own _ rfl (.tmp 19) (.tmp 25) 53 rfl w.heap.size 9 i0 (.string ⟨#[]⟩) 1 16 Tryz.underlying53 hi hz0 hz1 hz2 rfl (by decide) u5 ps.length (ps.map .string) rfl (by exact hown1.alloc _) ⟨w1.heap.size, 0, none⟩ 1 1 [.string (s.extract f k)] rfl rfl (by exact new_cell _ _ _) (by simp [Value.oneCell']) (by unfold maxLen; omega) (by omega) (by have := hbel1.size; simp; omega) ?_; intro v' w2 hown2 hg2 _
             have R : Hid (w2.ownsRow w.heap.size 9 1 v' (spl s b (k + 1)).1.length ((spl s b (k + 1)).1.map .string) ∧ Below w.heap.size w w2 ∧ (spl s b (k + 1)).2 = k + 1) := (by
               rw [H1.out]
               refine Lib.hid ⟨by rw [List.length_append, map_snoc]; exact hown2, ?_, rfl⟩
               exact (hbel1.alloc hbel1.size _).grown hg2 (by have := hbel1.size; simp; omega) (fun i hi => (hown1.lt i hi).1))
             clear hown2 hg2 hown1))
        go_roundw
        case rel => exact ⟨k + 1, by omega, by go_num, by rw [R.out.2.2]; go_num, R.out.1, R.out.2.1⟩
        case measure => simp [intOf]; omega
      · have H1 := MISS.out (by rw [hh]; exact decide_eq_false hix)
        have R : Hid (wr.ownsRow w.heap.size 9 1 u5 (spl s b (k + 1)).1.length ((spl s b (k + 1)).1.map .string) ∧ Below w.heap.size w wr ∧ (spl s b (k + 1)).2 = f) := by
          rw [H1]
          exact Lib.hid ⟨hown, hbel, rfl⟩
        clear H1 hown hh
        go_wp2_with (go_at_call 69; refine (indexByte_any _ _ _).mono ?_; rintro e w' ⟨rfl, rfl⟩)
        go_roundw
        case rel => exact ⟨k + 1, by omega, by go_num, by rw [R.out.2.2], R.out.1, R.out.2.1⟩
        case measure => simp [intOf]; omega
    · have hge : ¬ (k : Int) < (s.size : Int) := by omega
      obtain rfl : k = s.size := by omega
      have hfl : (spl s b s.size).2 ≤ s.size := hle.1
      have hnl : (spl s b s.size).1.length ≤ s.size := hle.2
      have hsb : splitB s b = (spl s b s.size).1 ++ [s.extract (spl s b s.size).2 s.size] := rfl
      have HSB := Lib.hid hsb
      clear hsb hle
      generalize spl s b s.size = p at hown hfl hnl HSB
      obtain ⟨ps, f⟩ := p
      dsimp only at hown hfl hnl
      have hsz := extract_le s f s.size
      go_wp2_with (first
        | (go_at_call 70; refine (clone_any _ _ (by omega)).mono ?_; rintro e w1 ⟨rfl, hb1⟩; have hown1 := own_below hown hb1 (Nat.le_refl _); have hbel1 := hbel.trans (hb1.mono hbel.size))
        | (at_builtin; refine wpList_append_own _ rfl (.tmp 30) (.tmp 35) 53 rfl w.heap.size 9 i0 (.string ⟨#[]⟩) 1 16 Tryz.underlying53 hi hz0 hz1 hz2 rfl (by decide) u5 ps.length (ps.map .string) rfl (by exact hown1.alloc _) ⟨w1.heap.size, 0, none⟩ 1 1 [.string (s.extract f s.size)] rfl rfl (by exact new_cell _ _ _) (by simp [Value.oneCell']) (by unfold maxLen; omega) (by omega) (by have := hbel1.size; simp; omega) ?_; intro v' w2 hown2 hg2 _
           have R : Hid (w2.ownsRow w.heap.size 9 1 v' (splitB s b).length ((splitB s b).map .string) ∧ Below w.heap.size w w2) := (by
             rw [HSB.out]
             refine Lib.hid ⟨by rw [List.length_append, map_snoc]; exact hown2, ?_⟩
             exact (hbel1.alloc hbel1.size _).grown hg2 (by have := hbel1.size; simp; omega) (fun i hi => (hown1.lt i hi).1))
           clear hown2 hg2 hown1))
      go_ret
      exact ⟨_, rfl, R.out.1, R.out.2⟩
end Go.Proofs.YtgbpomakomddjabGreatDoor
end

section
namespace Go.Proofs.YtgbpomakomddjabGreatDoor
open Go.RowKit Go.Shelf
set_option linter.unusedVariables false

theorem fmtLt_small (p : Pj) (l : Lt) : (fmtLt p l).size ≤ 17 := by
  rcases h : litOkB p l with _ | _
  · rw [fmtLt_no h]; decide
  · obtain ⟨_, hk, hv, hn, _⟩ := lit_parts h
    rw [fmtLt_yes h, size_app, size_app]
    have h1 := nmB_small hn
    have h2 := ltSg_size l.ki
    have h3 := fmtB_size l.va
    omega
theorem tot_small {n : Nat} : ∀ {xs : List ByteArray}, (∀ x ∈ xs, x.size ≤ n) → tot xs ≤ xs.length * n
  | [], _ => by simp [tot]
  | x :: xs, h => by
    have h1 := tot_small (xs := xs) (fun y hy => h y (by simp [hy]))
    have h2 := h x (by simp)
    have e : tot (x :: xs) = x.size + tot xs := by simp [tot]
    rw [e, List.length_cons, Nat.add_mul]
    omega
theorem tx_tot (p : Pj) {l : List Lt} (h : l.length ≤ 24) : tot (l.map (fmtLt p)) ≤ 1073741824 := by
  have h1 := tot_small (n := 17) (xs := l.map (fmtLt p)) (fun x hx => by obtain ⟨y, _, rfl⟩ := List.mem_map.1 hx; exact fmtLt_small p y)
  rw [List.length_map] at h1
  omega
noncomputable def wdsK (p : Pj) (l : List Lt) (k : Nat) : List ByteArray := (l.take k).map (fmtLt p)
theorem wds_len {p : Pj} {l : List Lt} {k : Nat} (h : k ≤ l.length) : (wdsK p l k).length = k := by rw [wdsK, List.length_map, List.length_take]; omega
theorem wds_succ {p : Pj} {l : List Lt} {k : Nat} (h : k < l.length) : wdsK p l (k + 1) = wdsK p l k ++ [fmtLt p l[k]] := by
  rw [wdsK, List.take_succ_eq_append_getElem h, List.map_append]; rfl
theorem wds_all (p : Pj) (l : List Lt) : wdsK p l l.length = l.map (fmtLt p) := by rw [wdsK, List.take_length]
noncomputable def wdV (p : Pj) (l : List Lt) : Nat → Value := fun k => .string (fmtLt p (l.getD k litNone))
theorem wdV_all (p : Pj) (l : List Lt) : (List.range l.length).map (wdV p l) = (l.map (fmtLt p)).map .string := by
  apply List.ext_getElem
  · simp
  · intro i h1 h2
    simp only [List.length_map, List.length_range] at h1
    simp [wdV, List.getD, List.getElem?_eq_getElem h1]
theorem wdV_at {p : Pj} {l : List Lt} {k : Nat} (h : k < l.length) : wdV p l k = .string (fmtLt p l[k]) := by simp [wdV, List.getD, List.getElem?_eq_getElem h]
theorem ret_sZ {a b : ByteArray} (h : a = b) : Ending.returned (.string a) = Ending.returned (.string b) := by rw [h]
set_option maxRecDepth 100000 in
set_option maxHeartbeats 8000000 in
theorem specFormatClause_any (p : Pj) (l : List Lt) (v u : Value) (w : World) (hv : (trPj p).rd w v) (hk : (trPj p).ok) (hl : (trLts l).rd w u) :
    Calls Tryz.prog 7 #[v, u] w fun e w' => e = .returned (.string (fmtCl p l)) ∧ Below w.heap.size w w' := by
  have HV := Lib.hid hv
  have HK := Lib.hid hk
  obtain ⟨A1, c1, A2, c2, A3, c3, A4, c4, rfl, _⟩ := rdProject_t hv
  obtain ⟨hll, A, c, rfl, ga⟩ := rdLiteralS_t hl
  have HL := Lib.hid hl
  have GA := Lib.hid ga
  have R0 := Lib.hid (@fmtCl_no p l)
  have R1 := Lib.hid (fun (h : clOkB p l = true) (h0 : l = []) => show fmtCl p l = dashC from by subst h0; exact fmtCl_nil p)
  have R2 := Lib.hid (@fmtCl_yes p l)
  have CK := Lib.hid (fun h => (clOk_of (p := p) (l := l) h).len)
  generalize fmtCl p l = res at R0 R1 R2 ⊢
  clear hv hk hl ga
  obtain ⟨i0, hi0, hz0, hz1, hz2⟩ := info_parts infoString
  have S0 := Lib.hid ((Sn.start w).box 36 [.int .i64 p.dl, .slice A1 p.acts.length c1, .slice A2 p.lks.length c2, .slice A3 p.ress.length c3, .slice A4 p.stk.length c4])
  go_enter Tryz.func7, Tryz.ntmps7
  go_wp2_with fail
  refine (specClauseOk_any p l _ _ _ (by exact S0.out.old HV.out) HK.out (by exact S0.out.old HL.out)).mono ?_
  rintro e w1 ⟨rfl, b1⟩
  have S1 := Lib.hid (S0.out.go b1)
  clear S0 b1
  rcases hok : clOkB p l with _ | _
  · have HR := Lib.hid (R0.out hok)
    clear hok
    go_wp2
    go_ret
    exact ⟨ret_sZ HR.out.symm, S1.out.1⟩
  have HOK := Lib.hid hok
  have h24 := CK.out hok
  clear hok
  have S2 := Lib.hid (show Sn w _ (⟨flat 9 [], .slice (some ⟨w1.heap.size, 0, none⟩) 0 0, [w1.heap.size]⟩ :: _) from S1.out.emptyR (α := Nat) 9 1 (fun _ => []))
  clear S1
  go_wp2
  go_loopw [5, 15] (fun u i wr => ∃ (k : Nat) (F : List Nat), k ≤ l.length ∧ i = .int .i64 k ∧ Sn w wr [⟨flat 9 ((wdsK p l k).map .string), u, F⟩, boxI w.heap.size 36 [.int .i64 p.dl, .slice A1 p.acts.length c1, .slice A2 p.lks.length c2, .slice A3 p.ress.length c3, .slice A4 p.stk.length c4]]) (fun _ i _ => l.length - (intOf i).toNat)
  case atStart => exact ⟨0, _, Nat.zero_le _, rfl, S2.out⟩
  case round =>
    obtain ⟨k, F, hkl, rfl, hS⟩ := hrel
    have S3 := Lib.hid hS
    clear hS S2
    obtain ⟨_, U, cu, hu, _⟩ := rd_flat (S3.out.rd 0 rfl)
    rw [List.length_map, wds_len hkl] at hu
    subst hu
    by_cases hlt : k < l.length
    · have hlt' : (k : Int) < (l.length : Int) := by omega
      have k0 : (0 : Int) ≤ (k : Int) := by omega
      obtain ⟨b, o, rfl, hb, hc⟩ := GA.out k hlt
      obtain ⟨x0, x1, x2⟩ := hc k hlt
      have hx0 := (S3.out.1.cell (p := ⟨b, o + k * 3, none⟩) hb).trans x0
      have hx1 := (S3.out.1.cell (p := ⟨b, o + k * 3 + 1, none⟩) hb).trans x1
      have hx2 := (S3.out.1.cell (p := ⟨b, o + k * 3 + 2, none⟩) hb).trans x2
      clear hc x0 x1 x2
      have WS := Lib.hid (wds_succ (p := p) hlt)
      have hwl := wds_len (p := p) hkl
      have hsm := fmtLt_small p l[k]
      generalize l[k] = m at hx0 hx1 hx2 WS hsm
      generalize wdsK p l k = ws at S3 WS hwl
      have S4 := Lib.hid (S3.out.box 55 [.int .i64 m.ki, .int .i64 m.ac, .int .i64 m.va])
      clear S3
      obtain ⟨e0, e1, e2, e3, e4, ef⟩ := (S4.out.bk 2 rfl).c5
      go_wp2_with fail
      clear e0 e1 e2 e3 e4 ef
      refine (specFormatLiteral_any p m _ _ (by exact S4.out.old HV.out) HK.out).mono ?_
      rintro e w5 ⟨rfl, b5⟩
      have S5 := Lib.hid ((S4.out.go b5).drop 0)
      simp only [List.eraseIdx_cons_zero] at S5
      clear S4 b5 hx0 hx1 hx2
      generalize fmtLt p m = tx at WS hsm ⊢
      subst hwl
      have OW := Lib.hid (show w5.ownsRow w.heap.size 9 1 (.slice U ws.length cu) ws.length (ws.map .string) from by have := (own_flat (S5.out.own 0 rfl).1).1; rwa [List.length_map] at this)
      have hzs := S5.out.1.size
      go_wp2_with (first | (at_builtin; refine wpList_append_own_at _ rfl (.tmp 19) (.tmp 23) 53 rfl w.heap.size 9 i0 (.string ⟨#[]⟩) 1 16 Tryz.underlying53 hi0 hz0 hz1 hz2 rfl (by decide) _ ws.length (ws.map .string) rfl (by exact OW.out.alloc _) ⟨w5.heap.size, 0, none⟩ 1 1 [.string tx] rfl rfl ?cq11 ?cq12 ?cq13 ?cq14 ?cq15 ?_) | fail)
      try case cq11 => exact new_cell _ _ _
      try case cq12 => simp [Value.oneCell']
      try case cq13 => unfold maxLen; omega
      try case cq14 => omega
      try case cq15 => first | omega | (simp; omega)
      intro v' w8 hown8 hg8 _ hat8
      obtain ⟨F9, h9⟩ := S5.out.appV hown8 hg8 (by simpa using hat8)
      have S9 := Lib.hid h9
      clear hown8 hg8 hat8 h9 OW hzs S5
      go_wp2
      go_roundw
      case rel => exact ⟨ws.length + 1, F9, by omega, by go_num, by rw [WS.out, List.map_append]; exact S9.out⟩
      case measure => simp [intOf]; omega
    · have hge : ¬ (k : Int) < (l.length : Int) := by omega
      obtain rfl : k = l.length := by omega
      rw [wds_all] at S3
      by_cases h0 : l = []
      · have HR := Lib.hid (R1.out HOK.out h0)
        have hz : l.length = 0 := by rw [h0]; rfl
        have g0 : ((l.length : Int) == 0) = true := beq_iff_eq.2 (by omega)
        clear h0 R1 R2
        go_wp2
        go_ret
        exact ⟨ret_sZ HR.out.symm, S3.out.1⟩
      · have HR := Lib.hid (R2.out HOK.out h0)
        have hz : ¬ l.length = 0 := fun e => h0 (List.eq_nil_of_length_eq_zero e)
        have g0 : ((l.length : Int) == 0) = false := by rw [beq_eq_false_iff_ne]; omega
        have HT := Lib.hid (tx_tot p h24)
        clear h0 R1 R2
        go_wp2_with fail
        refine (specJoin_any (l.map (fmtLt p)) ⟨#[32]⟩ _ _ (by exact rd_flat (S3.out.rd 0 rfl)) HT.out (by rw [List.length_map]; omega) (by decide)).mono ?_
        rintro e w9 ⟨rfl, rfl⟩
        go_wp2
        go_ret
        exact ⟨ret_sZ HR.out.symm, S3.out.1⟩
set_option maxRecDepth 100000 in
set_option maxHeartbeats 8000000 in
theorem implFormatClause_any (p : Pj) (l : List Lt) (v u : Value) (w : World) (hv : (trPj p).rd w v) (hk : (trPj p).ok) {B0 : Nat} {G0 : List Nat} (ho : (trLts l).own w B0 u G0) (hkl : (trLts l).ok) (hlen : l.length ≤ 1048576) (ht : TB w) :
    Calls Tryz.prog 10 #[v, u] w fun e w' => e = .returned (.string (fmtCl p l)) ∧ Below w.heap.size w w' := by
  have HV := Lib.hid hv
  have HK := Lib.hid hk
  have HO := Lib.hid ho
  have HKL := Lib.hid hkl
  have T0 := Lib.hid ht
  have hl := Tr.own_rd _ _ _ ho
  clear ho hkl ht
  obtain ⟨A1, c1, A2, c2, A3, c3, A4, c4, rfl, _⟩ := rdProject_t hv
  obtain ⟨hll, A, c, rfl, ga⟩ := rdLiteralS_t hl
  have HL := Lib.hid hl
  have GA := Lib.hid ga
  have R0 := Lib.hid (@fmtCl_no p l)
  have R1 := Lib.hid (fun (h : clOkB p l = true) (h0 : l = []) => show fmtCl p l = dashC from by subst h0; exact fmtCl_nil p)
  have R2 := Lib.hid (@fmtCl_yes p l)
  have CK := Lib.hid (fun h => (clOk_of (p := p) (l := l) h).len)
  generalize fmtCl p l = res at R0 R1 R2 ⊢
  clear hv hk hl ga
  obtain ⟨i0, hi0, hz0, hz1, hz2⟩ := info_parts infoString
  have S0 := Lib.hid ((Sn.start w).box 36 [.int .i64 p.dl, .slice A1 p.acts.length c1, .slice A2 p.lks.length c2, .slice A3 p.ress.length c3, .slice A4 p.stk.length c4])
  go_enter Tryz.func10, Tryz.ntmps10
  go_wp2_with fail
  refine (implClauseOk_any p l _ _ _ (by exact S0.out.old HV.out) HK.out (by exact Tr.own_below HO.out S0.out.1 (Nat.le_refl _)) HKL.out hlen).mono ?_
  rintro e w1 ⟨rfl, b1⟩
  have S1 := Lib.hid (S0.out.go b1)
  clear S0 b1
  rcases hok : clOkB p l with _ | _
  · have HR := Lib.hid (R0.out hok)
    clear hok
    go_wp2
    go_ret
    exact ⟨ret_sZ HR.out.symm, S1.out.1⟩
  have HOK := Lib.hid hok
  have h24 := CK.out hok
  clear hok
  by_cases h0 : l = []
  · have HR := Lib.hid (R1.out HOK.out h0)
    have hz : l.length = 0 := by rw [h0]; rfl
    have g0 : ((l.length : Int) == 0) = true := beq_iff_eq.2 (by omega)
    clear h0 R1 R2
    go_wp2
    go_ret
    exact ⟨ret_sZ HR.out.symm, S1.out.1⟩
  have HR := Lib.hid (R2.out HOK.out h0)
  have hz : ¬ l.length = 0 := fun e => h0 (List.eq_nil_of_length_eq_zero e)
  have g0 : ((l.length : Int) == 0) = false := by rw [beq_eq_false_iff_ne]; omega
  clear h0 R1 R2
  go_wp2_with (at_make; refine wpList_make_full _ rfl _ _ 53 rfl w1.heap.size 9 i0 (.string ⟨#[]⟩) 1 Tryz.underlying53 hi0 hz0 hz1 .i64 .i64 _ _ l.length rfl rfl rfl rfl (by rw [hz2]; omega) (by unfold maxLen; omega) (Nat.le_refl _) ?_; intro w2 hown2 hgrow2; have hml := own_len hown2; have S2 := Lib.hid (S1.out.newI hown2 ((Below.refl _ _).grown hgrow2 (Nat.le_refl _) (by simp))); clear hown2 hgrow2 S1)
  generalize hms : (madeCells (Value.string ⟨#[]⟩).cells (l.length * 1)).toList = ms at S2 hml
  have HML := Lib.hid hml
  clear hms hml
  generalize w1.heap.size = g at S2 ⊢
  go_loopw [20] (fun i wr => ∃ k : Nat, k ≤ l.length ∧ i = .int .i64 k ∧ Sn w wr [⟨flat 9 (mix (wdV p l) ms k), .slice (some ⟨g, 0, none⟩) l.length l.length, [g]⟩, boxI w.heap.size 36 [.int .i64 p.dl, .slice A1 p.acts.length c1, .slice A2 p.lks.length c2, .slice A3 p.ress.length c3, .slice A4 p.stk.length c4]]) (fun i _ => l.length - (intOf i).toNat)
  case atStart => exact ⟨0, Nat.zero_le _, rfl, by rw [mix_zero]; exact S2.out⟩
  case round =>
    obtain ⟨k, hkl, rfl, hS⟩ := hrel
    have S3 := Lib.hid hS
    clear hS S2
    by_cases hlt : k < l.length
    · have hlt' : (k : Int) < (l.length : Int) := by omega
      have k0 : (0 : Int) ≤ (k : Int) := by omega
      obtain ⟨b, o, rfl, hb, hc⟩ := GA.out k hlt
      obtain ⟨x0, x1, x2⟩ := hc k hlt
      have hx0 := (S3.out.1.cell (p := ⟨b, o + k * 3, none⟩) hb).trans x0
      have hx1 := (S3.out.1.cell (p := ⟨b, o + k * 3 + 1, none⟩) hb).trans x1
      have hx2 := (S3.out.1.cell (p := ⟨b, o + k * 3 + 2, none⟩) hb).trans x2
      clear hc x0 x1 x2
      have ML := Lib.hid (mix_len (wdV p l) ms (j := k) (by rw [HML.out]; exact hkl))
      have MS := Lib.hid (mix_set (wdV p l) ms (j := k) (by rw [HML.out]; exact hlt))
      have HW := Lib.hid (wdV_at (p := p) hlt)
      generalize l[k] = m at hx0 hx1 hx2 HW
      generalize mix (wdV p l) ms k = xs at S3 ML MS
      have S4 := Lib.hid (S3.out.box 55 [.int .i64 m.ki, .int .i64 m.ac, .int .i64 m.va])
      clear S3
      obtain ⟨e0, e1, e2, e3, e4, ef⟩ := (S4.out.bk 2 rfl).c5
      go_wp2_with fail
      clear e0 e1 e2 e3 e4 ef
      refine (implFormatLiteral_any p m _ _ (by exact S4.out.old HV.out) HK.out (by exact T0.out.below S4.out.1 (Nat.le_refl _))).mono ?_
      rintro e w5 ⟨rfl, b5⟩
      have S5 := Lib.hid ((S4.out.go b5).drop 0)
      simp only [List.eraseIdx_cons_zero] at S5
      clear S4 b5 hx0 hx1 hx2
      have hxl : xs.length = l.length := ML.out.trans HML.out
      have CV := S5.out.cellV hxl (i := k) (by rw [hxl]; exact hlt)
      have hcv := CV.1
      have hfv := CV.2
      have S8 := S5.out.setV hxl k (wdV p l k)
      rw [MS.out, HW.out] at S8
      have S9 := Lib.hid S8
      have hk9 : k < xs.length := by omega
      generalize xs[k] = z at hcv
      clear CV S8 hxl hk9 MS ML
      go_wp2
      go_roundw
      case rel => exact ⟨k + 1, by omega, by go_num, S9.out⟩
      case measure => simp [intOf]; omega
    · have hge : ¬ (k : Int) < (l.length : Int) := by omega
      obtain rfl : k = l.length := by omega
      rw [mix_full _ _ HML.out, wdV_all] at S3
      have HT := Lib.hid (tx_tot p h24)
      go_wp2_with fail
      refine (joinAll_any (l.map (fmtLt p)) ⟨#[32]⟩ _ _ (by exact rd_flat (S3.out.rd 0 rfl)) HT.out (by rw [List.length_map]; omega) (by decide)).mono ?_
      rintro e w9 ⟨rfl, b9⟩
      have S9 := Lib.hid (S3.out.go b9)
      go_wp2
      go_ret
      exact ⟨ret_sZ HR.out.symm, S9.out.1⟩
end Go.Proofs.YtgbpomakomddjabGreatDoor
end

section
namespace Go.Proofs.YtgbpomakomddjabGreatDoor
open Go.RowKit Go.Shelf
set_option linter.unusedVariables false

theorem lt_sz (l : List Lt) : (trLts l).sz = l.length := by
  have e : (trLts l).sz = l.length + szL (l.flatMap cellsLt) := rfl
  rw [e, szL_lt]; omega
theorem lt_len {l : List Lt} {n : Nat} (h : (trLts l).sz ≤ n) : l.length ≤ n := by rw [lt_sz] at h; exact h
theorem newL_sz (l : List Lt) : (trLts (newL l)).sz ≤ (trLts l).sz := by rw [lt_sz, lt_sz]; exact len_newL l
theorem woL_sz (l : List Lt) (a : Int) : (trLts (woL l a)).sz ≤ (trLts l).sz := by rw [lt_sz, lt_sz]; exact woL_len l a
theorem resL_sz (a b : List Lt) (l : Lt) : (trLts (resL a b l)).sz ≤ (trLts a).sz + (trLts b).sz := by
  rw [lt_sz, lt_sz, lt_sz]
  refine Nat.le_trans (len_newL _) ?_
  rw [resLits, List.length_append]
  have h1 := List.length_filter_le (fun x => x != l) a
  have h2 := List.length_filter_le (fun x => x != negL l) b
  omega
end Go.Proofs.YtgbpomakomddjabGreatDoor
end
