/- DERIVED. CONTRACTS: ParseMode, of the model and of the program. -/
import Derived.Test.YtnbkiobbacaaiaaGreatDoorModF
import Derived.Test.YtnbkiobbacaaiaaGreatDoorPars
import Derived.Test.YtnbkiobbacaaiaaGreatDoorSplit
import Derived.Test.YtnbkiobbacaaiaaGreatDoorPar
import Derived.Test.YtnbkiobbacaaiaaGreatDoorCore
namespace Go.Proofs.YtnbkiobbacaaiaaGreatDoor
open Go.RowKit

/-- The mode that a text stands for: the zero mode where it stands for none. -/
def parMd (s : ByteArray) : Md := if mdOk s = true then ⟨(parseB (part3 s 0)).1, (parsesB (part3 s 1)).1, (parsesB (part3 s 2)).1⟩ else ⟨0, [], []⟩
theorem par_yes_md {s : ByteArray} (h : mdOk s = true) : parMd s = ⟨(parseB (part3 s 0)).1, (parsesB (part3 s 1)).1, (parsesB (part3 s 2)).1⟩ := if_pos h
theorem par_no_md {s : ByteArray} (h : mdOk s = false) : parMd s = ⟨0, [], []⟩ := if_neg (by rw [h]; exact fun h => by cases h)
theorem own_nilI (w : World) (B : Nat) : (trI []).own w B (.slice none 0 0) [] := ⟨[], [], ⟨rfl, .inl ⟨rfl, rfl⟩⟩, ⟨rfl, rfl⟩, rfl⟩
theorem strAt {w : World} {B : Nat} {e : TypeId} {g cap n : Nat} {xs : List ByteArray} (h : w.ownsRow B e 1 (.slice (some ⟨g, 0, none⟩) n cap) n (xs.map .string)) {j : Nat} (hj : j < xs.length) : w.cell? ⟨g, j, none⟩ = some (.string xs[j]) := by
  have hl := own_len h
  rw [List.length_map] at hl
  rw [h.cellAt j (by omega), List.getElem?_map, List.getElem?_eq_getElem hj]
  rfl
theorem strPart {w : World} {B : Nat} {e : TypeId} {g cap n : Nat} {s : ByteArray} (h : w.ownsRow B e 1 (.slice (some ⟨g, 0, none⟩) n cap) n ((splitB s slash).map .string)) (hl : (splitB s slash).length = 3) {j : Nat} (hj : j < 3) : w.cell? ⟨g, j, none⟩ = some (.string (part3 s j)) := by
  rw [strAt h (j := j) (by omega), part3_at hl hj]
theorem row3 {w : World} {B : Nat} {e : TypeId} {v : Value} {xs : List ByteArray} (h : w.ownsRow B e 1 v xs.length (xs.map .string)) (hl : xs.length = 3) : ∃ g cap, v = .slice (some ⟨g, 0, none⟩) 3 cap ∧ g < w.heap.size := by
  rcases h.2 with ⟨_, h0⟩ | ⟨g, cap, cur, rfl, _, hh, _⟩
  · omega
  · exact ⟨g, cap, by rw [hl], (Array.getElem?_eq_some_iff.1 hh).1⟩
theorem parses_inR (s : ByteArray) : ∀ n ∈ (parsesB s).1, -9223372036854775808 ≤ n ∧ n ≤ 9223372036854775807 := by
  intro n hn
  unfold parsesB at hn
  split at hn
  · cases hn
  · split at hn
    · obtain ⟨p, hp, rfl⟩ := List.mem_map.1 hn
      rename_i hall
      have h1 := parse_back (hall p hp)
      have h2 := hall p hp
      by_cases hr : (parseB p).1 < -100000 ∨ 100000 < (parseB p).1
      · rw [fmtB_out hr] at h1
        rw [← h1, parse_empty] at h2
        cases h2
      · show -9223372036854775808 ≤ (parseB p).1 ∧ (parseB p).1 ≤ 9223372036854775807
        omega
    · cases hn
theorem parts_fit {s : ByteArray} (h : (splitB s slash).length = 3) : (part3 s 0).size + (part3 s 1).size + (part3 s 2).size + 2 = s.size := by
  have e := join_split_c (c := 47) (by decide) s
  rw [← slash_sep, split3 h, join3] at e
  have := congrArg ByteArray.size e
  simp only [size_app] at this
  have hz : slash.size = 1 := rfl
  omega
theorem mdOk_len {s : ByteArray} (h : (splitB s slash).length ≠ 3) : mdOk s = false := by unfold mdOk; rw [decide_eq_false h]; rfl
theorem mdOk_3 {s : ByteArray} (h : (splitB s slash).length = 3) : mdOk s = ((parseB (part3 s 0)).2 && (inB (parseB (part3 s 0)).1 1 12 && ((parsesB (part3 s 1)).2 && (parsesB (part3 s 2)).2))) := by unfold mdOk; rw [decide_eq_true h]; rfl
theorem parMd_len (s : ByteArray) : (parMd s).us.length + (parMd s).co.length ≤ 2 * (s.size + 1) := by
  unfold parMd
  split
  · have h1 := pars_len (part3 s 1)
    have h2 := pars_len (part3 s 2)
    have h3 := part3_size s 1
    have h4 := part3_size s 2
    show (parsesB (part3 s 1)).1.length + (parsesB (part3 s 2)).1.length ≤ _
    omega
  · show 0 ≤ _; omega
theorem ret_tup {v : Value} {a b : Bool} (h : a = b) : Ending.returned (.tuple #[v, .bool a]) = .returned (.tuple #[v, .bool b]) := by rw [h]

set_option maxRecDepth 100000 in
set_option maxHeartbeats 4000000 in
theorem implParMode_any (s : ByteArray) (w : World) (hs : s.size ≤ 1048576) (ht : TB w) :
    Calls Tryz.prog 10 #[.string s] w fun e w' => ∃ v F, e = .returned (.tuple #[v, .bool (mdOk s)]) ∧ (trM (parMd s)).own w' w.heap.size v F ∧ F.Nodup ∧ Below w.heap.size w w' := by
  have T0 := Lib.hid ht
  clear ht
  have S0 := Lib.hid ((Sn.start w).box 39 [.int .i64 0, .slice none 0 0, .slice none 0 0])
  go_enter Tryz.func10, Tryz.ntmps10
  go_wp2_with fail
  refine (implSplitAny_any s slash _ (by omega)).mono ?_
  rintro e w1 ⟨v1, rfl, o, b⟩
  have S1 := Lib.hid (S0.out.newI o b)
  clear S0 o b
  by_cases h3 : (splitB s slash).length = 3
  · have hfit := parts_fit h3
    have hl1 := pars_len (part3 s 1)
    have hl2 := pars_len (part3 s 2)
    obtain ⟨g, cap, rfl, hg⟩ := row3 (by simpa using S1.out.ownI 0 rfl) h3
    have H3 := Lib.hid h3
    have MD := Lib.hid (mdOk_3 h3)
    have BK := Lib.hid (fun h0 hd h1 h2 => mode_back h3 h0 hd h1 h2)
    have NO := Lib.hid (fun hd u c => mode_no h3 hd u c)
    clear h3
    have q0 := strPart (by simpa [H3.out] using S1.out.ownI 0 rfl) H3.out (j := 0) (by omega)
    go_wp2_with fail
    refine (implParse_any _ _ (by unfold maxLen; omega) (T0.out.below S1.out.1 (Nat.le_refl _))).mono ?_
    rintro e w2 ⟨hp, b⟩
    have hp' : e = .returned (.tuple #[.int .i64 (parseB (part3 s 0)).1, .bool (parseB (part3 s 0)).2]) := hp
    subst hp'
    have S2 := Lib.hid (S1.out.go b)
    clear S1 b hp q0
    have q1 := strPart (by simpa [H3.out] using S2.out.ownI 0 rfl) H3.out (j := 1) (by omega)
    have hg2 : g < w2.heap.size := by
      obtain ⟨g', cap', he, hlt⟩ := row3 (by simpa using S2.out.ownI 0 rfl) H3.out
      injection he with he; injection he with he; injection he with he; subst he; exact hlt
    clear hg
    go_wp2_with fail
    refine (implPars_any (part3 s 1) _ (by omega) (T0.out.below S2.out.1 (Nat.le_refl _))).mono ?_
    rintro e w3 ⟨u, rfl, o, b⟩
    obtain ⟨U, cu, rfl, _⟩ := rdI_slice (own_rd o (own_le o))
    have S3 := Lib.hid (S2.out.newI o b)
    have hg3 : g < w3.heap.size := by have := b.size; omega
    clear S2 o b q1 hg2
    have q2 := strPart (by simpa [H3.out] using S3.out.ownI 1 rfl) H3.out (j := 2) (by omega)
    go_wp2_with fail
    refine (implPars_any (part3 s 2) _ (by omega) (T0.out.below S3.out.1 (Nat.le_refl _))).mono ?_
    rintro e w4 ⟨c, rfl, o, b⟩
    obtain ⟨C, cc, rfl, _⟩ := rdI_slice (own_rd o (own_le o))
    have S4 := Lib.hid (S3.out.newI o b)
    clear S3 o b q2 hg3
    rcases k0 : (parseB (part3 s 0)).2 with _ | _
    · have K0 := Lib.hid (show mdOk s = false from by rw [MD.out, k0]; rfl)
      clear k0
      obtain ⟨z0, z1, z2, zf⟩ := (S4.out.bk 3 rfl).c3
      have SZ := Lib.hid (((S4.out.boxSet 3 rfl 0 (.int .i64 0)).boxSet 3 rfl 1 (.slice none 0 0)).boxSet 3 rfl 2 (.slice none 0 0))
      go_wp2
      refine bodyPost_ret (v := .tuple #[.agg #[.int .i64 0, .slice none 0 0, .slice none 0 0], .bool false]) (by simp [results, Tryz.results10, go_sem, z0, z1, z2]) rfl ⟨_, [], ret_tup (K0.out).symm, ?_, by simp, SZ.out.1⟩
      rw [par_no_md (K0.out)]
      exact mk_ownM (m := ⟨0, [], []⟩) (own_nilI _ _) (own_nilI _ _)
    have K0 := Lib.hid k0
    clear k0
    go_wp2_with fail
    refine (isDur_any _ _).mono ?_
    rintro e w5 ⟨rfl, hw⟩
    subst hw
    rcases kd : inB (parseB (part3 s 0)).1 1 12 with _ | _
    · have KD := Lib.hid (show mdOk s = false from by rw [MD.out, kd]; simp)
      clear kd
      obtain ⟨z0, z1, z2, zf⟩ := (S4.out.bk 3 rfl).c3
      have SZ := Lib.hid (((S4.out.boxSet 3 rfl 0 (.int .i64 0)).boxSet 3 rfl 1 (.slice none 0 0)).boxSet 3 rfl 2 (.slice none 0 0))
      go_wp2
      refine bodyPost_ret (v := .tuple #[.agg #[.int .i64 0, .slice none 0 0, .slice none 0 0], .bool false]) (by simp [results, Tryz.results10, go_sem, z0, z1, z2]) rfl ⟨_, [], ret_tup (KD.out).symm, ?_, by simp, SZ.out.1⟩
      rw [par_no_md (KD.out)]
      exact mk_ownM (m := ⟨0, [], []⟩) (own_nilI _ _) (own_nilI _ _)
    have KD := Lib.hid kd
    clear kd
    rcases k1 : (parsesB (part3 s 1)).2 with _ | _
    · have K1 := Lib.hid (show mdOk s = false from by rw [MD.out, k1]; simp)
      clear k1
      obtain ⟨z0, z1, z2, zf⟩ := (S4.out.bk 3 rfl).c3
      have SZ := Lib.hid (((S4.out.boxSet 3 rfl 0 (.int .i64 0)).boxSet 3 rfl 1 (.slice none 0 0)).boxSet 3 rfl 2 (.slice none 0 0))
      go_wp2
      refine bodyPost_ret (v := .tuple #[.agg #[.int .i64 0, .slice none 0 0, .slice none 0 0], .bool false]) (by simp [results, Tryz.results10, go_sem, z0, z1, z2]) rfl ⟨_, [], ret_tup (K1.out).symm, ?_, by simp, SZ.out.1⟩
      rw [par_no_md (K1.out)]
      exact mk_ownM (m := ⟨0, [], []⟩) (own_nilI _ _) (own_nilI _ _)
    have K1 := Lib.hid k1
    clear k1
    rcases k2 : (parsesB (part3 s 2)).2 with _ | _
    · have K2 := Lib.hid (show mdOk s = false from by rw [MD.out, k2]; simp)
      clear k2
      obtain ⟨z0, z1, z2, zf⟩ := (S4.out.bk 3 rfl).c3
      have SZ := Lib.hid (((S4.out.boxSet 3 rfl 0 (.int .i64 0)).boxSet 3 rfl 1 (.slice none 0 0)).boxSet 3 rfl 2 (.slice none 0 0))
      go_wp2
      refine bodyPost_ret (v := .tuple #[.agg #[.int .i64 0, .slice none 0 0, .slice none 0 0], .bool false]) (by simp [results, Tryz.results10, go_sem, z0, z1, z2]) rfl ⟨_, [], ret_tup (K2.out).symm, ?_, by simp, SZ.out.1⟩
      rw [par_no_md (K2.out)]
      exact mk_ownM (m := ⟨0, [], []⟩) (own_nilI _ _) (own_nilI _ _)
    have OK := Lib.hid (show mdOk s = true from by rw [MD.out, K0.out, KD.out, K1.out, k2]; rfl)
    clear k2
    obtain ⟨z0, z1, z2, zf⟩ := (S4.out.bk 3 rfl).c3
    have SZ := Lib.hid (((S4.out.boxSet 3 rfl 0 (.int .i64 (parseB (part3 s 0)).1)).boxSet 3 rfl 1 (.slice U (parsesB (part3 s 1)).1.length cu)).boxSet 3 rfl 2 (.slice C (parsesB (part3 s 2)).1.length cc))
    go_wp2
    refine bodyPost_ret (v := .tuple #[.agg #[.int .i64 (parseB (part3 s 0)).1, .slice U (parsesB (part3 s 1)).1.length cu, .slice C (parsesB (part3 s 2)).1.length cc], .bool true]) (by simp [results, Tryz.results10, go_sem, z0, z1, z2]) rfl ⟨_, _, ret_tup OK.out.symm, ?_, SZ.out.apart 0 1 rfl rfl (by omega), SZ.out.1⟩
    rw [par_yes_md OK.out]
    exact mk_ownM (m := ⟨(parseB (part3 s 0)).1, (parsesB (part3 s 1)).1, (parsesB (part3 s 2)).1⟩) (SZ.out.own 1 rfl).1 (SZ.out.own 0 rfl).1
  · obtain ⟨A, c, rfl, _⟩ := rdS_at (by exact S1.out.rdI 0 rfl)
    have K := Lib.hid (mdOk_len h3)
    have hne : (((splitB s slash).length : Int) != 3) = true := by simp; omega
    clear h3
    obtain ⟨z0, z1, z2, zf⟩ := (S1.out.bk 1 rfl).c3
    have SZ := Lib.hid (((S1.out.boxSet 1 rfl 0 (.int .i64 0)).boxSet 1 rfl 1 (.slice none 0 0)).boxSet 1 rfl 2 (.slice none 0 0))
    go_wp2
    refine bodyPost_ret (v := .tuple #[.agg #[.int .i64 0, .slice none 0 0, .slice none 0 0], .bool false]) (by simp [results, Tryz.results10, go_sem, z0, z1, z2]) rfl ⟨_, [], ret_tup (K.out).symm, ?_, by simp, SZ.out.1⟩
    rw [par_no_md (K.out)]
    exact mk_ownM (m := ⟨0, [], []⟩) (own_nilI _ _) (own_nilI _ _)
end Go.Proofs.YtnbkiobbacaaiaaGreatDoor
