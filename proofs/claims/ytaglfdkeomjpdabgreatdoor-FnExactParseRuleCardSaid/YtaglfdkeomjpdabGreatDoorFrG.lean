/- DERIVED. Rules read from text: mathematics: both readers find the one rule whose text it is. -/
import Derived.Test.YtaglfdkeomjpdabGreatDoorDats
import Derived.Test.YtaglfdkeomjpdabGreatDoorRuA
import Derived.Test.YtaglfdkeomjpdabGreatDoorSplit
import Derived.Test.YtaglfdkeomjpdabGreatDoorShelf
import Derived.Shelf.Spec.SlicesGrow
import Derived.Test.YtaglfdkeomjpdabGreatDoorRuC
import Derived.Test.YtaglfdkeomjpdabGreatDoorRuMa
import Derived.Test.YtaglfdkeomjpdabGreatDoorScT
import Derived.Test.YtaglfdkeomjpdabGreatDoorRegZ
import Derived.Test.YtaglfdkeomjpdabGreatDoorPar
import Derived.Test.YtaglfdkeomjpdabGreatDoorPrB
import Derived.Test.YtaglfdkeomjpdabGreatDoorHof
import Derived.Test.YtaglfdkeomjpdabGreatDoorScQ

section
namespace Go.Proofs.YtaglfdkeomjpdabGreatDoor
open Go.RowKit Go.Shelf

theorem growNilS_any (n : Nat) (w : World) (hn : n ≤ 1048576) :
    Calls Tryz.prog 71 #[.slice none 0 0, .int .i64 n] w fun e w' => ∃ v', e = .returned v' ∧ w'.ownsRow w.heap.size 9 1 v' 0 [] ∧ Below w.heap.size w w' := by
  obtain ⟨i0, hi, hz0, hz1, hz2⟩ := info_parts infoString
  by_cases h0 : n = 0
  · subst h0
    refine (Any8.slices_Grow_room Tryz.laysGrow_71 none 0 0 0 w (Nat.le_refl _) (by omega) (by omega) (Nat.le_refl _)).mono ?_
    rintro e w1 ⟨rfl, rfl⟩
    exact ⟨_, rfl, World.ownsRow_nil _ _ _ _, Below.refl _ _⟩
  · refine (Any8.slices_Grow_grow Tryz.laysGrow_71 i0 (.string ⟨#[]⟩) hi hz0 (by omega) none 0 0 n [] w (Nat.le_refl _) (by omega) (by rw [hz2]; omega) (by omega) (by simp) (fun _ => rfl) (fun a h => by cases h)).mono ?_
    rintro e w1 ⟨rfl, rfl⟩
    have hge := grownCap_ge w (0 + n) 0 9
    have hle := grownCap_le_maxLen w (0 + n) 0 9 (by unfold maxLen; omega)
    refine ⟨_, rfl, ?_, ?_⟩
    · exact World.ownsRow_made w.drew _ _ (Nat.le_refl _) hle (by
        simp only [Array.size_append, size_zeroCells]
        change 0 + (0 + n - 0) * 1 + (grownCap w (0 + n) 0 9 - (0 + n)) * 1 = grownCap w (0 + n) 0 9 * 1
        omega)
    · exact (below_drewN' w 1).alloc (Nat.le_refl _) _

def catS (Ls : List (List ByteArray)) : List ByteArray := Ls.flatten
theorem catS_take {Ls : List (List ByteArray)} {k : Nat} (h : k < Ls.length) : (catS (Ls.take (k + 1))) = (catS (Ls.take k)) ++ Ls[k] := by
  unfold catS
  rw [List.take_succ_eq_append_getElem h, List.flatten_append]; simp
theorem flatS_le (Ls : List (List ByteArray)) (k : Nat) : (catS (Ls.take k)).length ≤ (catS Ls).length := by
  unfold catS
  conv => rhs; rw [← List.take_append_drop k Ls, List.flatten_append, List.length_append]
  omega
def strV (xs : List ByteArray) : List Value := xs.map .string
theorem strV_len (xs : List ByteArray) : (strV xs).length = xs.length := by simp [strV]
theorem strV_app (xs ys : List ByteArray) : strV (xs ++ ys) = strV xs ++ strV ys := by simp [strV]
theorem strV_one (xs : List ByteArray) : ∀ u ∈ strV xs, u.oneCell' = true := by
  intro u hu
  obtain ⟨y, _, rfl⟩ := List.mem_map.1 hu
  rfl
theorem string_cell : (Value.string ⟨#[]⟩).cells.size = 1 := by simp [Value.cells]

set_option maxRecDepth 100000 in
set_option maxHeartbeats 2000000 in
theorem concatS_any (vs : List Value) (Ls : List (List ByteArray)) (vl : Value) (w : World) (hr : Rd w vl vs) (hn : vs.length = Ls.length) (hn0 : 0 < vs.length)
    (hel : ∀ i, (h : i < vs.length) → Rd w vs[i] (strV (Ls[i]'(hn ▸ h))) ∧ NilOk vs[i]) (hlen : (catS Ls).length ≤ 524288) :
    Calls Tryz.prog 47 #[vl] w fun e w' => ∃ v', e = .returned v' ∧ w'.ownsRow w.heap.size 9 1 v' (strV (catS Ls)).length (strV (catS Ls)) ∧ Below w.heap.size w w' := by
  obtain ⟨hl, A, c, rfl, h⟩ := hr
  unfold maxLen at hl
  rcases h with h | ⟨b, o, rfl, hb, hc⟩
  · rw [h] at hn0; simp at hn0
  have HC := Lib.hid hc
  have HE := Lib.hid hel
  clear hc hel
  go_enter Tryz.func47, Tryz.ntmps47
  go_wp2
  go_loopw [3, 11] (fun s i wr => ∃ k : Nat, k ≤ vs.length ∧ i = .int .i64 k ∧ s = .int .i64 ((catS (Ls.take k)).length : Nat) ∧ w = wr) (fun _ i _ => vs.length - (intOf i).toNat)
  case atStart => exact ⟨0, Nat.zero_le _, rfl, rfl, rfl⟩
  case round =>
    obtain ⟨k, hk, rfl, rfl, rfl⟩ := hrel
    by_cases hlt : k < vs.length
    · have hlt' : (k : Int) < (vs.length : Int) := by omega
      have cx := HC.out k hlt
      obtain ⟨⟨hlk, A1, c1, he, _⟩, _⟩ := HE.out k hlt
      rw [strV_len] at he
      rw [he] at cx
      have HF := Lib.hid (catS_take (k := k) (Ls := Ls) (by omega))
      have hb1 := flatS_le Ls (k + 1)
      rw [HF.out, List.length_append] at hb1
      have hsum : ((catS (Ls.take (k + 1))).length : Int) = ((catS (Ls.take k)).length : Int) + ((Ls[k]'(by omega)).length : Int) := by rw [HF.out, List.length_append]; omega
      have HS := Lib.hid hsum
      clear hsum hlk he
      generalize (catS (Ls.take k)).length = m at HS hb1
      generalize (Ls[k]'(by omega)).length = q at HS hb1 cx
      have hnn : ¬ ((m : Int) + (q : Int) < 0) := by omega
      go_wp2
      go_roundw
      case rel => exact ⟨k + 1, by omega, by go_num, by rw [HS.out], by trivial⟩
      case measure => simp [intOf]; omega
    · have hge : ¬ (k : Int) < (vs.length : Int) := by omega
      obtain rfl : k = vs.length := by omega
      rw [List.take_of_length_le (by omega)]
      go_wp2_with fail
      refine (growNilS_any _ _ (by omega)).mono ?_
      rintro e w1 ⟨v1, rfl, o1, b1⟩
      have O1 := Lib.hid (And.intro o1 b1)
      clear o1 b1
      go_wp2
      go_loopw [6, 27] (fun out i wr => ∃ k : Nat, k ≤ vs.length ∧ i = .int .i64 k ∧ wr.ownsRow w.heap.size 9 1 out (strV (catS (Ls.take k))).length (strV (catS (Ls.take k))) ∧ Below w.heap.size w wr) (fun _ i _ => vs.length - (intOf i).toNat)
      case atStart => exact ⟨0, Nat.zero_le _, rfl, O1.out.1, O1.out.2⟩
      case round =>
        obtain ⟨k, hk, rfl, hown, hbel⟩ := hrel
        by_cases hlt : k < vs.length
        · have hlt' : (k : Int) < (vs.length : Int) := by omega
          have cx := (hbel.cell (p := ⟨b, o + k, none⟩) hb).trans (HC.out k hlt)
          have HR := Lib.hid (HE.out k hlt)
          have HF := Lib.hid (catS_take (k := k) (Ls := Ls) (by omega))
          have hb1 := flatS_le Ls (k + 1)
          rw [HF.out, List.length_append] at hb1
          generalize hV : vs[k] = V at cx HR
          clear hV
          generalize hys : Ls[k]'(by omega) = ys at HR HF hb1
          clear hys
          generalize (catS (Ls.take k)) = zs at hown HF hb1
          obtain ⟨i0, hi, hz0, hz1, hz2⟩ := info_parts infoString
          have hb2 : (strV zs).length + (strV ys).length ≤ 1048576 := by rw [strV_len, strV_len]; omega
          go_wp2_with (first
            | (at_builtin; refine app_rdV rfl (.tmp 31) (.tmp 32) 46 9 i0 (.string ⟨#[]⟩) 16 rfl rfl hi hz0 hz1 hz2 string_cell (by decide) w.heap.size _ _ (strV zs) (strV ys) rfl rfl (by exact hown) (by exact HR.out.1.below hbel (Nat.le_refl _)) (strV_one ys) HR.out.2 hb2 hbel.size ?_; intro v2 w2 hown2 hg2 _
               have S2 := Lib.hid (And.intro hown2 (hbel.grown hg2 hbel.size (own_mem hown)))
               rw [← strV_app, ← HF.out] at S2
               clear hown2 hg2 hown hbel))
          go_roundw
          case rel => exact ⟨k + 1, by omega, by go_num, S2.out.1, S2.out.2⟩
          case measure => simp [intOf]; omega
        · have hge : ¬ (k : Int) < (vs.length : Int) := by omega
          obtain rfl : k = vs.length := by omega
          rw [List.take_of_length_le (by omega)] at hown
          have R := Lib.hid (And.intro hown hbel)
          clear hown
          go_wp2
          go_ret
          exact ⟨_, rfl, R.out.1, R.out.2⟩
end Go.Proofs.YtaglfdkeomjpdabGreatDoor
end

section
namespace Go.Proofs.YtaglfdkeomjpdabGreatDoor
open Go.RowKit Go.Shelf
set_option linter.unusedVariables false

def nmI (p : Pj) (a : Int) : ByteArray := nmA p a.toNat
def wordsC (p : Pj) : Cd → List ByteArray
  | .lnk a => [fmtB a]
  | .fin a => [nmI p a]
  | .tim a b => [fmtB a, fmtB b]
  | .wrk a b c => [fmtB a, fmtB b, fmtB c]
  | .par a b c => [fmtB a, nmI p b, nmI p c]
  | .stk a => [fmtB a]
noncomputable def fmtRuB (p : Pj) (r : Ru) : ByteArray := if ruOkB p r = true then (match condOf r with | some c => joinB (ruNm r.ki :: wordsC p c) spS | none => ⟨#[]⟩) else ⟨#[]⟩
theorem fmtRu_no {p : Pj} {r : Ru} (h : ruOkB p r = false) : fmtRuB p r = ⟨#[]⟩ := by rw [fmtRuB, h]; simp
theorem fmtRu_yes {p : Pj} {r : Ru} {c : Cd} (h : ruOkB p r = true) (hc : condOf r = some c) : fmtRuB p r = joinB (ruNm r.ki :: wordsC p c) spS := by rw [fmtRuB, if_pos h, hc]
theorem nmA_size {p : Pj} (hp : pokB p = true) (a : Nat) : (nmA p a).size ≤ 8 := by
  by_cases h : a < p.acts.length
  · rw [nmA_at h]
    exact aok_nm ((pok_acts hp).2 _ (List.getElem_mem h))
  · rw [nmA, List.getElem?_eq_none (by omega)]
    show 0 ≤ 8
    omega
theorem ruNm_size (k : Int) : (ruNm k).size ≤ 5 := by
  by_cases h : 0 ≤ k ∧ k ≤ 6
  · rw [ruNm, if_pos h]
    exact (by decide : ∀ n : Fin 7, (ruNames.getD n.val ⟨#[]⟩).size ≤ 5) ⟨k.toNat, by omega⟩
  · rw [ruNm_no h]; decide
theorem words_sum {p : Pj} (hp : pokB p = true) (k : Int) (c : Cd) : tot (ruNm k :: wordsC p c) ≤ 40 ∧ (wordsC p c).length ≤ 3 := by
  have hk := ruNm_size k
  cases c with
  | lnk a => have := fmtB_size a; simp [tot, wordsC]; omega
  | fin a => have := nmA_size hp a.toNat; simp [tot, wordsC, nmI]; omega
  | tim a b => have := fmtB_size a; have := fmtB_size b; simp [tot, wordsC]; omega
  | wrk a b c => have := fmtB_size a; have := fmtB_size b; have := fmtB_size c; simp [tot, wordsC]; omega
  | par a b c => have := fmtB_size a; have := nmA_size hp b.toNat; have := nmA_size hp c.toNat; simp [tot, wordsC, nmI]; omega
  | stk a => have := fmtB_size a; simp [tot, wordsC]; omega

/-- A slice of strings handed back: the words. -/
def WordsAt (w : World) (xs : List ByteArray) (e : Ending) (w' : World) : Prop := ∃ u, e = .returned u ∧ Rd w' u (xs.map .string) ∧ NilOk u ∧ Below w.heap.size w w'
theorem words_at {w w1 : World} {T : TypeId} (l : List ByteArray) (hl : l.length ≤ maxLen) (h : Below w.heap.size w w1) : WordsAt w l (.returned (.slice (some ⟨w1.heap.size, 0, none⟩) l.length l.length)) (w1.alloc (.cells ⟨l.map .string⟩ T)) :=
  ⟨_, rfl, newRow_any w1 T l hl, nilOk_some _ _ _, h.alloc h.size _⟩

set_option maxRecDepth 100000 in
set_option maxHeartbeats 8000000 in
theorem words_lnk (p : Pj) (a : Int) (v : Value) (w : World) (hv : (trPj p).rd w v) (ha : 0 ≤ a ∧ a ≤ 9223372036854775807) (ht : TB w) :
    Calls Tryz.prog 148 #[.agg #[.int .i64 a], v] w fun e w' => WordsAt w [fmtB a] e w' := by
  obtain ⟨A1, c1, A2, c2, A3, c3, A4, c4, rfl, _⟩ := rdProject_t hv
  have S0 := Lib.hid (((Sn.start w).box 142 [.int .i64 a]).box 37 [.int .i64 p.dl, .slice A1 p.acts.length c1, .slice A2 p.lks.length c2, .slice A3 p.ress.length c3, .slice A4 p.stk.length c4])
  have TB0 := Lib.hid (ht.below S0.out.1 (Nat.le_refl _))
  clear hv ht
  go_enter Tryz.func148, Tryz.ntmps148
  go_wp2_with fail
  refine (implFmt_any a _ (by omega) (by omega) TB0.out).mono ?_
  rintro e w1 ⟨rfl, b⟩
  have S1 := Lib.hid (S0.out.go b)
  clear S0 b TB0
  go_wp2
  go_ret
  exact words_at [fmtB a] (by simp [maxLen]) S1.out.1
set_option maxRecDepth 100000 in
set_option maxHeartbeats 8000000 in
theorem words_stk (p : Pj) (a : Int) (v : Value) (w : World) (hv : (trPj p).rd w v) (ha : 0 ≤ a ∧ a ≤ 9223372036854775807) (ht : TB w) :
    Calls Tryz.prog 166 #[.agg #[.int .i64 a], v] w fun e w' => WordsAt w [fmtB a] e w' := by
  obtain ⟨A1, c1, A2, c2, A3, c3, A4, c4, rfl, _⟩ := rdProject_t hv
  have S0 := Lib.hid (((Sn.start w).box 152 [.int .i64 a]).box 37 [.int .i64 p.dl, .slice A1 p.acts.length c1, .slice A2 p.lks.length c2, .slice A3 p.ress.length c3, .slice A4 p.stk.length c4])
  have TB0 := Lib.hid (ht.below S0.out.1 (Nat.le_refl _))
  clear hv ht
  go_enter Tryz.func166, Tryz.ntmps166
  go_wp2_with fail
  refine (implFmt_any a _ (by omega) (by omega) TB0.out).mono ?_
  rintro e w1 ⟨rfl, b⟩
  have S1 := Lib.hid (S0.out.go b)
  clear S0 b TB0
  go_wp2
  go_ret
  exact words_at [fmtB a] (by simp [maxLen]) S1.out.1
set_option maxRecDepth 100000 in
set_option maxHeartbeats 8000000 in
theorem words_fin (p : Pj) (k : Nat) (v : Value) (w : World) (hv : (trPj p).rd w v) (hk : k < p.acts.length) :
    Calls Tryz.prog 151 #[.agg #[.int .i64 (k : Int)], v] w fun e w' => WordsAt w [nmA p k] e w' := by
  obtain ⟨A1, c1, A2, c2, A3, c3, A4, c4, rfl, r1, r2, r3, r4⟩ := rdProject_t hv
  obtain ⟨hl1, B1, d1, he, g1⟩ := rdActivityS_t r1
  injection he with he _ he2
  subst he he2
  obtain ⟨b1, o1, rfl, hb1, hc1⟩ := g1 k hk
  obtain ⟨M, cm, x0, x1, x2, rm⟩ := hc1 k hk
  rw [← nmA_at hk] at x0
  have S0 := Lib.hid (((Sn.start w).box 144 [.int .i64 (k : Int)]).box 37 [.int .i64 p.dl, .slice (some ⟨b1, o1, none⟩) p.acts.length c1, .slice A2 p.lks.length c2, .slice A3 p.ress.length c3, .slice A4 p.stk.length c4])
  have hk' : (k : Int) < (p.acts.length : Int) := by omega
  have k0 : (0 : Int) ≤ (k : Int) := by omega
  have z0 := (S0.out.1.cell (p := ⟨b1, o1 + k * 3, none⟩) hb1).trans x0
  generalize nmA p k = nm at z0 x0 ⊢
  clear hv hc1 r1 r2 r3 r4 g1 rm x0 x1 x2
  go_enter Tryz.func151, Tryz.ntmps151
  go_wp2
  have R := words_at (T := 9) [nm] (by simp [maxLen]) S0.out.1
  simp only [List.length_cons, List.length_nil, List.map_cons, List.map_nil, World.size_alloc] at R
  first
    | (go_ret2; exact R)
    | (go_ret; simpa using R)
set_option maxRecDepth 100000 in
set_option maxHeartbeats 8000000 in
theorem words_tim (p : Pj) (a b : Int) (v : Value) (w : World) (hv : (trPj p).rd w v) (ha : 0 ≤ a ∧ a ≤ 9223372036854775807) (hb : 0 ≤ b ∧ b ≤ 9223372036854775807) (ht : TB w) :
    Calls Tryz.prog 154 #[.agg #[.int .i64 a, .int .i64 b], v] w fun e w' => WordsAt w [fmtB a, fmtB b] e w' := by
  obtain ⟨A1, c1, A2, c2, A3, c3, A4, c4, rfl, _⟩ := rdProject_t hv
  have S0 := Lib.hid (((Sn.start w).box 146 [.int .i64 a, .int .i64 b]).box 37 [.int .i64 p.dl, .slice A1 p.acts.length c1, .slice A2 p.lks.length c2, .slice A3 p.ress.length c3, .slice A4 p.stk.length c4])
  have HT := Lib.hid ht
  clear hv ht
  go_enter Tryz.func154, Tryz.ntmps154
  go_wp2_with fail
  generalize World.alloc (World.alloc w _) _ = wv at S0 ⊢
  obtain ⟨e0, e1, ef⟩ := (S0.out.bk 1 rfl).c2
  have hl1 := (S0.out.bk 1 rfl).lt
  have S1 := Lib.hid S0.out.drew1
  have CE := Lib.hid (fun (W : World) (h : Wr [] wv.drew W) => show Hid (Wr [] wv.drew W) ∧ W.cell? ⟨w.heap.size, 0, none⟩ = some (.int .i64 a) ∧ W.cell? ⟨w.heap.size, 1, none⟩ = some (.int .i64 b) from ⟨Lib.hid h, (wr_cell h (p := ⟨w.heap.size, 0, none⟩) hl1 (by simp)).trans (by exact by simpa using e0), (wr_cell h (p := ⟨w.heap.size, 1, none⟩) hl1 (by simp)).trans (by exact by simpa using e1)⟩)
  have INIT := Lib.hid (CE.out _ (Wr.refl _ _))
  have KW := Lib.hid (fun (W2 W : World) (hb : Wr [] W W2) (h : Hid (Wr [] wv.drew W) ∧ W.cell? ⟨w.heap.size, 0, none⟩ = some (.int .i64 a) ∧ W.cell? ⟨w.heap.size, 1, none⟩ = some (.int .i64 b)) => CE.out W2 (h.1.out.trans hb))
  clear e0 e1 ef
  go_region_held3 (fun W => Hid (Wr [] wv.drew W) ∧ W.cell? ⟨w.heap.size, 0, none⟩ = some (.int .i64 a) ∧ W.cell? ⟨w.heap.size, 1, none⟩ = some (.int .i64 b)) (first | exact INIT.out | exact KW.out _ _ (by assumption) (by assumption) | exact KW.out _ _ (Wr.of_below (by assumption) (Nat.le_refl _)) (by assumption) | exact KW.out _ _ (Wr.of_below ((Below.refl _ _).alloc (Nat.le_refl _) _) (Nat.le_refl _)) (by assumption))
    ((first | (go_at_call_of 64 (Value.int .i64 a); refine (implFmt_any a _ (by omega) (by omega) (HT.out.below S1.out.1 (Nat.le_refl _))).mono ?_; rintro e w5 ⟨rfl, bb⟩; have S2 := Lib.hid (S1.out.go bb)) | (go_at_call_of 64 (Value.int .i64 b); refine (implFmt_any b _ (by omega) (by omega) (HT.out.below S2.out.1 (Nat.le_refl _))).mono ?_; rintro e w6 ⟨rfl, bb2⟩; have S3 := Lib.hid (S2.out.go bb2))))
  rename_i hHeld
  clear hHeld CE INIT KW S1 S2 bb bb2
  go_wp2
  go_ret
  exact words_at [fmtB a, fmtB b] (by simp [maxLen]) S3.out.1
set_option maxRecDepth 100000 in
set_option maxHeartbeats 8000000 in
theorem words_wrk (p : Pj) (a b c : Int) (v : Value) (w : World) (hv : (trPj p).rd w v) (ha : 0 ≤ a ∧ a ≤ 9223372036854775807) (hb : 0 ≤ b ∧ b ≤ 9223372036854775807) (hc : 0 ≤ c ∧ c ≤ 9223372036854775807) (ht : TB w) :
    Calls Tryz.prog 158 #[.agg #[.int .i64 a, .int .i64 b, .int .i64 c], v] w fun e w' => WordsAt w [fmtB a, fmtB b, fmtB c] e w' := by
  obtain ⟨A1, c1, A2, c2, A3, c3, A4, c4, rfl, _⟩ := rdProject_t hv
  have S0 := Lib.hid (((Sn.start w).box 148 [.int .i64 a, .int .i64 b, .int .i64 c]).box 37 [.int .i64 p.dl, .slice A1 p.acts.length c1, .slice A2 p.lks.length c2, .slice A3 p.ress.length c3, .slice A4 p.stk.length c4])
  have HT := Lib.hid ht
  clear hv ht
  go_enter Tryz.func158, Tryz.ntmps158
  go_wp2_with fail
  generalize World.alloc (World.alloc w _) _ = wv at S0 ⊢
  obtain ⟨e0, e1, e2, ef⟩ := (S0.out.bk 1 rfl).c3
  have hl1 := (S0.out.bk 1 rfl).lt
  have S1 := Lib.hid S0.out.drew1
  have CE := Lib.hid (fun (W : World) (h : Wr [] wv.drew W) => show Hid (Wr [] wv.drew W) ∧ W.cell? ⟨w.heap.size, 0, none⟩ = some (.int .i64 a) ∧ W.cell? ⟨w.heap.size, 1, none⟩ = some (.int .i64 b) ∧ W.cell? ⟨w.heap.size, 2, none⟩ = some (.int .i64 c) from ⟨Lib.hid h, (wr_cell h (p := ⟨w.heap.size, 0, none⟩) hl1 (by simp)).trans (by exact by simpa using e0), (wr_cell h (p := ⟨w.heap.size, 1, none⟩) hl1 (by simp)).trans (by exact by simpa using e1), (wr_cell h (p := ⟨w.heap.size, 2, none⟩) hl1 (by simp)).trans (by exact by simpa using e2)⟩)
  have INIT := Lib.hid (CE.out _ (Wr.refl _ _))
  have KW := Lib.hid (fun (W2 W : World) (hb : Wr [] W W2) (h : Hid (Wr [] wv.drew W) ∧ W.cell? ⟨w.heap.size, 0, none⟩ = some (.int .i64 a) ∧ W.cell? ⟨w.heap.size, 1, none⟩ = some (.int .i64 b) ∧ W.cell? ⟨w.heap.size, 2, none⟩ = some (.int .i64 c)) => CE.out W2 (h.1.out.trans hb))
  clear e0 e1 e2 ef
  go_region_held3 (fun W => Hid (Wr [] wv.drew W) ∧ W.cell? ⟨w.heap.size, 0, none⟩ = some (.int .i64 a) ∧ W.cell? ⟨w.heap.size, 1, none⟩ = some (.int .i64 b) ∧ W.cell? ⟨w.heap.size, 2, none⟩ = some (.int .i64 c)) (first | exact INIT.out | exact KW.out _ _ (by assumption) (by assumption) | exact KW.out _ _ (Wr.of_below (by assumption) (Nat.le_refl _)) (by assumption) | exact KW.out _ _ (Wr.of_below ((Below.refl _ _).alloc (Nat.le_refl _) _) (Nat.le_refl _)) (by assumption))
    ((first | (go_at_call_of 64 (Value.int .i64 a); refine (implFmt_any a _ (by omega) (by omega) (HT.out.below S1.out.1 (Nat.le_refl _))).mono ?_; rintro e w5 ⟨rfl, bb⟩; have S2 := Lib.hid (S1.out.go bb)) | (go_at_call_of 64 (Value.int .i64 b); refine (implFmt_any b _ (by omega) (by omega) (HT.out.below S2.out.1 (Nat.le_refl _))).mono ?_; rintro e w6 ⟨rfl, bb2⟩; have S3 := Lib.hid (S2.out.go bb2)) | (go_at_call_of 64 (Value.int .i64 c); refine (implFmt_any c _ (by omega) (by omega) (HT.out.below S3.out.1 (Nat.le_refl _))).mono ?_; rintro e w7 ⟨rfl, bb3⟩; have S4 := Lib.hid (S3.out.go bb3))))
  rename_i hHeld
  clear hHeld CE INIT KW S1 S2 S3 bb bb2 bb3
  go_wp2
  go_ret
  exact words_at [fmtB a, fmtB b, fmtB c] (by simp [maxLen]) S4.out.1
set_option maxRecDepth 100000 in
set_option maxHeartbeats 8000000 in
theorem words_par (p : Pj) (a : Int) (i j : Nat) (v : Value) (w : World) (hv : (trPj p).rd w v) (ha : 0 ≤ a ∧ a ≤ 9223372036854775807) (hi : i < p.acts.length) (hj : j < p.acts.length) (ht : TB w) :
    Calls Tryz.prog 161 #[.agg #[.int .i64 a, .int .i64 (i : Int), .int .i64 (j : Int)], v] w fun e w' => WordsAt w [fmtB a, nmA p i, nmA p j] e w' := by
  obtain ⟨A1, c1, A2, c2, A3, c3, A4, c4, rfl, r1, r2, r3, r4⟩ := rdProject_t hv
  obtain ⟨hl1, B1, d1, he, g1⟩ := rdActivityS_t r1
  injection he with he _ he2
  subst he he2
  obtain ⟨b1, o1, rfl, hb1, hc1⟩ := g1 i hi
  obtain ⟨M, cm, x0, x1, x2, rm⟩ := hc1 i hi
  obtain ⟨M', cm', y0, y1, y2, rm'⟩ := hc1 j hj
  rw [← nmA_at hi] at x0
  rw [← nmA_at hj] at y0
  have S0 := Lib.hid (((Sn.start w).box 150 [.int .i64 a, .int .i64 (i : Int), .int .i64 (j : Int)]).box 37 [.int .i64 p.dl, .slice (some ⟨b1, o1, none⟩) p.acts.length c1, .slice A2 p.lks.length c2, .slice A3 p.ress.length c3, .slice A4 p.stk.length c4])
  simp only [World.size_alloc] at S0
  have hi' : (i : Int) < (p.acts.length : Int) := by omega
  have i0 : (0 : Int) ≤ (i : Int) := by omega
  have hj' : (j : Int) < (p.acts.length : Int) := by omega
  have j0 : (0 : Int) ≤ (j : Int) := by omega
  have z0 := (S0.out.1.cell (p := ⟨b1, o1 + i * 3, none⟩) hb1).trans x0
  have z1 := (S0.out.1.cell (p := ⟨b1, o1 + j * 3, none⟩) hb1).trans y0
  generalize nmA p i = nm at z0 x0 ⊢
  generalize nmA p j = nk at z1 y0 ⊢
  have HT := Lib.hid ht
  clear hv ht hc1 r1 r2 r3 r4 g1 rm rm' x0 x1 x2 y0 y1 y2
  go_enter Tryz.func161, Tryz.ntmps161
  go_wp2_with fail
  generalize World.alloc (World.alloc w _) _ = wv at S0 z0 z1 ⊢
  obtain ⟨e0, e1, e2, ef⟩ := (S0.out.bk 1 rfl).c3
  obtain ⟨p0, p1, p2, p3, p4, pf⟩ := (S0.out.bk 0 rfl).c5
  have hl1 := (S0.out.bk 1 rfl).lt
  have hl0 := (S0.out.bk 0 rfl).lt
  have hsz := S0.out.1.size
  have hb1' : b1 < wv.heap.size := by omega
  have S1 := Lib.hid S0.out.drew1
  have CE := Lib.hid (fun (W : World) (h : Wr [] wv.drew W) => show Hid (Wr [] wv.drew W) ∧ W.cell? ⟨w.heap.size, 0, none⟩ = some (.int .i64 a) ∧ W.cell? ⟨w.heap.size, 1, none⟩ = some (.int .i64 (i : Int)) ∧ W.cell? ⟨w.heap.size, 2, none⟩ = some (.int .i64 (j : Int)) ∧ W.cell? ⟨w.heap.size + 1, 1, none⟩ = some (.slice (some ⟨b1, o1, none⟩) p.acts.length c1) ∧ W.cell? ⟨b1, o1 + i * 3, none⟩ = some (.string nm) ∧ W.cell? ⟨b1, o1 + j * 3, none⟩ = some (.string nk) from ⟨Lib.hid h, (wr_cell h (p := ⟨w.heap.size, 0, none⟩) hl1 (by simp)).trans (by exact by simpa using e0), (wr_cell h (p := ⟨w.heap.size, 1, none⟩) hl1 (by simp)).trans (by exact by simpa using e1), (wr_cell h (p := ⟨w.heap.size, 2, none⟩) hl1 (by simp)).trans (by exact by simpa using e2), (wr_cell h (p := ⟨w.heap.size + 1, 1, none⟩) hl0 (by simp)).trans (by exact by simpa using p1), (wr_cell h (p := ⟨b1, o1 + i * 3, none⟩) hb1' (by simp)).trans (by exact by simpa using z0), (wr_cell h (p := ⟨b1, o1 + j * 3, none⟩) hb1' (by simp)).trans (by exact by simpa using z1)⟩)
  have INIT := Lib.hid (CE.out _ (Wr.refl _ _))
  have KW := Lib.hid (fun (W2 W : World) (hb : Wr [] W W2) (h : Hid (Wr [] wv.drew W) ∧ W.cell? ⟨w.heap.size, 0, none⟩ = some (.int .i64 a) ∧ W.cell? ⟨w.heap.size, 1, none⟩ = some (.int .i64 (i : Int)) ∧ W.cell? ⟨w.heap.size, 2, none⟩ = some (.int .i64 (j : Int)) ∧ W.cell? ⟨w.heap.size + 1, 1, none⟩ = some (.slice (some ⟨b1, o1, none⟩) p.acts.length c1) ∧ W.cell? ⟨b1, o1 + i * 3, none⟩ = some (.string nm) ∧ W.cell? ⟨b1, o1 + j * 3, none⟩ = some (.string nk)) => CE.out W2 (h.1.out.trans hb))
  clear e0 e1 e2 ef p0 p1 p2 p3 p4 pf z0 z1
  go_region_held3 (fun W => Hid (Wr [] wv.drew W) ∧ W.cell? ⟨w.heap.size, 0, none⟩ = some (.int .i64 a) ∧ W.cell? ⟨w.heap.size, 1, none⟩ = some (.int .i64 (i : Int)) ∧ W.cell? ⟨w.heap.size, 2, none⟩ = some (.int .i64 (j : Int)) ∧ W.cell? ⟨w.heap.size + 1, 1, none⟩ = some (.slice (some ⟨b1, o1, none⟩) p.acts.length c1) ∧ W.cell? ⟨b1, o1 + i * 3, none⟩ = some (.string nm) ∧ W.cell? ⟨b1, o1 + j * 3, none⟩ = some (.string nk)) (first | exact INIT.out | exact KW.out _ _ (by assumption) (by assumption) | exact KW.out _ _ (Wr.of_below (by assumption) (Nat.le_refl _)) (by assumption) | exact KW.out _ _ (Wr.of_below ((Below.refl _ _).alloc (Nat.le_refl _) _) (Nat.le_refl _)) (by assumption))
    ((go_at_call_of 64 (Value.int .i64 a); refine (implFmt_any a _ (by omega) (by omega) (HT.out.below S1.out.1 (Nat.le_refl _))).mono ?_; rintro e w5 ⟨rfl, bb⟩; have S2 := Lib.hid (S1.out.go bb)))
  rename_i hHeld
  clear hHeld CE INIT KW S1 bb
  go_wp2
  go_ret
  exact words_at [fmtB a, nm, nk] (by simp [maxLen]) S2.out.1
def wrdF : Cd → Nat
  | .lnk _ => 148
  | .fin _ => 151
  | .tim _ _ => 154
  | .wrk _ _ _ => 158
  | .par _ _ _ => 161
  | .stk _ => 166
theorem wrdF_method (c : Cd) (n : Nat) (w : World) : (method (n + 1) c.ty (.agg ⟨c.cs⟩) "loop.example/g00806/impl.words").run Tryz.prog w = .ok (wrdF c, .agg ⟨c.cs⟩) w := by
  cases c <;> kernel_rfl
theorem wrdF_enter (c : Cd) (args : Array Value) (w : World) : (callFunc (wrdF c) args).run Tryz.prog w = .ok (.enter (wrdF c) args) w := by
  cases c with
  | lnk a => exact enters_of Tryz.func148 (by kernel_rfl) rfl args w
  | fin a => exact enters_of Tryz.func151 (by kernel_rfl) rfl args w
  | tim a b => exact enters_of Tryz.func154 (by kernel_rfl) rfl args w
  | wrk a b c => exact enters_of Tryz.func158 (by kernel_rfl) rfl args w
  | par a b c => exact enters_of Tryz.func161 (by kernel_rfl) rfl args w
  | stk a => exact enters_of Tryz.func166 (by kernel_rfl) rfl args w
theorem words_any (c : Cd) (p : Pj) (v : Value) (w : World) (hv : (trPj p).rd w v) (hp : pokB p = true) (ht : thereC p c = true) (hb : TB w) :
    Calls Tryz.prog (wrdF c) #[.agg ⟨c.cs⟩, v] w fun e w' => WordsAt w (wordsC p c) e w' := by
  have hd := rdProject_t hv
  obtain ⟨A1, c1, A2, c2, A3, c3, A4, c4, _, r1, r2, r3, r4⟩ := hd
  have l1 : p.acts.length ≤ maxLen := (rdActivityS_t r1).1
  have l2 : p.lks.length ≤ maxLen := (rdLinkS_t r2).1
  have l3 : p.ress.length ≤ maxLen := (rdResourceS_t r3).1
  have l4 : p.stk.length ≤ maxLen := by simpa using (rdI (rd_flat r4)).1
  unfold maxLen at l1 l2 l3 l4
  clear r1 r2 r3 r4
  cases c with
  | lnk a =>
    have := inB_iff.1 ht
    exact words_lnk p a v w hv (by omega) hb
  | fin a =>
    obtain ⟨k, rfl, hk2⟩ := in_nat ht
    exact words_fin p k v w hv hk2
  | tim a b =>
    simp only [thereC, Bool.and_eq_true] at ht
    have h1 := inB_iff.1 ht.1
    have h2 := inB_iff.1 ht.2
    exact words_tim p a b v w hv (by omega) (by omega) hb
  | wrk a b c =>
    simp only [thereC, Bool.and_eq_true, decide_eq_true_eq] at ht
    have h1 := inB_iff.1 ht.1
    have h2 := inB_iff.1 ht.2.1
    have h3 := inB_iff.1 ht.2.2.1
    exact words_wrk p a b c v w hv (by omega) (by omega) (by omega) hb
  | par a b c =>
    simp only [thereC, Bool.and_eq_true] at ht
    obtain ⟨k, rfl, hk2⟩ := machB_in ht.1
    obtain ⟨j, rfl, hj⟩ := in_nat ht.2.2
    have := inB_iff.1 ht.2.1
    obtain ⟨i, rfl⟩ : ∃ i : Nat, b = (i : Int) := ⟨b.toNat, by omega⟩
    exact words_par p k i j v w hv (by omega) (by omega) hj hb
  | stk a =>
    have := inB_iff.1 ht
    exact words_stk p a v w hv (by omega) hb
end Go.Proofs.YtaglfdkeomjpdabGreatDoor
end

section
namespace Go.Proofs.YtaglfdkeomjpdabGreatDoor
open Go.RowKit Go.Shelf
set_option linter.unusedVariables false

def idxS (l : List ByteArray) (x : ByteArray) : Int := ixB (fun y => decide (y = x)) l
set_option maxRecDepth 100000 in
set_option maxHeartbeats 8000000 in
theorem indexS_any (l : List ByteArray) (x : ByteArray) (v : Value) (w : World) (hr : Rd w v (l.map .string)) :
    Calls Tryz.prog 25 #[v, .string x] w fun e w' => e = .returned (.int .i64 (idxS l x)) ∧ w = w' := by
  obtain ⟨A, c, rfl, ga⟩ := rdS_at hr
  have hl : l.length ≤ maxLen := by simpa using hr.1
  unfold maxLen at hl
  have GA := Lib.hid ga
  clear ga hr
  generalize hres : idxS l x = res
  have RES := Lib.hid hres
  clear hres
  go_enter Tryz.func25, Tryz.ntmps25
  go_wp2
  go_loopw [8] (fun i wr => ∃ k : Nat, k ≤ l.length ∧ i = .int .i64 k ∧ w = wr ∧ ∀ j, (hj : j < l.length) → j < k → decide (l[j] = x) = false) (fun i _ => l.length - (intOf i).toNat)
  case atStart => exact ⟨0, Nat.zero_le _, rfl, rfl, fun j _ h => absurd h (by omega)⟩
  case round =>
    obtain ⟨k, hkl, rfl, rfl, hall⟩ := hrel
    by_cases hlt : k < l.length
    · have hlt' : (k : Int) < (l.length : Int) := by omega
      have k0 : (0 : Int) ≤ (k : Int) := by omega
      obtain ⟨b, o, rfl, hb, hc⟩ := GA.out k hlt
      have hx := hc k hlt
      clear hc
      by_cases hn : l[k] = x
      · have HN := Lib.hid (ixB_at (p := fun y => decide (y = x)) hlt hall (decide_eq_true hn))
        rw [hn] at hx
        clear hall hn
        go_wp2
        go_ret
        exact ⟨ret_numZ (by rw [← RES.out]; exact HN.out.symm), rfl⟩
      · have STEP := Lib.hid (step_all (p := fun y : ByteArray => decide (y = x) = false) hlt hall (decide_eq_false hn))
        have hne := str_ne (fun e => hn e.symm)
        clear hall hn
        generalize l[k] = y at hx hne
        go_wp2
        go_roundw
        case rel => exact ⟨k + 1, by omega, by go_num, by trivial, STEP.out⟩
        case measure => simp [intOf]; omega
    · have hge : ¬ (k : Int) < (l.length : Int) := by omega
      have HY := Lib.hid (ixB_none (p := fun y => decide (y = x)) (fun j hj => hall j hj (by omega)))
      clear hall
      go_wp2
      go_ret
      exact ⟨ret_numZ (by rw [← RES.out]; exact HY.out.symm), rfl⟩

/-- What ruleNumber answers. -/
def numR (p : Pj) (s : ByteArray) : Int := if (parseB s).2 = true then (parseB s).1 else plcB p.acts s
theorem numR_yes {p : Pj} {s : ByteArray} (h : (parseB s).2 = true) : numR p s = (parseB s).1 := by rw [numR, if_pos h]
theorem numR_no {p : Pj} {s : ByteArray} (h : (parseB s).2 = false) : numR p s = plcB p.acts s := by rw [numR, h]; simp
set_option maxRecDepth 100000 in
set_option maxHeartbeats 8000000 in
theorem ruleNumber_any (p : Pj) (s : ByteArray) (v : Value) (w : World) (hv : (trPj p).rd w v) (hk : (trPj p).ok) (ht : TB w) (hs : s.size ≤ 1073741824) :
    Calls Tryz.prog 24 #[v, .string s] w fun e w' => e = .returned (.int .i64 (numR p s)) ∧ Below w.heap.size w w' := by
  have HV := Lib.hid hv
  have HK := Lib.hid hk
  obtain ⟨A1, c1, A2, c2, A3, c3, A4, c4, rfl, _⟩ := rdProject_t hv
  have S0 := Lib.hid ((Sn.start w).box 37 [.int .i64 p.dl, .slice A1 p.acts.length c1, .slice A2 p.lks.length c2, .slice A3 p.ress.length c3, .slice A4 p.stk.length c4])
  have TB0 := Lib.hid (ht.below S0.out.1 (Nat.le_refl _))
  clear hv hk ht
  have HY := Lib.hid (fun h => @numR_yes p s h)
  have HN := Lib.hid (fun h => @numR_no p s h)
  generalize numR p s = res at HY HN ⊢
  go_enter Tryz.func24, Tryz.ntmps24
  go_wp2_with fail
  refine (implParse_any s _ (by unfold maxLen; omega) TB0.out).mono ?_
  rintro e w1 ⟨he, b⟩
  obtain rfl : e = _ := he
  have S1 := Lib.hid (S0.out.go b)
  clear S0 b TB0
  generalize (parseB s).2 = x at HY HN ⊢
  rcases x with _ | _
  · have H := Lib.hid (HN.out rfl)
    clear HY HN
    obtain ⟨e0, e1, e2, e3, e4, ef⟩ := (S1.out.bk 0 rfl).c5
    go_wp2_with fail
    clear e0 e1 e2 e3 e4 ef
    refine (implActivityIndex_any p s _ _ (by exact S1.out.old HV.out) HK.out).mono ?_
    rintro e w2 ⟨rfl, b⟩
    have S2 := Lib.hid (S1.out.go b)
    clear S1 b
    go_wp2
    go_ret
    exact ⟨ret_numZ H.out.symm, S2.out.1⟩
  · have H := Lib.hid (HY.out rfl)
    clear HY HN
    go_wp2
    go_ret
    exact ⟨ret_numZ H.out.symm, S1.out.1⟩
theorem newV_any (w : World) (T : TypeId) (l : List Value) (hl : l.length ≤ maxLen) : Rd (w.alloc (.cells ⟨l⟩ T)) (.slice (some ⟨w.heap.size, 0, none⟩) l.length l.length) l :=
  ⟨hl, _, _, rfl, .inr ⟨w.heap.size, 0, rfl, by simp, fun j hj => by
    rw [World.cell?_alloc_at _ _ _ _ rfl]
    simp [hj]⟩⟩
theorem two_all {W : World} {x y : Value} {xs ys : List ByteArray} (hx : Rd W x (strV xs) ∧ NilOk x) (hy : Rd W y (strV ys) ∧ NilOk y) :
    ∀ i, (h : i < [x, y].length) → Rd W ([x, y][i]) (strV ([xs, ys][i]'h)) ∧ NilOk ([x, y][i]) := fun i h => by
  match i, h with
  | 0, _ => exact hx
  | 1, _ => exact hy
theorem catS_two (x y : List ByteArray) : catS [x, y] = x ++ y := by simp [catS]
set_option maxRecDepth 100000 in
set_option maxHeartbeats 8000000 in
theorem implFormatRule_any (p : Pj) (r : Ru) (v : Value) (w : World) (hv : (trPj p).rd w v) (hk : (trPj p).ok) (ht : TB w) :
    Calls Tryz.prog 27 #[v, ruV r] w fun e w' => e = .returned (.string (fmtRuB p r)) ∧ Below w.heap.size w w' := by
  have HK := Lib.hid hk
  have HV := Lib.hid hv
  have HT := Lib.hid ht
  obtain ⟨ki, a, b, c⟩ := r
  obtain ⟨A1, c1, A2, c2, A3, c3, A4, c4, rfl, _⟩ := rdProject_t hv
  have S0 := Lib.hid (((Sn.start w).box 37 [.int .i64 p.dl, .slice A1 p.acts.length c1, .slice A2 p.lks.length c2, .slice A3 p.ress.length c3, .slice A4 p.stk.length c4]).box 30 [.int .i64 ki, .int .i64 a, .int .i64 b, .int .i64 c])
  simp only [World.size_alloc] at S0
  clear hv hk ht
  unfold ruV
  have HC := Lib.hid (fun q => @ruOk_none p ⟨ki, a, b, c⟩ q)
  have HNO := Lib.hid (fun h => @fmtRu_no p ⟨ki, a, b, c⟩ h)
  have HYES := Lib.hid (fun q h h2 => @fmtRu_yes p ⟨ki, a, b, c⟩ q h h2)
  have HPP := Lib.hid (fun h => @ruOk_pok p ⟨ki, a, b, c⟩ h)
  have HTT := Lib.hid (fun q h h2 => @ruOk_some p ⟨ki, a, b, c⟩ q h h2)
  generalize fmtRuB p ⟨ki, a, b, c⟩ = res at HNO HYES ⊢
  go_enter Tryz.func27, Tryz.ntmps27
  go_wp2_with fail
  refine (known_any p ⟨ki, a, b, c⟩ _ _ (by exact S0.out.old HV.out) HK.out).mono ?_
  rintro e w1 ⟨he, b1⟩
  have S1 := Lib.hid (S0.out.go b1)
  have HE := Lib.hid he
  clear S0 b1 he
  generalize hx : ruOkB p ⟨ki, a, b, c⟩ = x at HE HC HNO HYES HPP HTT
  clear hx
  generalize condOf ⟨ki, a, b, c⟩ = co at HE HC HYES HTT
  rcases x with _ | _
  · obtain rfl : e = Ending.returned (.tuple #[.nilIface, .bool false]) := HE.out
    have H := Lib.hid (HNO.out rfl)
    clear HNO HYES HPP HTT HC
    go_wp2
    go_ret
    exact ⟨ret_strZ H.out.symm, S1.out.1⟩
  rcases co with _ | q
  · cases HC.out rfl
  obtain rfl : e = Ending.returned (.tuple #[q.val, .bool true]) := HE.out
  have H := Lib.hid (HYES.out q rfl rfl)
  have HP := Lib.hid (show pokB p = true from by
    rcases hp : pokB p with _ | _
    · cases HPP.out hp
    · rfl)
  have HTH := Lib.hid (show thereC p q = true from (HTT.out q rfl HP.out).symm)
  have HSUM := Lib.hid (words_sum HP.out ki q)
  clear HNO HYES HPP HTT HC HE
  simp only [Cd.val]
  have hm := wrdF_method q
  have hn := wrdF_enter q
  go_wp2_with fail
  obtain ⟨p0, p1, p2, p3, p4, pf⟩ := (S1.out.bk 1 rfl).c5
  obtain ⟨e0, e1, e2, e3, ef⟩ := (S1.out.bk 0 rfl).c4
  have hl0 := (S1.out.bk 0 rfl).lt
  have hl1 := (S1.out.bk 1 rfl).lt
  have S2 := Lib.hid S1.out.drew1
  have CE := Lib.hid (fun (W : World) (h : Wr [] w1.drew W) => show Hid (Wr [] w1.drew W) ∧ W.cell? ⟨w.heap.size, 0, none⟩ = some (.int .i64 p.dl) ∧ W.cell? ⟨w.heap.size, 1, none⟩ = some (.slice A1 p.acts.length c1) ∧ W.cell? ⟨w.heap.size, 2, none⟩ = some (.slice A2 p.lks.length c2) ∧ W.cell? ⟨w.heap.size, 3, none⟩ = some (.slice A3 p.ress.length c3) ∧ W.cell? ⟨w.heap.size, 4, none⟩ = some (.slice A4 p.stk.length c4) ∧ W.cell? ⟨w.heap.size + 1, 0, none⟩ = some (.int .i64 ki) from ⟨Lib.hid h, (wr_cell h (p := ⟨w.heap.size, 0, none⟩) hl1 (by simp)).trans (by exact by simpa using p0), (wr_cell h (p := ⟨w.heap.size, 1, none⟩) hl1 (by simp)).trans (by exact by simpa using p1), (wr_cell h (p := ⟨w.heap.size, 2, none⟩) hl1 (by simp)).trans (by exact by simpa using p2), (wr_cell h (p := ⟨w.heap.size, 3, none⟩) hl1 (by simp)).trans (by exact by simpa using p3), (wr_cell h (p := ⟨w.heap.size, 4, none⟩) hl1 (by simp)).trans (by exact by simpa using p4), (wr_cell h (p := ⟨w.heap.size + 1, 0, none⟩) hl0 (by simp)).trans (by exact by simpa using e0)⟩)
  have INIT := Lib.hid (CE.out _ (Wr.refl _ _))
  have KW := Lib.hid (fun (W2 W : World) (hb : Wr [] W W2) (h : Hid (Wr [] w1.drew W) ∧ W.cell? ⟨w.heap.size, 0, none⟩ = some (.int .i64 p.dl) ∧ W.cell? ⟨w.heap.size, 1, none⟩ = some (.slice A1 p.acts.length c1) ∧ W.cell? ⟨w.heap.size, 2, none⟩ = some (.slice A2 p.lks.length c2) ∧ W.cell? ⟨w.heap.size, 3, none⟩ = some (.slice A3 p.ress.length c3) ∧ W.cell? ⟨w.heap.size, 4, none⟩ = some (.slice A4 p.stk.length c4) ∧ W.cell? ⟨w.heap.size + 1, 0, none⟩ = some (.int .i64 ki)) => CE.out W2 (h.1.out.trans hb))
  clear p0 p1 p2 p3 p4 pf e0 e1 e2 e3 ef
  refine wp_region_held_drew (S := fun W => Hid (Wr [] w1.drew W) ∧ W.cell? ⟨w.heap.size, 0, none⟩ = some (.int .i64 p.dl) ∧ W.cell? ⟨w.heap.size, 1, none⟩ = some (.slice A1 p.acts.length c1) ∧ W.cell? ⟨w.heap.size, 2, none⟩ = some (.slice A2 p.lks.length c2) ∧ W.cell? ⟨w.heap.size, 3, none⟩ = some (.slice A3 p.ress.length c3) ∧ W.cell? ⟨w.heap.size, 4, none⟩ = some (.slice A4 p.stk.length c4) ∧ W.cell? ⟨w.heap.size + 1, 0, none⟩ = some (.int .i64 ki)) (by kernel_rfl) INIT.out (fun hHeld => ?_)
  refine wpAnyH_take (i := 0) (v := ?_) rfl (by kernel_rfl) (by kernel_rfl) (by kernel_rfl) (fun _ _ _ h => h) (Or.inl ⟨by rfl, ?_⟩) (by assumption) ?_
  rotate_left
  · (intro W hSw; (try dsimp only at hSw); go_simp <;> with_reducible rfl)
  (try simp only [Act.put])
  refine wpAnyH_take (i := 1) (v := ?_) rfl (by kernel_rfl) (by kernel_rfl) (by kernel_rfl) (fun _ _ _ h => h) (Or.inl ⟨by rfl, ?_⟩) (by assumption) ?_
  rotate_left
  · (intro W hSw; (try dsimp only at hSw); go_simp <;> with_reducible rfl)
  (try simp only [Act.put])
  refine wpAnyH_take (i := 4) (v := ?_) rfl (by kernel_rfl) (by kernel_rfl) (by kernel_rfl) (fun _ _ _ h => h) (Or.inl ⟨by rfl, ?_⟩) (by assumption) ?_
  rotate_left
  · (intro W hSw; (try dsimp only at hSw); go_simp <;> with_reducible rfl)
  (try simp only [Act.put])
  refine wpAnyH_take (i := 5) (v := ?_) rfl (by kernel_rfl) (by kernel_rfl) (by kernel_rfl) (fun _ _ _ h => h) (Or.inl ⟨by rfl, ?_⟩) (by assumption) ?_
  rotate_left
  · (intro W hSw; (try dsimp only at hSw); go_simp <;> with_reducible rfl)
  (try simp only [Act.put])
  refine wpAnyH_ready (rs := [2]) (by kernel_rfl) (by simp) ?_
  refine AllReadyH.cons rfl (fun K hK => ?_) AllReadyH.nil
  go_simp
  go_at_call 48
  refine (implRuleName_any ki _).mono ?_
  rintro e w3 ⟨rfl, bb⟩
  have S3 := Lib.hid (S2.out.go bb)
  (first | done | go_wp2_with fail)
  refine hK.out _ _ (KW.out _ _ (Wr.of_below bb (Nat.le_refl _)) (by assumption)) (fun hHeld2 => ?_)
  clear hK K bb S2
  refine wpAnyH_ready (rs := [3, 6]) (by kernel_rfl) (by simp) ?_
  refine AllReadyH.cons rfl (fun K hK => ?_) (AllReadyH.cons rfl (fun K hK => ?_) AllReadyH.nil)
  · go_simp
    refine hK.out _ _ (KW.out _ _ (Wr.of_below ((Below.refl _ _).alloc (Nat.le_refl _) _) (Nat.le_refl _)) (by assumption)) (fun hHeld3 => ?_)
    clear hK K
    have S4 := Lib.hid (S3.out.go ((Below.refl _ w3).alloc (Nat.le_refl _) (.cells #[.string (ruNm ki)] 9)))
    have R4 := Lib.hid (newRow_any w3 9 [ruNm ki] (by simp [maxLen]))
    refine wpAnyH_ready (rs := [6]) (by kernel_rfl) (by simp) ?_
    refine AllReadyH.cons rfl (fun K hK => ?_) AllReadyH.nil
    go_simp
    refine (words_any q p _ _ (by exact S4.out.old HV.out) HP.out HTH.out (HT.out.below S4.out.1 (Nat.le_refl _))).mono ?_
    rintro e w6 ⟨u, rfl, hu, hnu, bb⟩
    obtain ⟨U, uc, hue⟩ : ∃ U uc, u = .slice U (wordsC p q).length uc := by
      obtain ⟨_, U, uc, e, _⟩ := hu
      rw [List.length_map] at e
      exact ⟨U, uc, e⟩
    subst hue
    have S5 := Lib.hid (S4.out.go bb)
    have R5 := Lib.hid (R4.out.below bb (Nat.le_refl _))
    have HU := Lib.hid hu
    have HNU := Lib.hid hnu
    refine hK.out _ _ (KW.out _ _ (Wr.of_below bb (Nat.le_refl _)) (by assumption)) (fun hHeld6 => ?_)
    clear hK K bb S4 R4 hu hnu hHeld3
    refine wpAnyH_ready (rs := [7]) (by kernel_rfl) (by simp) ?_
    refine AllReadyH.cons rfl (fun K hK => ?_) AllReadyH.nil
    go_simp
    have BA := (Below.refl _ w6).alloc (Nat.le_refl _) (.cells #[.slice (some ⟨w3.heap.size, 0, none⟩) 1 1, .slice U (wordsC p q).length uc] 46)
    refine hK.out _ _ (KW.out _ _ (Wr.of_below BA (Nat.le_refl _)) (by assumption)) (fun hHeld7 => ?_)
    clear hK K
    have S6 := Lib.hid (S5.out.go BA)
    have R6 := Lib.hid (R5.out.below BA (Nat.le_refl _))
    have U6 := Lib.hid (HU.out.below BA (Nat.le_refl _))
    have RO := Lib.hid (newV_any w6 46 [.slice (some ⟨w3.heap.size, 0, none⟩) 1 1, .slice U (wordsC p q).length uc] (by simp [maxLen]))
    clear BA S5 R5 HU
    refine wpAnyH_ready (rs := [8]) (by kernel_rfl) (by simp) ?_
    refine AllReadyH.cons rfl (fun K hK => ?_) AllReadyH.nil
    go_simp
    refine (concatS_any [.slice (some ⟨w3.heap.size, 0, none⟩) 1 1, .slice U (wordsC p q).length uc] [[ruNm ki], wordsC p q] _ _ (by first | exact RO.out | simpa using RO.out) rfl (by simp) (two_all (by exact ⟨R6.out, nilOk_some _ _ _⟩) (by exact ⟨U6.out, HNU.out⟩)) (by rw [catS_two, List.length_append]; have := HSUM.out.2; simp only [List.length_cons, List.length_nil]; omega)).mono ?_
    rintro e w8 ⟨v8, rfl, ho, bb⟩
    have S7 := Lib.hid (S6.out.go bb)
    have R7 := Lib.hid (own_rd ho (by rw [strV_len, catS_two, List.length_append]; have := HSUM.out.2; simp only [List.length_cons, List.length_nil, maxLen]; omega))
    refine hK.out _ _ (KW.out _ _ (Wr.of_below bb (Nat.le_refl _)) (by assumption)) (fun hHeld8 => ?_)
    clear hK K bb ho S6 R6 U6 RO
    refine wpAnyH_ready (rs := [9]) (by kernel_rfl) (by simp) ?_
    refine AllReadyH.cons rfl (fun K hK => ?_) AllReadyH.nil
    go_simp
    refine (joinAll_any (ruNm ki :: wordsC p q) ⟨#[32]⟩ _ _ (by have := R7.out; rw [catS_two] at this; exact this) (by have := HSUM.out.1; omega) (by have := HSUM.out.2; simp only [List.length_cons]; omega) (by decide)).mono ?_
    rintro e w9 ⟨rfl, bb⟩
    have S8 := Lib.hid (S7.out.go bb)
    refine hK.out _ _ (KW.out _ _ (Wr.of_below bb (Nat.le_refl _)) (by assumption)) (fun hHeld9 => ?_)
    clear hK K bb S7 R7
    refine wpAnyH_take (i := 10) (v := ?_) rfl (by kernel_rfl) (by kernel_rfl) (by kernel_rfl) (fun _ _ _ h => h) (Or.inl ⟨by rfl, ?_⟩) (by assumption) ?_
    rotate_left
    · (intro W hSw; (try dsimp only at hSw); go_simp <;> with_reducible rfl)
    (try simp only [Act.put, List.getElem_toArray, List.getElem_cons_succ, List.getElem_cons_zero, List.setIfInBounds_toArray, List.set_cons_succ, List.set_cons_zero])
    refine wpAnyH_done (by kernel_rfl) ?_ _
    clear hHeld9 hHeld8 hHeld7 hHeld2 hHeld CE INIT KW
    go_wp2
    go_ret
    exact ⟨ret_strZ H.out.symm, S8.out.1⟩
  · go_simp
    refine (words_any q p _ _ (by exact S3.out.old HV.out) HP.out HTH.out (HT.out.below S3.out.1 (Nat.le_refl _))).mono ?_
    rintro e w6 ⟨u, rfl, hu, hnu, bb⟩
    obtain ⟨U, uc, hue⟩ : ∃ U uc, u = .slice U (wordsC p q).length uc := by
      obtain ⟨_, U, uc, e, _⟩ := hu
      rw [List.length_map] at e
      exact ⟨U, uc, e⟩
    subst hue
    have S4 := Lib.hid (S3.out.go bb)
    have HU4 := Lib.hid hu
    have HNU := Lib.hid hnu
    refine hK.out _ _ (KW.out _ _ (Wr.of_below bb (Nat.le_refl _)) (by assumption)) (fun hHeld6 => ?_)
    clear hK K bb hu hnu
    refine wpAnyH_ready (rs := [3]) (by kernel_rfl) (by simp) ?_
    refine AllReadyH.cons rfl (fun K hK => ?_) AllReadyH.nil
    go_simp
    refine hK.out _ _ (KW.out _ _ (Wr.of_below ((Below.refl _ _).alloc (Nat.le_refl _) _) (Nat.le_refl _)) (by assumption)) (fun hHeld3 => ?_)
    clear hK K
    have S5 := Lib.hid (S4.out.go ((Below.refl _ w6).alloc (Nat.le_refl _) (.cells #[.string (ruNm ki)] 9)))
    have R5 := Lib.hid (newRow_any w6 9 [ruNm ki] (by simp [maxLen]))
    have HU := Lib.hid (HU4.out.below ((Below.refl _ w6).alloc (Nat.le_refl _) (.cells #[.string (ruNm ki)] 9)) (Nat.le_refl _))
    clear S4 HU4 hHeld6
    refine wpAnyH_ready (rs := [7]) (by kernel_rfl) (by simp) ?_
    refine AllReadyH.cons rfl (fun K hK => ?_) AllReadyH.nil
    go_simp
    have BA := (Below.refl _ (w6.alloc (.cells #[.string (ruNm ki)] 9))).alloc (Nat.le_refl _) (.cells #[.slice (some ⟨w6.heap.size, 0, none⟩) 1 1, .slice U (wordsC p q).length uc] 46)
    refine hK.out _ _ (KW.out _ _ (Wr.of_below BA (Nat.le_refl _)) (by assumption)) (fun hHeld7 => ?_)
    clear hK K
    have S6 := Lib.hid (S5.out.go BA)
    have R6 := Lib.hid (R5.out.below BA (Nat.le_refl _))
    have U6 := Lib.hid (HU.out.below BA (Nat.le_refl _))
    have RO := Lib.hid (newV_any (w6.alloc (.cells #[.string (ruNm ki)] 9)) 46 [.slice (some ⟨w6.heap.size, 0, none⟩) 1 1, .slice U (wordsC p q).length uc] (by simp [maxLen]))
    clear BA S5 R5 HU
    refine wpAnyH_ready (rs := [8]) (by kernel_rfl) (by simp) ?_
    refine AllReadyH.cons rfl (fun K hK => ?_) AllReadyH.nil
    go_simp
    refine (concatS_any [.slice (some ⟨w6.heap.size, 0, none⟩) 1 1, .slice U (wordsC p q).length uc] [[ruNm ki], wordsC p q] _ _ (by first | exact RO.out | simpa using RO.out) rfl (by simp) (two_all (by exact ⟨R6.out, nilOk_some _ _ _⟩) (by exact ⟨U6.out, HNU.out⟩)) (by rw [catS_two, List.length_append]; have := HSUM.out.2; simp only [List.length_cons, List.length_nil]; omega)).mono ?_
    rintro e w8 ⟨v8, rfl, ho, bb⟩
    have S7 := Lib.hid (S6.out.go bb)
    have R7 := Lib.hid (own_rd ho (by rw [strV_len, catS_two, List.length_append]; have := HSUM.out.2; simp only [List.length_cons, List.length_nil, maxLen]; omega))
    refine hK.out _ _ (KW.out _ _ (Wr.of_below bb (Nat.le_refl _)) (by assumption)) (fun hHeld8 => ?_)
    clear hK K bb ho S6 R6 U6 RO
    refine wpAnyH_ready (rs := [9]) (by kernel_rfl) (by simp) ?_
    refine AllReadyH.cons rfl (fun K hK => ?_) AllReadyH.nil
    go_simp
    refine (joinAll_any (ruNm ki :: wordsC p q) ⟨#[32]⟩ _ _ (by have := R7.out; rw [catS_two] at this; exact this) (by have := HSUM.out.1; omega) (by have := HSUM.out.2; simp only [List.length_cons]; omega) (by decide)).mono ?_
    rintro e w9 ⟨rfl, bb⟩
    have S8 := Lib.hid (S7.out.go bb)
    refine hK.out _ _ (KW.out _ _ (Wr.of_below bb (Nat.le_refl _)) (by assumption)) (fun hHeld9 => ?_)
    clear hK K bb S7 R7
    refine wpAnyH_take (i := 10) (v := ?_) rfl (by kernel_rfl) (by kernel_rfl) (by kernel_rfl) (fun _ _ _ h => h) (Or.inl ⟨by rfl, ?_⟩) (by assumption) ?_
    rotate_left
    · (intro W hSw; (try dsimp only at hSw); go_simp <;> with_reducible rfl)
    (try simp only [Act.put, List.getElem_toArray, List.getElem_cons_succ, List.getElem_cons_zero, List.setIfInBounds_toArray, List.set_cons_succ, List.set_cons_zero])
    refine wpAnyH_done (by kernel_rfl) ?_ _
    clear hHeld9 hHeld8 hHeld7 hHeld2 hHeld CE INIT KW
    go_wp2
    go_ret
    exact ⟨ret_strZ H.out.symm, S8.out.1⟩
end Go.Proofs.YtaglfdkeomjpdabGreatDoor
end

section
namespace Go.Proofs.YtaglfdkeomjpdabGreatDoor
open Go.RowKit
set_option linter.unusedVariables false

theorem nm_noPar {s : ByteArray} (h : nmB s = true) : parseB s = (0, false) := by
  simp only [nmB, Bool.and_eq_true, decide_eq_true_eq] at h
  have h0 : 0 < s.size := by omega
  have h2 := h.2.2 0 h0
  have hb := byt_at h0
  refine par_bad h0 ?_
  unfold dOk negS
  rw [hb]
  have hc : 97 ≤ s[0].toNat := by
    refine Classical.byContradiction fun hn => ?_
    rw [nmAt_zero (c := (s[0].toNat : Int)) (by omega)] at h2
    cases h2
  simp only [decide_eq_true_eq]
  omega
theorem nmA_good {p : Pj} (hp : pokB p = true) {i : Nat} (h : i < p.acts.length) : nmB (nmA p i) = true ∧ plcB p.acts (nmA p i) = (i : Int) := by
  rw [nmA_at h]
  have h2 := (pok_acts hp).2 _ (List.getElem_mem h)
  simp only [aokB, Bool.and_eq_true] at h2
  simp only [pokB, Bool.and_eq_true] at hp
  have h3 := hp.2.2.2.2.2.2.1
  simp only [ownB, decide_eq_true_eq] at h3
  exact ⟨h2.2.1, h3 i h⟩
def noSp (x : ByteArray) : Prop := ∀ k, byt x k ≠ (32 : UInt8).toNat
theorem noSp_num {n : Int} (h1 : -100000 ≤ n) (h2 : n ≤ 100000) : noSp (fmtB n) := allB_ne (fmt_num h1 h2) (by unfold numC; decide) (by decide)
theorem noSp_nm {s : ByteArray} (h : nmB s = true) : noSp s := allB_ne (nm_all h) (by unfold nameC; decide) (by decide)
theorem ruNm_noSp {k : Int} (h1 : 1 ≤ k) (h6 : k ≤ 6) : noSp (ruNm k) := by
  rw [ruNm, if_pos (by omega)]
  exact noSp_nm ((by decide : ∀ n : Fin 7, nmB (ruNames.getD n.val ⟨#[]⟩) = true) ⟨k.toNat, by omega⟩)
theorem kind_range (c : Cd) : 1 ≤ c.ru.ki ∧ c.ru.ki ≤ 6 := by cases c <;> simp [Cd.ru]
noncomputable def fmtC (p : Pj) (c : Cd) : ByteArray := joinB (ruNm c.ru.ki :: wordsC p c) spS
/-- What a condition that exists names lies in these bounds. -/
def rngC (p : Pj) : Cd → Prop
  | .lnk a => 0 ≤ a ∧ a ≤ 100
  | .fin a => ∃ k : Nat, a = (k : Int) ∧ k < p.acts.length
  | .tim a b => (0 ≤ a ∧ a ≤ 100) ∧ (0 ≤ b ∧ b ≤ 100)
  | .wrk a b c => (0 ≤ a ∧ a ≤ 100) ∧ ((0 ≤ b ∧ b ≤ 100) ∧ (0 ≤ c ∧ c ≤ 100))
  | .par a b c => (0 ≤ a ∧ a ≤ 100) ∧ ((∃ k : Nat, b = (k : Int) ∧ k < p.acts.length) ∧ ∃ k : Nat, c = (k : Int) ∧ k < p.acts.length)
  | .stk a => 0 ≤ a ∧ a ≤ 100
theorem rng_of {p : Pj} {c : Cd} (hp : pokB p = true) (ht : thereC p c = true) : rngC p c := by
  have hl := pok_lens hp
  cases c with
  | lnk a => have := inB_iff.1 ht; exact ⟨by omega, by omega⟩
  | fin a => exact in_nat ht
  | tim a b =>
    simp only [thereC, Bool.and_eq_true] at ht
    have h1 := inB_iff.1 ht.1
    have h2 := inB_iff.1 ht.2
    exact ⟨⟨by omega, by omega⟩, ⟨by omega, by omega⟩⟩
  | wrk a b c =>
    simp only [thereC, Bool.and_eq_true, decide_eq_true_eq] at ht
    have h1 := inB_iff.1 ht.1
    have h2 := inB_iff.1 ht.2.1
    have h3 := inB_iff.1 ht.2.2.1
    exact ⟨⟨by omega, by omega⟩, ⟨by omega, by omega⟩, ⟨by omega, by omega⟩⟩
  | par a b c =>
    simp only [thereC, Bool.and_eq_true] at ht
    obtain ⟨k, rfl, hk2⟩ := machB_in ht.1
    obtain ⟨j, rfl, hj⟩ := in_nat ht.2.2
    have := inB_iff.1 ht.2.1
    obtain ⟨i, rfl⟩ : ∃ i : Nat, b = (i : Int) := ⟨b.toNat, by omega⟩
    exact ⟨⟨by omega, by omega⟩, ⟨i, rfl, by omega⟩, ⟨j, rfl, hj⟩⟩
  | stk a => have := inB_iff.1 ht; exact ⟨by omega, by omega⟩
theorem nmI_good {p : Pj} (hp : pokB p = true) {a : Int} (h : ∃ k : Nat, a = (k : Int) ∧ k < p.acts.length) : nmB (nmI p a) = true ∧ plcB p.acts (nmI p a) = a := by
  obtain ⟨k, rfl, hk⟩ := h
  exact nmA_good hp hk
theorem words_noSp {p : Pj} {c : Cd} (hp : pokB p = true) (hr : rngC p c) : ∀ x ∈ wordsC p c, noSp x := by
  have num : ∀ {a : Int}, 0 ≤ a ∧ a ≤ 100 → noSp (fmtB a) := fun h => noSp_num (by omega) (by omega)
  have nam : ∀ {a : Int}, (∃ k : Nat, a = (k : Int) ∧ k < p.acts.length) → noSp (nmI p a) := fun h => noSp_nm (nmI_good hp h).1
  cases c with
  | lnk a => simp only [wordsC, List.mem_cons, List.not_mem_nil, or_false]; rintro x rfl; exact num hr
  | fin a => simp only [wordsC, List.mem_cons, List.not_mem_nil, or_false]; rintro x rfl; exact nam hr
  | tim a b => simp only [wordsC, List.mem_cons, List.not_mem_nil, or_false]; rintro x (rfl | rfl); exact num hr.1; exact num hr.2
  | wrk a b c => simp only [wordsC, List.mem_cons, List.not_mem_nil, or_false]; rintro x (rfl | rfl | rfl); exact num hr.1; exact num hr.2.1; exact num hr.2.2
  | par a b c => simp only [wordsC, List.mem_cons, List.not_mem_nil, or_false]; rintro x (rfl | rfl | rfl); exact num hr.1; exact nam hr.2.1; exact nam hr.2.2
  | stk a => simp only [wordsC, List.mem_cons, List.not_mem_nil, or_false]; rintro x rfl; exact num hr
theorem fmtC_split {p : Pj} {c : Cd} (hp : pokB p = true) (hr : rngC p c) : splitB (fmtC p c) spS = ruNm c.ru.ki :: wordsC p c := by
  have hk := kind_range c
  refine split_join_c (c := 32) (by decide) _ (fun x hx => ?_) (by simp)
  rcases List.mem_cons.1 hx with rfl | hx
  · exact ruNm_noSp hk.1 hk.2
  · exact words_noSp hp hr x hx
theorem fmtC_fmt {p : Pj} {c : Cd} (hp : pokB p = true) (ht : thereC p c = true) : fmtRuB p c.ru = fmtC p c := fmtRu_yes (by rw [ruOk_ru hp]; exact ht) (cond_ru c)
theorem fmtC_ne {p : Pj} {c : Cd} (hp : pokB p = true) (hr : rngC p c) : fmtC p c ≠ ⟨#[]⟩ := fun e => by
  have h := fmtC_split hp hr
  rw [e, split_empty] at h
  injection h with _ h
  cases c <;> cases h
theorem fmt_cases {p : Pj} {r : Ru} (h : fmtRuB p r ≠ ⟨#[]⟩) : ∃ c, pokB p = true ∧ thereC p c = true ∧ r = c.ru ∧ fmtRuB p r = fmtC p c := by
  rcases hx : ruOkB p r with _ | _
  · exact absurd (fmtRu_no hx) h
  · rcases hc : condOf r with _ | c
    · rw [ruOk_none hc] at hx; cases hx
    · have hp : pokB p = true := by
        rcases hp : pokB p with _ | _
        · rw [ruOk_pok hp] at hx; cases hx
        · rfl
      have ht : thereC p c = true := by rw [← ruOk_some hc hp]; exact hx
      obtain rfl := cond_some hc
      exact ⟨c, hp, ht, rfl, fmtC_fmt hp ht⟩

def wd (s : ByteArray) (i : Nat) : ByteArray := (splitB s spS).getD i ⟨#[]⟩
def numW (p : Pj) (s : ByteArray) (i : Nat) : Int := if i < (splitB s spS).length then numR p (wd s i) else 0
def gP (p : Pj) (s : ByteArray) : Ru := ⟨idxS ruNames (wd s 0), numW p s 1, numW p s 2, numW p s 3⟩
def lenP (s : ByteArray) : Bool := decide (2 ≤ (splitB s spS).length) && decide ((splitB s spS).length ≤ 4)
noncomputable def okP' (p : Pj) (s : ByteArray) : Bool := lenP s && decide (fmtRuB p (gP p s) = s)
def parW (s : ByteArray) (i : Nat) : Int := (parseB (wd s i)).1
def plcW (p : Pj) (s : ByteArray) (i : Nat) : Int := plcB p.acts (wd s i)
def kindW (x : ByteArray) : Int := if 1 ≤ idxS ruNames x then idxS ruNames x else 0
def gM (p : Pj) (s : ByteArray) : Ru :=
  if kindW (wd s 0) = 2 then ⟨2, plcW p s 1, 0, 0⟩ else if kindW (wd s 0) = 3 then ⟨3, parW s 1, parW s 2, 0⟩
  else if kindW (wd s 0) = 4 then ⟨4, parW s 1, parW s 2, parW s 3⟩ else if kindW (wd s 0) = 5 then ⟨5, parW s 1, plcW p s 2, plcW p s 3⟩
  else ⟨kindW (wd s 0), parW s 1, 0, 0⟩
noncomputable def okM (p : Pj) (s : ByteArray) : Bool := decide (fmtRuB p (gM p s) ≠ ⟨#[]⟩) && decide (fmtRuB p (gM p s) = s)
noncomputable def resR (p : Pj) (s : ByteArray) : Ru := if okM p s = true then gM p s else ⟨0, 0, 0, 0⟩
theorem resR_no {p : Pj} {s : ByteArray} (h : okM p s = false) : resR p s = ⟨0, 0, 0, 0⟩ := by rw [resR, h]; simp
theorem resR_yes {p : Pj} {s : ByteArray} (h : okM p s = true) : resR p s = gM p s := by rw [resR, if_pos h]
theorem numR_num {p : Pj} {a : Int} (h : 0 ≤ a ∧ a ≤ 100) : numR p (fmtB a) = a := by
  have e := parse_fmt (n := a) (by omega) (by omega)
  rw [numR_yes (by rw [e]), e]
theorem numR_nm {p : Pj} (hp : pokB p = true) {a : Int} (h : ∃ k : Nat, a = (k : Int) ∧ k < p.acts.length) : numR p (nmI p a) = a := by
  have g := nmI_good hp h
  rw [numR_no (by rw [nm_noPar g.1]), g.2]
theorem parse_num {a : Int} (h : 0 ≤ a ∧ a ≤ 100) : (parseB (fmtB a)).1 = a := by
  rw [parse_fmt (n := a) (by omega) (by omega)]
theorem gP_fmtC {p : Pj} {c : Cd} (hp : pokB p = true) (hr : rngC p c) : gP p (fmtC p c) = c.ru := by
  have e := fmtC_split hp hr
  unfold gP wd numW wd
  rw [e]
  cases c with
  | lnk a => simp only [wordsC, Cd.ru]; simp [numR_num hr, ruNm, ruNames, idxS, ixB]; try decide
  | fin a => simp only [wordsC, Cd.ru]; simp [numR_nm hp hr, ruNm, ruNames, idxS, ixB]; try decide
  | tim a b => simp only [wordsC, Cd.ru]; simp [numR_num hr.1, numR_num hr.2, ruNm, ruNames, idxS, ixB]; try decide
  | wrk a b c => simp only [wordsC, Cd.ru]; simp [numR_num hr.1, numR_num hr.2.1, numR_num hr.2.2, ruNm, ruNames, idxS, ixB]; try decide
  | par a b c => simp only [wordsC, Cd.ru]; simp [numR_num hr.1, numR_nm hp hr.2.1, numR_nm hp hr.2.2, ruNm, ruNames, idxS, ixB]; try decide
  | stk a => simp only [wordsC, Cd.ru]; simp [numR_num hr, ruNm, ruNames, idxS, ixB]; try decide
theorem kindW_nm : kindW (ruNm 1) = 1 ∧ kindW (ruNm 2) = 2 ∧ kindW (ruNm 3) = 3 ∧ kindW (ruNm 4) = 4 ∧ kindW (ruNm 5) = 5 ∧ kindW (ruNm 6) = 6 := by decide
theorem gM_fmtC {p : Pj} {c : Cd} (hp : pokB p = true) (hr : rngC p c) : gM p (fmtC p c) = c.ru := by
  have e := fmtC_split hp hr
  obtain ⟨k1, k2, k3, k4, k5, k6⟩ := kindW_nm
  unfold gM plcW parW wd
  rw [e]
  cases c with
  | lnk a => simp [wordsC, Cd.ru, k1, parse_num hr]
  | fin a => simp [wordsC, Cd.ru, k2, (nmI_good hp hr).2]
  | tim a b => simp [wordsC, Cd.ru, k3, parse_num hr.1, parse_num hr.2]
  | wrk a b c => simp [wordsC, Cd.ru, k4, parse_num hr.1, parse_num hr.2.1, parse_num hr.2.2]
  | par a b c => simp [wordsC, Cd.ru, k5, parse_num hr.1, (nmI_good hp hr.2.1).2, (nmI_good hp hr.2.2).2]
  | stk a => simp [wordsC, Cd.ru, k6, parse_num hr]
theorem lenP_fmtC {p : Pj} {c : Cd} (hp : pokB p = true) (hr : rngC p c) : lenP (fmtC p c) = true := by
  unfold lenP
  rw [fmtC_split hp hr]
  cases c <;> simp [wordsC]
theorem lenP_empty : lenP ⟨#[]⟩ = false := by
  unfold lenP
  rw [split_empty]
  rfl
theorem both_of {p : Pj} {c : Cd} (hp : pokB p = true) (ht : thereC p c = true) : okP' p (fmtC p c) = true ∧ okM p (fmtC p c) = true ∧ gP p (fmtC p c) = c.ru ∧ gM p (fmtC p c) = c.ru := by
  have hr := rng_of hp ht
  have e1 := gP_fmtC hp hr
  have e2 := gM_fmtC hp hr
  have e3 := fmtC_fmt hp ht
  have e4 := fmtC_ne hp hr
  refine ⟨?_, ?_, e1, e2⟩
  · rw [okP', e1, e3, lenP_fmtC hp hr]; simp
  · rw [okM, e2, e3]; simp [e4]
theorem agreeR (p : Pj) (s : ByteArray) : okP' p s = okM p s ∧ (okM p s = true → gP p s = gM p s) := by
  by_cases h : ∃ c, pokB p = true ∧ thereC p c = true ∧ s = fmtC p c
  · obtain ⟨c, hp, ht, rfl⟩ := h
    obtain ⟨h1, h2, h3, h4⟩ := both_of hp ht
    exact ⟨by rw [h1, h2], fun _ => by rw [h3, h4]⟩
  · have n1 : okP' p s = false := by
      rw [← Bool.not_eq_true]
      intro e
      simp only [okP', Bool.and_eq_true, decide_eq_true_eq] at e
      have hne : fmtRuB p (gP p s) ≠ ⟨#[]⟩ := fun e2 => by
        have hs : s = ⟨#[]⟩ := by rw [← e.2]; exact e2
        rw [hs, lenP_empty] at e
        cases e.1
      obtain ⟨c, hp, ht, _, e3⟩ := fmt_cases hne
      exact h ⟨c, hp, ht, by rw [← e3, e.2]⟩
    have n2 : okM p s = false := by
      rw [← Bool.not_eq_true]
      intro e
      simp only [okM, Bool.and_eq_true, decide_eq_true_eq] at e
      obtain ⟨c, hp, ht, _, e3⟩ := fmt_cases e.1
      exact h ⟨c, hp, ht, by rw [← e3, e.2]⟩
    exact ⟨by rw [n1, n2], fun e => by rw [n2] at e; cases e⟩
/-- The program's answer, in the words of the model's. -/
theorem resP_no {p : Pj} {s : ByteArray} (h : okP' p s = false) : okM p s = false ∧ resR p s = ⟨0, 0, 0, 0⟩ := by
  have e := (agreeR p s).1
  rw [h] at e
  exact ⟨e.symm, resR_no e.symm⟩
theorem resP_yes {p : Pj} {s : ByteArray} (h : okP' p s = true) : okM p s = true ∧ resR p s = gP p s := by
  have e := (agreeR p s).1
  rw [h] at e
  exact ⟨e.symm, by rw [resR_yes e.symm, (agreeR p s).2 e.symm]⟩
end Go.Proofs.YtaglfdkeomjpdabGreatDoor
end
