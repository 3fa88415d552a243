/- DERIVED. CONTRACTS: the cursor that draws a law's arguments out of its bytes: spec.l01New, l01Byte, l01Below, l01Once. -/
import Derived.Test.YtdbnhdiboemmiacGreatChecked
import Derived.Test.YtdbnhdiboemmiacGreatCore
import Derived.Laws.BitsAllLaws
import Derived.IntWalk
import Derived.WalkKit
import Derived.Lib.Hide
import Derived.BigQuiet
import Derived.Deep.QuietTactic
import Derived.Deep.AppendLies
import Derived.Outline
namespace Go.Proofs.YtdbnhdiboemmiacGreat
open Go.RowKit

theorem and_le (x : Int) (m : Nat) (hm : m < 4611686018427387904) : 0 ≤ bits .and .i64 x (m : Int) ∧ bits .and .i64 x (m : Int) ≤ m := by
  have h : (BitVec.ofInt 64 x &&& BitVec.ofInt 64 (m : Int)).toNat ≤ m := by
    rw [BitVec.toNat_and]
    refine Nat.le_trans Nat.and_le_right ?_
    simp [BitVec.ofInt_natCast]
    omega
  have e : bits .and .i64 x (m : Int) = IntKind.i64.wrap ((BitVec.ofInt 64 x &&& BitVec.ofInt 64 (m : Int)).toNat : Int) := rfl
  rw [e]
  generalize (BitVec.ofInt 64 x &&& BitVec.ofInt 64 (m : Int)).toNat = n at h
  rw [IntWalk.i64_in _ (by omega)]
  omega

/-- The cursor at block g: its bytes, its place among them, its number. -/
structure Cur (w : World) (g : Nat) (cv : Value) (n : Nat) : Prop where
  buf : w.cell? ⟨g, 0, none⟩ = some cv
  pos : ∃ i : Nat, i ≤ n ∧ w.cell? ⟨g, 1, none⟩ = some (.int .i64 i)
  seed : ∃ h : Int, w.cell? ⟨g, 2, none⟩ = some (.int .i64 h)
  fr : w.frozen? ⟨g, 1, none⟩ = false ∧ w.frozen? ⟨g, 2, none⟩ = false
  lt : g < w.heap.size

theorem Cur.kept {w w' : World} {g : Nat} {cv : Value} {n : Nat} {row : Option Nat} (h : Cur w g cv n) (hg : w.grownBy w' row) (hr : row ≠ some g) : Cur w' g cv n := by
  have hne : some g ≠ row := fun e => hr e.symm
  refine ⟨hg.cell h.buf hne, ?_, ?_, ?_, Nat.lt_of_lt_of_le h.lt hg.size⟩
  · obtain ⟨i, h1, h2⟩ := h.pos; exact ⟨i, h1, hg.cell h2 hne⟩
  · obtain ⟨i, h2⟩ := h.seed; exact ⟨i, hg.cell h2 hne⟩
  · exact ⟨by rw [hg.frozen_far ⟨g, 1, none⟩ h.lt hne]; exact h.fr.1, by rw [hg.frozen_far ⟨g, 2, none⟩ h.lt hne]; exact h.fr.2⟩
theorem grown_set {w w' : World} {b : Nat} (h : w.grownBy w' (some b)) (a : Addr) (ha : a.block = b) (v : Value) : w.grownBy (w'.setCell a v) (some b) :=
  ⟨h.os, h.tape, h.output, by simpa [World.setCell] using h.size, fun k hk hne => (RowKit.Below.heap_setCell _ _ _ _ (by intro e; exact hne (by rw [e, ha]))).trans (h.block k hk hne)⟩
theorem grown_drewN {w w' : World} {row : Option Nat} (h : w.grownBy w' row) (n : Nat) : w.grownBy (w'.drewN n) row := ⟨h.os, h.tape, h.output, h.size, h.block⟩
theorem Cur.setSeed {w : World} {g : Nat} {cv : Value} {n : Nat} (h : Cur w g cv n) (x : Int) : Cur (w.setCell ⟨g, 2, none⟩ (.int .i64 x)) g cv n := by
  obtain ⟨i, h1, h2⟩ := h.pos
  obtain ⟨y, h3⟩ := h.seed
  exact ⟨by rw [World.cell?_setCell_other _ _ _ _ (by simp)]; exact h.buf, ⟨i, h1, by rw [World.cell?_setCell_other _ _ _ _ (by simp)]; exact h2⟩, ⟨x, World.cell?_setCell_same _ _ _ h3⟩, by simpa using h.fr, by simpa using h.lt⟩
theorem Cur.setPos {w : World} {g : Nat} {cv : Value} {n : Nat} (h : Cur w g cv n) (j : Nat) (hj : j ≤ n) : Cur (w.setCell ⟨g, 1, none⟩ (.int .i64 j)) g cv n := by
  obtain ⟨i, h1, h2⟩ := h.pos
  obtain ⟨y, h3⟩ := h.seed
  exact ⟨by rw [World.cell?_setCell_other _ _ _ _ (by simp)]; exact h.buf, ⟨j, hj, World.cell?_setCell_same _ _ _ h2⟩, ⟨y, by rw [World.cell?_setCell_other _ _ _ _ (by simp)]; exact h3⟩, by simpa using h.fr, by simpa using h.lt⟩
theorem Cur.drew {w : World} {g : Nat} {cv : Value} {n q : Nat} (h : Cur w g cv n) : Cur (w.drewN q) g cv n := ⟨h.buf, h.pos, h.seed, h.fr, h.lt⟩

set_option maxRecDepth 100000 in
set_option maxHeartbeats 1000000 in
theorem byte_any (g : Nat) (A : Option Addr) (c : Nat) (bs : List Int) (W0 w : World) (hc : Cur w g (.slice A bs.length c) bs.length) (hr : Rd W0 (.slice A bs.length c) (bs.map (.int .u8))) (hb : Below W0.heap.size W0 w) (hg : W0.heap.size ≤ g) (hu : ∀ b ∈ bs, 0 ≤ b ∧ b ≤ 255) (hn : bs.length ≤ 1048576) :
    Calls Tryz.prog 43 #[.pointer (some ⟨g, 0, none⟩)] w fun e w' => ∃ r : Int, e = .returned (.int .i64 r) ∧ 0 ≤ r ∧ r ≤ 255 ∧ Cur w' g (.slice A bs.length c) bs.length ∧ w.grownBy w' (some g) := by
  obtain ⟨h, hseed⟩ := hc.seed
  have hf2 := hc.fr.2
  have K := Lib.hid (fun x => And.intro (hc.setSeed x) (grown_set (World.grownBy.refl w (some g)) ⟨g, 2, none⟩ rfl (.int .i64 x)))
  clear hc
  have HB := Lib.hid (And.intro hr (And.intro hb (And.intro hg hu)))
  clear hr hb hu
  go_enter Tryz.func43, Tryz.ntmps43
  go_wp2_with fail
  generalize hW : World.setCell w ⟨g, 2, none⟩ _ = w1
  have C1 : Cur w1 g (.slice A bs.length c) bs.length ∧ w.grownBy w1 (some g) := by rw [← hW]; exact K.out _
  clear hW K hseed hf2
  obtain ⟨k, hk, hpos⟩ := C1.1.pos
  obtain ⟨h1, hseed⟩ := C1.1.seed
  have hbuf := C1.1.buf
  have hf1 := C1.1.fr.1
  have HC := Lib.hid C1
  clear C1
  by_cases hlt : k < bs.length
  · have hlt' : (k : Int) < (bs.length : Int) := by omega
    have hcell : ∃ b o, A = some ⟨b, o, none⟩ ∧ w1.cell? ⟨b, o + k, none⟩ = some (.int .u8 bs[k]) := by
      obtain ⟨hr, hb, hg', hu⟩ := HB.out
      obtain ⟨_, A', c', he, hx⟩ := hr
      simp only [Value.slice.injEq] at he
      obtain ⟨rfl, _, rfl⟩ := he
      rcases hx with hx | ⟨b, o, rfl, hbl, hcs⟩
      · simp at hx; subst hx; simp at hlt
      · refine ⟨b, o, rfl, ?_⟩
        have h2 := hcs k (by simpa using hlt)
        have h3 : Below W0.heap.size W0 w1 := hb.grown HC.out.2 hb.size (fun i hi => by cases hi; exact hg')
        rw [h3.cell (p := ⟨b, o + k, none⟩) hbl, h2]
        simp
    obtain ⟨b, o, rfl, hcell⟩ := hcell
    have hy : 0 ≤ bs[k] ∧ bs[k] ≤ 255 := HB.out.2.2.2 _ (List.getElem_mem hlt)
    generalize bs[k] = y at hcell hy
    go_quiet (fail)
    go_wp2_with fail
    go_quiet (fail)
    go_wp2_with fail
    go_quiet (fail)
    go_wp2
    go_ret
    refine ⟨_, rfl, (and_le _ 255 (by decide)).1, (and_le _ 255 (by decide)).2, ?_, ?_⟩
    · exact HC.out.1.drew.setPos (k + 1) (by omega)
    · exact grown_set (grown_drewN HC.out.2 _) ⟨g, 1, none⟩ rfl (.int .i64 ((k + 1 : Nat) : Int))
  · have hge : ¬ (k : Int) < (bs.length : Int) := by omega
    go_quiet (fail)
    go_wp2_with fail
    go_quiet (fail)
    go_wp2
    go_ret
    refine ⟨_, rfl, (and_le _ 255 (by decide)).1, (and_le _ 255 (by decide)).2, ?_, ?_⟩
    · exact HC.out.1.drew.drew
    · exact grown_drewN (grown_drewN HC.out.2 _) _

/-- What a call that draws needs: the cursor, its bytes as they came in at W0. -/
structure Drw (W0 w : World) (g : Nat) (A : Option Addr) (c : Nat) (bs : List Int) : Prop where
  cur : Cur w g (.slice A bs.length c) bs.length
  rd : Rd W0 (.slice A bs.length c) (bs.map (.int .u8))
  bel : Below W0.heap.size W0 w
  le : W0.heap.size ≤ g
  by8 : ∀ b ∈ bs, 0 ≤ b ∧ b ≤ 255
  len : bs.length ≤ 1048576
theorem Drw.step {W0 w w' : World} {g : Nat} {A : Option Addr} {c : Nat} {bs : List Int} (h : Drw W0 w g A c bs) (hc : Cur w' g (.slice A bs.length c) bs.length) (hg : w.grownBy w' (some g)) : Drw W0 w' g A c bs :=
  ⟨hc, h.rd, h.bel.grown hg h.bel.size (fun i hi => by cases hi; exact h.le), h.le, h.by8, h.len⟩
theorem Drw.kept {W0 w w' : World} {g : Nat} {A : Option Addr} {c : Nat} {bs : List Int} {row : Option Nat} (h : Drw W0 w g A c bs) (hg : w.grownBy w' row) (hr : ∀ i, row = some i → W0.heap.size ≤ i) (hne : row ≠ some g) : Drw W0 w' g A c bs :=
  ⟨h.cur.kept hg hne, h.rd, h.bel.grown hg h.bel.size hr, h.le, h.by8, h.len⟩
theorem Drw.below {W0 w w' : World} {g : Nat} {A : Option Addr} {c : Nat} {bs : List Int} (h : Drw W0 w g A c bs) (hb : Below w.heap.size w w') : Drw W0 w' g A c bs :=
  h.kept (row := none) (grown_below hb (Nat.le_refl _) none) (by simp) (by simp)

theorem byte8 (g : Nat) (A : Option Addr) (c : Nat) (bs : List Int) (W0 w : World) (h : Drw W0 w g A c bs) :
    Calls Tryz.prog 43 #[.pointer (some ⟨g, 0, none⟩)] w fun e w' => ∃ r : Int, e = .returned (.int .i64 r) ∧ 0 ≤ r ∧ r ≤ 255 ∧ Drw W0 w' g A c bs ∧ w.grownBy w' (some g) :=
  (byte_any g A c bs W0 w h.cur h.rd h.bel h.le h.by8 h.len).mono fun _ _ ⟨r, h1, h2, h3, h4, h5⟩ => ⟨r, h1, h2, h3, h.step h4 h5, h5⟩

set_option maxRecDepth 100000 in
theorem below_small (n : Int) (hn : 0 < n) (hn2 : n ≤ 256) (g : Nat) (A : Option Addr) (c : Nat) (bs : List Int) (W0 w : World) (h : Drw W0 w g A c bs) :
    Calls Tryz.prog 17 #[.pointer (some ⟨g, 0, none⟩), .int .i64 n] w fun e w' => ∃ r : Int, e = .returned (.int .i64 r) ∧ 0 ≤ r ∧ r < n ∧ Drw W0 w' g A c bs ∧ w.grownBy w' (some g) := by
  have H0 := Lib.hid (byte8 g A c bs W0 w h)
  clear h
  have hn0 : ¬ n ≤ 0 := by omega
  go_enter Tryz.func17, Tryz.ntmps17
  go_wp2_with fail
  refine H0.out.mono ?_
  rintro e w1 ⟨r, rfl, hr1, hr2, hd, hg⟩
  have H1 := Lib.hid (And.intro hd hg)
  clear hd hg H0
  go_wp2
  go_ret
  exact ⟨_, rfl, Int.emod_nonneg _ (by omega), Int.emod_lt_of_pos _ (by omega), H1.out.1, H1.out.2⟩

set_option maxRecDepth 100000 in
theorem below_big (n : Int) (hn : 256 < n) (hn2 : n ≤ 1099511627776) (g : Nat) (A : Option Addr) (c : Nat) (bs : List Int) (W0 w : World) (h : Drw W0 w g A c bs) :
    Calls Tryz.prog 17 #[.pointer (some ⟨g, 0, none⟩), .int .i64 n] w fun e w' => ∃ r : Int, e = .returned (.int .i64 r) ∧ 0 ≤ r ∧ r < n ∧ Drw W0 w' g A c bs ∧ w.grownBy w' (some g) := by
  have H0 := Lib.hid (And.intro h (World.grownBy.refl w (some g)))
  clear h
  have hn0 : ¬ n ≤ 0 := by omega
  have hn1 : ¬ n ≤ 256 := by omega
  go_enter Tryz.func17, Tryz.ntmps17
  go_wp2_with fail
  refine (byte8 g A c bs W0 _ H0.out.1).mono ?_
  rintro e w1 ⟨r1, rfl, ha1, hb1, hd, hg⟩
  have H1 := Lib.hid (And.intro hd (H0.out.2.trans hg))
  clear hd hg H0
  go_wp2_with fail
  refine (byte8 g A c bs W0 _ H1.out.1).mono ?_
  rintro e w2 ⟨r2, rfl, ha2, hb2, hd, hg⟩
  have H2 := Lib.hid (And.intro hd (H1.out.2.trans hg))
  clear hd hg H1
  go_wp2_with fail
  refine (byte8 g A c bs W0 _ H2.out.1).mono ?_
  rintro e w3 ⟨r3, rfl, ha3, hb3, hd, hg⟩
  have H3 := Lib.hid (And.intro hd (H2.out.2.trans hg))
  clear hd hg H2
  go_wp2_with fail
  refine (byte8 g A c bs W0 _ H3.out.1).mono ?_
  rintro e w4 ⟨r4, rfl, ha4, hb4, hd, hg⟩
  have H4 := Lib.hid (And.intro hd (H3.out.2.trans hg))
  clear hd hg H3
  go_wp2
  go_ret
  exact ⟨_, rfl, Int.emod_nonneg _ (by omega), Int.emod_lt_of_pos _ (by omega), H4.out.1, H4.out.2⟩

theorem once_any (n : Int) (hn : 0 < n) (hn2 : n ≤ 256) (g : Nat) (A : Option Addr) (c : Nat) (bs : List Int) (W0 w : World) (h : Drw W0 w g A c bs) :
    Calls Tryz.prog 38 #[.pointer (some ⟨g, 0, none⟩), .int .i64 n] w fun e w' => ∃ r : Bool, e = .returned (.bool r) ∧ Drw W0 w' g A c bs ∧ w.grownBy w' (some g) := by
  have H0 := Lib.hid (below_small n hn hn2 g A c bs W0 w h)
  clear h
  go_enter Tryz.func38, Tryz.ntmps38
  go_wp2_with fail
  refine H0.out.mono ?_
  rintro e w1 ⟨r, rfl, hr1, hr2, hd, hg⟩
  have H1 := Lib.hid (And.intro hd hg)
  clear hd hg H0
  go_wp2
  go_ret
  exact ⟨_, rfl, H1.out.1, H1.out.2⟩

theorem drw_new (A : Option Addr) (c : Nat) (bs : List Int) (w : World) (t : TypeId) (h : Int) (hr : Rd w (.slice A bs.length c) (bs.map (.int .u8))) (hu : ∀ b ∈ bs, 0 ≤ b ∧ b ≤ 255) (hn : bs.length ≤ 1048576) :
    Drw w (w.alloc (.cells #[.slice A bs.length c, .int .i64 0, .int .i64 h] t)) w.heap.size A c bs ∧ Below w.heap.size w (w.alloc (.cells #[.slice A bs.length c, .int .i64 0, .int .i64 h] t)) := by
  have hb : Below w.heap.size w (w.alloc (.cells #[.slice A bs.length c, .int .i64 0, .int .i64 h] t)) := (Below.refl _ _).alloc (Nat.le_refl _) _
  refine ⟨⟨⟨?_, ⟨0, Nat.zero_le _, ?_⟩, ⟨h, ?_⟩, ⟨?_, ?_⟩, by simp⟩, hr, hb, Nat.le_refl _, hu, hn⟩, hb⟩
  · rw [World.cell?_alloc_at _ _ _ _ rfl]; rfl
  · rw [World.cell?_alloc_at _ _ _ _ rfl]; rfl
  · rw [World.cell?_alloc_at _ _ _ _ rfl]; rfl
  · rw [World.frozen?_alloc_at _ _ _ _ rfl]
  · rw [World.frozen?_alloc_at _ _ _ _ rfl]

set_option maxRecDepth 100000 in
set_option maxHeartbeats 1000000 in
theorem new_any (A : Option Addr) (c : Nat) (bs : List Int) (w : World) (hr : Rd w (.slice A bs.length c) (bs.map (.int .u8))) (hu : ∀ b ∈ bs, 0 ≤ b ∧ b ≤ 255) (hn : bs.length ≤ 1048576) :
    Calls Tryz.prog 14 #[.slice A bs.length c] w fun e w' => e = .returned (.pointer (some ⟨w.heap.size, 0, none⟩)) ∧ Drw w w' w.heap.size A c bs ∧ Below w.heap.size w w' := by
  have HB := Lib.hid (And.intro hr hu)
  clear hr hu
  go_enter Tryz.func14, Tryz.ntmps14
  go_wp2
  go_loopw [3, 4] (fun x i wr => ∃ h : Int, ∃ k : Nat, k ≤ bs.length ∧ i = .int .i64 k ∧ x = .int .i64 h ∧ 0 ≤ h ∧ h ≤ 1073741823 ∧ w = wr) (fun _ i _ => bs.length - (intOf i).toNat)
  case atStart => exact ⟨_, 0, Nat.zero_le _, rfl, rfl, by omega, by omega, rfl⟩
  case round =>
    obtain ⟨h, k, hk, rfl, rfl, h0, h1, rfl⟩ := hrel
    by_cases hlt : k < bs.length
    · have hlt' : (k : Int) < (bs.length : Int) := by omega
      by_cases h4 : (k : Int) < 4000
      · have hcell : ∃ b o, A = some ⟨b, o, none⟩ ∧ w.cell? ⟨b, o + k, none⟩ = some (.int .u8 bs[k]) := by
          obtain ⟨_, A', c', he, hx⟩ := HB.out.1
          simp only [Value.slice.injEq] at he
          obtain ⟨rfl, _, rfl⟩ := he
          rcases hx with hx | ⟨b, o, rfl, hbl, hcs⟩
          · simp at hx; subst hx; simp at hlt
          · refine ⟨b, o, rfl, ?_⟩
            rw [hcs k (by simpa using hlt)]
            simp
        obtain ⟨b, o, rfl, hcell⟩ := hcell
        have hy : 0 ≤ bs[k] ∧ bs[k] ≤ 255 := HB.out.2 _ (List.getElem_mem hlt)
        generalize bs[k] = y at hcell hy
        go_wp2
        go_roundw
        case rel => exact ⟨_, k + 1, by omega, by go_num, rfl, (and_le _ 1073741823 (by decide)).1, (and_le _ 1073741823 (by decide)).2, by trivial⟩
        case measure => simp [intOf]; omega
      · go_wp2
        go_ret
        exact ⟨rfl, drw_new A c bs w _ h HB.out.1 HB.out.2 hn⟩
    · have hge : ¬ (k : Int) < (bs.length : Int) := by omega
      go_wp2
      go_ret
      exact ⟨rfl, drw_new A c bs w _ h HB.out.1 HB.out.2 hn⟩
end Go.Proofs.YtdbnhdiboemmiacGreat
