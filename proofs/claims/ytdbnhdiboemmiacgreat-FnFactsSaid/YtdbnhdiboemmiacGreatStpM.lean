/- DERIVED. CONTRACTS: spec.l03Draw, spec.MakeSteps. -/
import Derived.Test.YtdbnhdiboemmiacGreatStpC
import Derived.Test.YtdbnhdiboemmiacGreatNum
import Derived.Deep.AppendLies
import Derived.Deep.RegionLaw
namespace Go.Proofs.YtdbnhdiboemmiacGreat
open Go.RowKit

/-- Steps as they are drawn. -/
def DrP (xs : List Pr) : Prop := 1 ≤ xs.length ∧ (xs.getD 0 (0, 0)).1 = 0 ∧ xs.Pairwise (fun p q => p.1 < q.1) ∧ ∀ p ∈ xs, 0 ≤ p.1 ∧ p.1 ≤ 10 * xs.length ∧ 0 ≤ p.2 ∧ p.2 ≤ 4
theorem DrP.ok {xs : List Pr} (h : DrP xs) (hl : xs.length ≤ 3) : okS xs :=
  okS_iff.2 ⟨h.1, by omega, h.2.1, h.2.2.1, fun p hp => by have := h.2.2.2 p hp; omega⟩
theorem DrP.one {r : Int} (h0 : 0 ≤ r) (h4 : r < 4) : DrP [(0, 1 + r)] :=
  ⟨by simp, by simp, List.Pairwise.cons (by simp) List.Pairwise.nil, fun p hp => by simp at hp; subst hp; simp; omega⟩
theorem pair_last {xs : List Pr} (h : xs.Pairwise (fun p q => p.1 < q.1)) {m : Nat} (hm : m + 1 = xs.length) : ∀ p ∈ xs, p.1 ≤ (xs[m]'(by omega)).1 := by
  intro p hp
  obtain ⟨j, hj, rfl⟩ := List.getElem_of_mem hp
  by_cases e : j = m
  · subst e; exact Int.le_refl _
  · exact Int.le_of_lt ((List.pairwise_iff_getElem.1 h) j m hj (by omega) (by omega))
theorem DrP.snoc {xs : List Pr} (h : DrP xs) {m : Nat} (hm : m + 1 = xs.length) {r s : Int} (h0 : 0 ≤ r) (h9 : r < 9) (s0 : 0 ≤ s) (s5 : s < 5) : DrP (xs ++ [((xs[m]'(by omega)).1 + 1 + r, s)]) := by
  have hl := h.2.2.2 _ (List.getElem_mem (show m < xs.length by omega))
  refine ⟨by simp, ?_, ?_, ?_⟩
  · have := h.1
    have e : (xs ++ [((xs[m]'(by omega)).1 + 1 + r, s)]).getD 0 (0, 0) = xs.getD 0 (0, 0) := by simp only [List.getD, List.getElem?_append_left (show 0 < xs.length by omega)]
    rw [e]
    exact h.2.1
  · rw [List.pairwise_append]
    refine ⟨h.2.2.1, List.Pairwise.cons (by simp) List.Pairwise.nil, fun p hp q hq => ?_⟩
    simp at hq
    subst hq
    have := pair_last h.2.2.1 hm p hp
    show p.1 < _ + 1 + r
    omega
  · intro p hp
    simp only [List.length_append, List.length_singleton]
    rcases List.mem_append.1 hp with hp | hp
    · have := h.2.2.2 p hp; omega
    · simp at hp
      subst hp
      simp only
      omega

theorem new2_cell (w : World) (x y : Value) (t : TypeId) : ∀ j u, [x, y][j]? = some u → (w.alloc (.cells #[x, y] t)).cell? ((⟨w.heap.size, 0, none⟩ : Addr).add j) = some u := by
  intro j u hu
  match j, hu with
  | 0, hu => simp at hu; subst hu; exact newP0 _ _ _ _ rfl
  | 1, hu => simp at hu; subst hu; exact newP1 _ _ _ _ rfl

/-- While steps are drawn: the row, the cursor, and nothing else of what lay at w has changed. -/
def DK (W0 w : World) (g : Nat) (A : Option Addr) (c : Nat) (bs : List Int) (v : Value) (xs : List Pr) (W : World) : Prop :=
  W.ownsRow w.heap.size 100 2 v xs.length (cellsP xs) ∧ Drw W0 W g A c bs ∧ w.grownBy W (some g)
theorem DK.call {W0 w : World} {g : Nat} {A : Option Addr} {c : Nat} {bs : List Int} {v : Value} {xs : List Pr} {W W' : World} (h : DK W0 w g A c bs v xs W) (hg0 : g < w.heap.size) (hd : Drw W0 W' g A c bs) (hg : W.grownBy W' (some g)) : DK W0 w g A c bs v xs W' :=
  ⟨own_grown h.1 hg (fun k hk => .inr (by cases hk; intro e; have := own_mem h.1 _ e; omega)), hd, h.2.2.trans hg⟩
theorem DK.drew {W0 w : World} {g : Nat} {A : Option Addr} {c : Nat} {bs : List Int} {v : Value} {xs : List Pr} {W : World} (h : DK W0 w g A c bs v xs W) : DK W0 w g A c bs v xs W.drew :=
  ⟨own_below h.1 (Below.refl _ _).drew (Nat.le_refl _), h.2.1.below (Below.refl _ _).drew, ⟨h.2.2.os, h.2.2.tape, h.2.2.output, h.2.2.size, h.2.2.block⟩⟩
theorem belowK (n : Int) (hn : 0 < n) (hn2 : n ≤ 256) {W0 w : World} {g : Nat} {A : Option Addr} {c : Nat} {bs : List Int} {gv cap : Nat} {xs : List Pr} {W : World} {m : Nat} {a : Int} (hlt : m < xs.length) (ha : xs[m].1 = a) (hg0 : g < w.heap.size) (h : DK W0 w g A c bs (.slice (some ⟨gv, 0, none⟩) xs.length cap) xs W) :
    Calls Tryz.prog 17 #[.pointer (some ⟨g, 0, none⟩), .int .i64 n] W fun e w' => ∃ r : Int, e = .returned (.int .i64 r) ∧ 0 ≤ r ∧ r < n ∧ DK W0 w g A c bs (.slice (some ⟨gv, 0, none⟩) xs.length cap) xs w' ∧ w'.cell? ⟨gv, m * 2, none⟩ = some (.int .i64 a) :=
  (below_small n hn hn2 g A c bs W0 W h.2.1).mono fun e w' ⟨r, h1, h2, h3, h4, h5⟩ => ⟨r, h1, h2, h3, h.call hg0 h4 h5, by
    rw [(h.call hg0 h4 h5).1.cellAt (m * 2) (by omega), ← ha]; exact cellsP_0 _ _ _⟩

set_option maxRecDepth 100000 in
set_option maxHeartbeats 2000000 in
theorem draw3_any (g : Nat) (A : Option Addr) (c : Nat) (bs : List Int) (W0 w : World) (h : Drw W0 w g A c bs) :
    Calls Tryz.prog 37 #[.pointer (some ⟨g, 0, none⟩)] w fun e w' => ∃ v' xs, e = .returned v' ∧ (DrP xs ∧ xs.length ≤ 3) ∧ w'.ownsRow w.heap.size 100 2 v' xs.length (cellsP xs) ∧ Drw W0 w' g A c bs ∧ w.grownBy w' (some g) := by
  obtain ⟨i0, hi, hz0, hz1, hz2⟩ := info_parts infoStep
  have hg0 : g < w.heap.size := h.cur.lt
  have H0 := Lib.hid h
  clear h
  go_enter Tryz.func37, Tryz.ntmps37
  go_wp2_with fail
  refine (below_small 4 (by omega) (by omega) g A c bs W0 _ H0.out).mono ?_
  rintro e w1 ⟨r, rfl, hr1, hr2, hd, hg⟩
  have hs1 := hg.size
  have H1 := Lib.hid (show DK W0 w g A c bs (.slice (some ⟨w1.heap.size, 0, none⟩) 1 1) [(0, 1 + r)] (w1.alloc (.cells #[.int .i64 0, .int .i64 (1 + r)] 100)) from
    ⟨⟨rfl, .inr ⟨w1.heap.size, 1, #[.int .i64 0, .int .i64 (1 + r)], rfl, hs1, heap_alloc_new w1 _, Nat.le_refl _, by decide, rfl, rfl⟩⟩, hd.below ((Below.refl _ _).alloc (Nat.le_refl _) _), hg.trans (World.grownBy_alloc _ _ _)⟩)
  have HD1 := Lib.hid (DrP.one hr1 hr2)
  clear hd hg
  go_wp2_with fail
  refine (below_small 6 (by omega) (by omega) g A c bs W0 _ H1.out.2.1).mono ?_
  rintro e w2 ⟨r2, rfl, hr3, hr4, hd, hg⟩
  have H2 := Lib.hid (H1.out.call hg0 hd hg)
  clear hd hg
  obtain ⟨m, hm⟩ : ∃ m : Nat, r2 / 2 = m := ⟨(r2 / 2).toNat, by omega⟩
  have hm2 : m ≤ 2 := by omega
  have HMM := Lib.hid hm
  go_wp2
  rw [hm]
  clear hm
  go_loopw [3, 4] (fun out i wr => ∃ (q : Nat) (xs : List Pr) (gv cap : Nat), i = .int .i64 q ∧ out = .slice (some ⟨gv, 0, none⟩) xs.length cap ∧ xs.length + q ≤ 3 ∧ DrP xs ∧ DK W0 w g A c bs (.slice (some ⟨gv, 0, none⟩) xs.length cap) xs wr) (fun _ i _ => (intOf i).toNat)
  case atStart => exact ⟨m, [(0, 1 + r)], w1.heap.size, 1, rfl, rfl, by simp; omega, HD1.out, H2.out⟩
  case round =>
    obtain ⟨q, xs, gv, cap, rfl, rfl, hq, hf, hK⟩ := hrel
    by_cases hq0 : q = 0
    · subst hq0
      have HF := Lib.hid hf
      have HK := Lib.hid hK
      clear hf hK
      go_wp2
      go_ret
      exact ⟨_, xs, rfl, ⟨HF.out, by omega⟩, HK.out.1, HK.out.2.1, HK.out.2.2⟩
    · obtain ⟨p, rfl⟩ : ∃ p, q = p + 1 := ⟨q - 1, by omega⟩
      have hpos : (0 : Int) < ((p + 1 : Nat) : Int) := by omega
      have hl1 := hf.1
      obtain ⟨m1, hm1⟩ : ∃ m1, m1 + 1 = xs.length := ⟨xs.length - 1, by omega⟩
      have hlt1 : m1 < xs.length := by omega
      obtain ⟨a, ha⟩ : ∃ a, (xs[m1]'hlt1).1 = a := ⟨_, rfl⟩
      have hmlt' : (m1 : Int) < (xs.length : Int) := by omega
      have hm0 : 0 ≤ (m1 : Int) := by omega
      have hw : IntKind.i64.wrap ((xs.length : Int) - 1) = (m1 : Int) := by rw [IntKind.wrap_i64]; omega
      have cl : wr.cell? ⟨gv, m1 * 2, none⟩ = some (.int .i64 a) := by rw [← ha]; rw [hK.1.cellAt (m1 * 2) (by omega)]; exact cellsP_0 _ _ _
      have hb := hf.2.2.2 _ (List.getElem_mem hlt1)
      have HM := Lib.hid hm1
      have HSN := Lib.hid (fun (r s : Int) (h0 : 0 ≤ r) (h9 : r < 9) (s0 : 0 ≤ s) (s5 : s < 5) => show DrP (xs ++ [(a + 1 + r, s)]) from ha ▸ hf.snoc hm1 h0 h9 s0 s5)
      rw [ha] at hb
      have hb1 := hb.1
      have hb2 := hb.2.1
      have hKd : DK W0 w g A c bs (.slice (some ⟨gv, 0, none⟩) xs.length cap) xs wr.drew := hK.drew
      have hbK := Lib.hid (fun (n : Int) (hn : 0 < n) (hn2 : n ≤ 256) (W : World) => belowK n hn hn2 (W0 := W0) (w := w) (g := g) (A := A) (c := c) (bs := bs) (gv := gv) (cap := cap) (W := W) hlt1 ha hg0)
      have HAA := Lib.hid ha
      clear hq0 hf hb hK ha
      have hw1 : IntKind.i64.wrap (a + 1) = a + 1 := by rw [IntKind.wrap_i64]; omega
      go_wp2
      go_region_law (first
        | (refine step_append_lies _ (by rfl) (.tmp 17) (.tmp 32) 71 (by rfl) w.heap.size 100 i0 (.agg #[.int .i64 0, .int .i64 0]) 2 16 Tryz.underlying71 hi hz0 hz1 hz2 rfl (by decide) _ xs.length (cellsP xs) (by rfl) (by exact hK5.1.alloc _) ⟨w5.heap.size, 0, none⟩ 1 1 [.int .i64 (a + 1 + r9), .int .i64 r5] (by rfl) (by rfl) (by exact new2_cell _ _ _ _) (by simp [Value.oneCell']) (by decide) (by unfold maxLen; omega) (by omega) (by have := hK5.2.2.size; simp; omega) (w5.heap.size + 1) (by simp) ?_; intro g' c' w6 hown6 hg6 _ _)
        | (go_simp; go_at_call 17; with_reducible refine (hbK.out 9 (by omega) (by omega) _ (by assumption)).mono ?_; rintro e w4 ⟨r9, rfl, hr91, hr92, hK4, cl4⟩; have hw2 : IntKind.i64.wrap (a + 1 + r9) = a + 1 + r9 := by rw [IntKind.wrap_i64]; omega)
        | (go_simp; go_at_call 17; with_reducible refine (hbK.out 5 (by omega) (by omega) _ (by assumption)).mono ?_; rintro e w5 ⟨r5, rfl, hr51, hr52, hK5, cl5⟩))
      all_goals
        have R := Lib.hid (show DK W0 w g A c bs (.slice (some ⟨g', 0, none⟩) (xs ++ [(a + 1 + r9, r5)]).length c') (xs ++ [(a + 1 + r9, r5)]) w6 from
          ⟨by rw [List.length_append, cellsP_app]; exact hown6, (hK5.2.1.below ((Below.refl _ _).alloc (Nat.le_refl _) _)).kept hg6 (fun i hi => Nat.le_trans hK5.2.1.le (Nat.le_trans (Nat.le_of_lt hg0) (own_mem hK5.1 i hi))) (fun e => absurd (own_mem hK5.1 _ e) (by omega)),
            grown_then (hK5.2.2.trans (World.grownBy_alloc _ _ _)) hg6 (fun j hj => .inl (own_mem hK5.1 j hj))⟩)
        have HD := Lib.hid (HSN.out r9 r5 hr91 hr92 hr51 hr52)
        clear hown6 hg6 hK5 hK4 hKd cl4 cl5 cl hw hw1 hw2
        go_wp2
        go_roundw
        case rel => exact ⟨p, xs ++ [(a + 1 + r9, r5)], g', c', by go_num, by simp, by simp; omega, HD.out, R.out⟩
        case measure => simp [intOf]

end Go.Proofs.YtdbnhdiboemmiacGreat
