/- DERIVED. CONTRACT: ActivityEqual of the program. -/
import Derived.Test.YtnbkiobbacaaiaaGreatDoorActG
import Derived.Test.YtnbkiobbacaaiaaGreatDoorActB
import Derived.Test.YtnbkiobbacaaiaaGreatDoorReg
namespace Go.Proofs.YtnbkiobbacaaiaaGreatDoor
open Go.RowKit

/-- What is carried through a drawn region: two boxes of the caller's. -/
def TK (w0 : World) (g h : Nat) (t : TypeId) (cs ds : Array Value) (W : World) : Prop := Below w0.heap.size w0 W ∧ Bk W g t cs ∧ Bk W h t ds
theorem TK.go {w0 : World} {g h : Nat} {t : TypeId} {cs ds : Array Value} {W W' : World} (k : TK w0 g h t cs ds W) (hb : Below W.heap.size W W') : TK w0 g h t cs ds W' :=
  ⟨k.1.trans (hb.mono k.1.size), k.2.1.below hb (Nat.le_refl _), k.2.2.below hb (Nat.le_refl _)⟩

theorem TK.alloc {w0 : World} {g h : Nat} {t : TypeId} {cs ds : Array Value} {W : World} (k : TK w0 g h t cs ds W) (o : Obj) : TK w0 g h t cs ds (W.alloc o) := k.go ((Below.refl _ _).alloc (Nat.le_refl _) o)
theorem TK.setCell {w0 : World} {g h : Nat} {t : TypeId} {cs ds : Array Value} {W : World} (k : TK w0 g h t cs ds W) {p : Addr} (hp : w0.heap.size ≤ p.block) (hg : g < w0.heap.size) (hh : h < w0.heap.size) (x : Value) : TK w0 g h t cs ds (W.setCell p x) :=
  ⟨k.1.setCell hp x, k.2.1.far (by omega) x, k.2.2.far (by omega) x⟩
/-- What must have come up before an operation of the two assignments. -/
def depXY (i : Nat) (l : List Bool) : Bool := match i with
  | 1 => l.getD 0 false
  | 3 => l.getD 2 false
  | 6 => l.getD 4 false && l.getD 1 false && !l.getD 6 false
  | 7 => l.getD 5 false && l.getD 3 false && !l.getD 7 false
  | _ => true
/-- A variable's box in the region: made, and filled once its store has come up. -/
def Made (w0 : World) (L : Array Bool) (mk st : Nat) (T : TypeId) (x : Value) (B : Nat) (full : Array Value) (W : World) : Prop :=
  on L mk → x = .pointer (some ⟨B, 0, none⟩) ∧ w0.heap.size ≤ B ∧ ∃ a b c, Bk W B T #[a, b, c] ∧ (on L st → #[a, b, c] = full)
theorem Made.below {w0 : World} {L : Array Bool} {mk st : Nat} {T : TypeId} {x : Value} {B : Nat} {full : Array Value} {W W' : World} (h : Made w0 L mk st T x B full W) (hb : Below W.heap.size W W') : Made w0 L mk st T x B full W' := fun hk => by
  obtain ⟨h1, h2, a, b, c, h3, h4⟩ := h hk
  exact ⟨h1, h2, a, b, c, h3.below hb (Nat.le_refl _), h4⟩
theorem Made.other {w0 : World} {L : Array Bool} {mk st i : Nat} {T : TypeId} {x : Value} {B : Nat} {full : Array Value} {W : World} (h : Made w0 L mk st T x B full W) (h1 : mk ≠ i) (h2 : st ≠ i) : Made w0 (L.setIfInBounds i true) mk st T x B full W := fun hk => by
  rcases on_set hk with hk | hk
  · exact absurd hk h1
  · obtain ⟨g1, g2, a, b, c, g3, g4⟩ := h hk
    exact ⟨g1, g2, a, b, c, g3, fun hs => by
      rcases on_set hs with hs | hs
      · exact absurd hs h2
      · exact g4 hs⟩
theorem Made.far {w0 : World} {L : Array Bool} {mk st : Nat} {T : TypeId} {x : Value} {B : Nat} {full : Array Value} {W : World} (h : Made w0 L mk st T x B full W) {p : Addr} (hp : on L mk → B ≠ p.block) (y : Value) : Made w0 L mk st T x B full (W.setCell p y) := fun hk => by
  obtain ⟨h1, h2, a, b, c, h3, h4⟩ := h hk
  exact ⟨h1, h2, a, b, c, h3.far (hp hk) y, h4⟩

set_option maxRecDepth 100000 in
set_option maxHeartbeats 4000000 in
theorem implActivityEqual_any (a b : Ac) (v u : Value) (w : World) (hv : (trA a).rd w v) (hu : (trA b).rd w u) :
    Calls Tryz.prog 9 #[v, u] w fun e w' => e = .returned (.bool (decide (a = b))) ∧ Below w.heap.size w w' := by
  obtain ⟨A, ca, rfl, r1⟩ := rdA hv
  obtain ⟨B, cb, rfl, s1⟩ := rdA hu
  obtain ⟨hb0, k1, k2, hs0⟩ := boxes2 w 32 32 #[.string a.nm, .int .i64 a.fa, .slice A a.ms.length ca] #[.string b.nm, .int .i64 b.fa, .slice B b.ms.length cb]
  have RV := Lib.hid (Tr.rd_below hb0 (Nat.le_refl _) _ _ hv)
  have RU := Lib.hid (Tr.rd_below hb0 (Nat.le_refl _) _ _ hu)
  have R1 := Lib.hid (Tr.rd_below hb0 (Nat.le_refl _) _ _ r1)
  have T1 := Lib.hid (Tr.rd_below hb0 (Nat.le_refl _) _ _ s1)
  clear hv hu r1 s1
  generalize hres : decide (a = b) = res
  rw [dec_ac] at hres
  have RES := Lib.hid hres
  clear hres
  go_enter Tryz.func9, Tryz.ntmps9
  go_wp2
  generalize (w.alloc (.cells #[.string a.nm, .int .i64 a.fa, .slice A a.ms.length ca] 32)).alloc (.cells #[.string b.nm, .int .i64 b.fa, .slice B b.ms.length cb] 32) = w0 at hb0 k1 k2 hs0 RV RU R1 T1 ⊢
  have HB0 := Lib.hid hb0
  have hk : TK w0 w.heap.size (w.heap.size + 1) 32 #[.string a.nm, .int .i64 a.fa, .slice A a.ms.length ca] #[.string b.nm, .int .i64 b.fa, .slice B b.ms.length cb] w0.drew := ⟨(Below.refl _ _).drew, k1.below (Below.refl _ _).drew (Nat.le_refl _), k2.below (Below.refl _ _).drew (Nat.le_refl _)⟩
  clear hb0 k1 k2
  generalize hva : Value.agg #[.string a.nm, .int .i64 a.fa, .slice A a.ms.length ca] = va at RV
  generalize hvb : Value.agg #[.string b.nm, .int .i64 b.fa, .slice B b.ms.length cb] = vb at RU
  have HVA := Lib.hid hva
  have HVB := Lib.hid hvb
  refine wp_region_by (by kernel_rfl) (fun L a' W => L.size = 8 ∧ ∃ (x5 x6 x7 x8 x9 x10 : Value) (B5 B6 : Nat),
    a' = { tmps := #[va, vb, .pointer (some ⟨w.heap.size, 0, none⟩), .pointer (some ⟨w.heap.size + 1, 0, none⟩), .bool false, x5, x6, x7, x8, x9, x10, undef, undef, undef, undef, undef, undef, undef, undef, undef, undef, undef, undef, undef, undef, undef, undef, undef, undef, undef], defers := [] } ∧
    TK w0 w.heap.size (w.heap.size + 1) 32 #[.string a.nm, .int .i64 a.fa, .slice A a.ms.length ca] #[.string b.nm, .int .i64 b.fa, .slice B b.ms.length cb] W ∧
    (on L 0 → x7 = va) ∧ (on L 1 → x8 = va) ∧ (on L 2 → x9 = vb) ∧ (on L 3 → x10 = vb) ∧
    Made w0 L 4 6 59 x5 B5 #[.string a.nm, .int .i64 a.fa, .slice A a.ms.length ca] W ∧ Made w0 L 5 7 59 x6 B6 #[.string b.nm, .int .i64 b.fa, .slice B b.ms.length cb] W ∧ (on L 4 → on L 5 → B5 ≠ B6) ∧ (on L 6 → on L 4) ∧ (on L 7 → on L 5)) ?step ?done ?init
  case init =>
    exact ⟨by simp, undef, undef, undef, undef, undef, undef, 0, 0, by rw [← hva, ← hvb], hk, fun h => (on_none h).elim, fun h => (on_none h).elim, fun h => (on_none h).elim, fun h => (on_none h).elim, fun h => (on_none h).elim, fun h => (on_none h).elim, fun h => (on_none h).elim, fun h => (on_none h).elim, fun h => (on_none h).elim⟩
  case step =>
    rintro L a' W ⟨hL, x5, x6, x7, x8, x9, x10, B5, B6, rfl, hT, i0, i1, i2, i3, i5, i6, i56, i64, i75⟩ i hi K hK
    have hd := reg_dep (dep := depXY) (by kernel_rfl) hL hi
    have hi8 := (ready_mem hi).1
    have hL2 : ∀ i, (L.setIfInBounds i true).size = 8 := fun i => by simpa using hL
    have hgT := hT.2.1.lt
    obtain ⟨c0, c1, c2, cf⟩ := hT.2.1.c3
    obtain ⟨d0, d1, d2, df⟩ := hT.2.2.c3
    match i, hi8 with
    | 0, _ =>
      refine wpOp_step rfl (fun K' hK' => ?_)
      go_simp
      exact hK' _ _ (hK _ _ ⟨hL2 0, x5, x6, va, x8, x9, x10, B5, B6, rfl, hT, fun _ => rfl, fun h => i1 ((on_set h).resolve_left (by decide)), fun h => i2 ((on_set h).resolve_left (by decide)), fun h => i3 ((on_set h).resolve_left (by decide)), i5.other (by decide) (by decide), i6.other (by decide) (by decide), fun h h2 => i56 ((on_set h).resolve_left (by decide)) ((on_set h2).resolve_left (by decide)), fun h => on_add (i64 ((on_set h).resolve_left (by decide))), fun h => on_add (i75 ((on_set h).resolve_left (by decide)))⟩)
    | 1, _ =>
      obtain rfl := i0 (on_getD hd)
      refine wpOp_step rfl (fun K' hK' => ?_)
      go_simp
      refine (taskOf_any a x7 W (Tr.rd_below hT.1 (Nat.le_refl _) _ _ RV.out)).mono ?_
      rintro e w1 ⟨rfl, hb⟩
      refine hK' _ _ (hK _ _ ⟨hL2 1, x5, x6, x7, x7, x9, x10, B5, B6, rfl, hT.go hb, fun h => i0 ((on_set h).resolve_left (by decide)), fun _ => rfl, fun h => i2 ((on_set h).resolve_left (by decide)), fun h => i3 ((on_set h).resolve_left (by decide)), (i5.below hb).other (by decide) (by decide), (i6.below hb).other (by decide) (by decide), fun h h2 => i56 ((on_set h).resolve_left (by decide)) ((on_set h2).resolve_left (by decide)), fun h => on_add (i64 ((on_set h).resolve_left (by decide))), fun h => on_add (i75 ((on_set h).resolve_left (by decide)))⟩)
    | 2, _ =>
      refine wpOp_step rfl (fun K' hK' => ?_)
      go_simp
      exact hK' _ _ (hK _ _ ⟨hL2 2, x5, x6, x7, x8, vb, x10, B5, B6, rfl, hT, fun h => i0 ((on_set h).resolve_left (by decide)), fun h => i1 ((on_set h).resolve_left (by decide)), fun _ => rfl, fun h => i3 ((on_set h).resolve_left (by decide)), i5.other (by decide) (by decide), i6.other (by decide) (by decide), fun h h2 => i56 ((on_set h).resolve_left (by decide)) ((on_set h2).resolve_left (by decide)), fun h => on_add (i64 ((on_set h).resolve_left (by decide))), fun h => on_add (i75 ((on_set h).resolve_left (by decide)))⟩)
    | 3, _ =>
      obtain rfl := i2 (on_getD hd)
      refine wpOp_step rfl (fun K' hK' => ?_)
      go_simp
      refine (taskOf_any b x9 W (Tr.rd_below hT.1 (Nat.le_refl _) _ _ RU.out)).mono ?_
      rintro e w1 ⟨rfl, hb⟩
      refine hK' _ _ (hK _ _ ⟨hL2 3, x5, x6, x7, x8, x9, x9, B5, B6, rfl, hT.go hb, fun h => i0 ((on_set h).resolve_left (by decide)), fun h => i1 ((on_set h).resolve_left (by decide)), fun h => i2 ((on_set h).resolve_left (by decide)), fun _ => rfl, (i5.below hb).other (by decide) (by decide), (i6.below hb).other (by decide) (by decide), fun h h2 => i56 ((on_set h).resolve_left (by decide)) ((on_set h2).resolve_left (by decide)), fun h => on_add (i64 ((on_set h).resolve_left (by decide))), fun h => on_add (i75 ((on_set h).resolve_left (by decide)))⟩)
    | 4, _ =>
      refine wpOp_step rfl (fun K' hK' => ?_)
      go_simp
      have hb : Below W.heap.size W (W.alloc (.cells #[.string ⟨#[]⟩, .int .i64 0, .slice none 0 0] 59)) := (Below.refl _ _).alloc (Nat.le_refl _) _
      have hno : ¬ on L 4 := not_on (ready_mem hi).2
      exact hK' _ _ (hK _ _ ⟨hL2 4, _, x6, x7, x8, x9, x10, W.heap.size, B6, rfl, hT.go hb, fun h => i0 ((on_set h).resolve_left (by decide)), fun h => i1 ((on_set h).resolve_left (by decide)), fun h => i2 ((on_set h).resolve_left (by decide)), fun h => i3 ((on_set h).resolve_left (by decide)), fun _ => ⟨rfl, hT.1.size, _, _, _, Bk.new W _ _, fun h => absurd (i64 ((on_set h).resolve_left (by decide))) hno⟩, (i6.below hb).other (by decide) (by decide), fun _ h2 => by obtain ⟨_, _, _, _, _, hk6, _⟩ := i6 ((on_set h2).resolve_left (by decide)); have := hk6.lt; omega, fun _ => on_new (by rw [hL]; decide), fun h => on_add (i75 ((on_set h).resolve_left (by decide)))⟩)
    | 5, _ =>
      refine wpOp_step rfl (fun K' hK' => ?_)
      go_simp
      have hb : Below W.heap.size W (W.alloc (.cells #[.string ⟨#[]⟩, .int .i64 0, .slice none 0 0] 59)) := (Below.refl _ _).alloc (Nat.le_refl _) _
      have hno : ¬ on L 5 := not_on (ready_mem hi).2
      exact hK' _ _ (hK _ _ ⟨hL2 5, x5, _, x7, x8, x9, x10, B5, W.heap.size, rfl, hT.go hb, fun h => i0 ((on_set h).resolve_left (by decide)), fun h => i1 ((on_set h).resolve_left (by decide)), fun h => i2 ((on_set h).resolve_left (by decide)), fun h => i3 ((on_set h).resolve_left (by decide)), (i5.below hb).other (by decide) (by decide), fun _ => ⟨rfl, hT.1.size, _, _, _, Bk.new W _ _, fun h => absurd (i75 ((on_set h).resolve_left (by decide))) hno⟩, fun h _ => by obtain ⟨_, _, _, _, _, hk5, _⟩ := i5 ((on_set h).resolve_left (by decide)); have := hk5.lt; omega, fun h => on_add (i64 ((on_set h).resolve_left (by decide))), fun _ => on_new (by rw [hL]; decide)⟩)
    | 6, _ =>
      have hd' : (L.toList.getD 4 false && L.toList.getD 1 false && !L.toList.getD 6 false) = true := hd
      simp only [Bool.and_eq_true] at hd'
      have h4 := on_getD hd'.1.1
      obtain rfl := i1 (on_getD hd'.1.2)
      obtain ⟨rfl, hB, q0, q1, q2, hk5, _⟩ := i5 h4
      subst hva
      obtain ⟨e0, e1, e2, ef⟩ := hk5.c3
      have hlt5 := hk5.lt
      refine wpOp_step rfl (fun K' hK' => ?_)
      go_simp
      refine hK' _ _ (hK _ _ ⟨hL2 6, _, x6, x7, _, x9, x10, B5, B6, rfl, ((hT.setCell (p := ⟨B5, 0, none⟩) hB (by omega) (by omega) _).setCell (p := ⟨B5, 1, none⟩) hB (by omega) (by omega) _).setCell (p := ⟨B5, 2, none⟩) hB (by omega) (by omega) _, fun h => i0 ((on_set h).resolve_left (by decide)), fun h => i1 ((on_set h).resolve_left (by decide)), fun h => i2 ((on_set h).resolve_left (by decide)), fun h => i3 ((on_set h).resolve_left (by decide)), fun _ => ⟨rfl, hB, _, _, _, ((hk5.set 0 _).set 1 _).set 2 _, fun _ => rfl⟩, (((i6.far (p := ⟨B5, 0, none⟩) (fun h => (i56 h4 h).symm) _).far (p := ⟨B5, 1, none⟩) (fun h => (i56 h4 h).symm) _).far (p := ⟨B5, 2, none⟩) (fun h => (i56 h4 h).symm) _).other (by decide) (by decide), fun h h2 => i56 ((on_set h).resolve_left (by decide)) ((on_set h2).resolve_left (by decide)), fun _ => on_add h4, fun h => on_add (i75 ((on_set h).resolve_left (by decide)))⟩)
    | 7, _ =>
      have hd' : (L.toList.getD 5 false && L.toList.getD 3 false && !L.toList.getD 7 false) = true := hd
      simp only [Bool.and_eq_true] at hd'
      have h5 := on_getD hd'.1.1
      obtain rfl := i3 (on_getD hd'.1.2)
      obtain ⟨rfl, hB, q0, q1, q2, hk6, _⟩ := i6 h5
      subst hvb
      obtain ⟨e0, e1, e2, ef⟩ := hk6.c3
      have hlt6 := hk6.lt
      refine wpOp_step rfl (fun K' hK' => ?_)
      go_simp
      refine hK' _ _ (hK _ _ ⟨hL2 7, x5, _, x7, x8, x9, _, B5, B6, rfl, ((hT.setCell (p := ⟨B6, 0, none⟩) hB (by omega) (by omega) _).setCell (p := ⟨B6, 1, none⟩) hB (by omega) (by omega) _).setCell (p := ⟨B6, 2, none⟩) hB (by omega) (by omega) _, fun h => i0 ((on_set h).resolve_left (by decide)), fun h => i1 ((on_set h).resolve_left (by decide)), fun h => i2 ((on_set h).resolve_left (by decide)), fun h => i3 ((on_set h).resolve_left (by decide)), (((i5.far (p := ⟨B6, 0, none⟩) (fun h => i56 h h5) _).far (p := ⟨B6, 1, none⟩) (fun h => i56 h h5) _).far (p := ⟨B6, 2, none⟩) (fun h => i56 h h5) _).other (by decide) (by decide), fun _ => ⟨rfl, hB, _, _, _, ((hk6.set 0 _).set 1 _).set 2 _, fun _ => rfl⟩, fun h h2 => i56 ((on_set h).resolve_left (by decide)) ((on_set h2).resolve_left (by decide)), fun h => on_add (i64 ((on_set h).resolve_left (by decide))), fun _ => on_add h5⟩)
  case done =>
    rintro L a' W ⟨hL, x5, x6, x7, x8, x9, x10, B5, B6, rfl, hT, i0, i1, i2, i3, i5, i6, i56, i64, i75⟩ hr
    have hall := reg_done (by kernel_rfl) hL hr
    obtain ⟨rfl, hB5, p0, p1, p2, hk5, hf5⟩ := i5 (on_all hall (by omega))
    obtain ⟨rfl, hB6, q0, q1, q2, hk6, hf6⟩ := i6 (on_all hall (by omega))
    rw [hf5 (on_all hall (by omega))] at hk5
    rw [hf6 (on_all hall (by omega))] at hk6
    have HT := Lib.hid hT
    have HW := Lib.hid (HB0.out.trans (hT.1.mono HB0.out.size))
    obtain ⟨e0, e1, e2, ef⟩ := hk5.c3
    obtain ⟨f0, f1, f2, ff⟩ := hk6.c3
    have hl5 := hk5.lt
    have hl6 := hk6.lt
    clear hT i0 i1 i2 i3 i5 i6 i56 i64 i75 hr hall hL hk5 hk6 hf5 hf6 hva hvb hk
    by_cases h1 : a.nm = b.nm
    rotate_left
    · have H1 := Lib.hid h1
      have h1' := str_ne h1
      clear h1
      go_wp2
      go_ret
      exact ⟨ret_bool (by rw [← RES.out]; simp [H1.out]), HW.out⟩
    have H1 := Lib.hid h1
    rw [h1] at e0
    clear h1
    by_cases h2 : a.fa = b.fa
    rotate_left
    · have H2 := Lib.hid h2
      have h2' : (a.fa == b.fa) = false := by simp [h2]
      clear h2
      go_wp2
      go_ret
      exact ⟨ret_bool (by rw [← RES.out]; simp [H2.out]), HW.out⟩
    have H2 := Lib.hid h2
    rw [h2] at e1
    clear h2
    go_wp2_with fail
    refine (areEqual_any a.ms b.ms _ _ _ (Tr.rd_below HT.out.1 (Nat.le_refl _) _ _ R1.out) (Tr.rd_below HT.out.1 (Nat.le_refl _) _ _ T1.out)).mono ?_
    rintro e w1 ⟨rfl, hb⟩
    have HE := Lib.hid (HW.out.trans (hb.mono HW.out.size))
    clear hb
    go_wp2
    go_ret
    exact ⟨ret_bool (by rw [← RES.out]; simp [H1.out, H2.out]), HE.out⟩
end Go.Proofs.YtnbkiobbacaaiaaGreatDoor
