/- DERIVED. CONTRACTS: impl.parseStep, spec.ParseSteps, impl.ParseSteps. -/
import Derived.Test.YthcbndbfgpeokaaDoorStpF
import Derived.Test.YthcbndbfgpeokaaDoorStpX
import Derived.Test.YthcbndbfgpeokaaDoorPars
namespace Go.Proofs.YthcbndbfgpeokaaDoor
open Go.RowKit

theorem Boxed2.frozen {W : World} {B : Nat} {t : TypeId} {x y : Value} (h : Boxed2 W B t x y) (o : Nat) : W.frozen? ⟨B, o, none⟩ = false := by simp [World.frozen?, show W.heap[B]? = _ from h]
theorem Boxed2.below {W W' : World} {B n : Nat} {t : TypeId} {x y : Value} (h : Boxed2 W B t x y) (hb : Below n W W') (hn : B < n) : Boxed2 W' B t x y := (hb.block B hn).trans h
theorem Boxed2.set {W : World} {B : Nat} {t : TypeId} {x y : Value} (h : Boxed2 W B t x y) (u v : Value) : Boxed2 ((W.setCell ⟨B, 0, none⟩ u).setCell ⟨B, 1, none⟩ v) B t u v := by
  unfold Boxed2 at h ⊢
  simp [World.setCell, Array.getElem?_modify, h]

/-- What parseStep answers. -/
def psI (s : ByteArray) : Pr × Bool := if stTwo s && stOk s then (stN s, true) else ((0, 0), false)
theorem psI_len {s : ByteArray} (h : (splitB s colon).length ≠ 2) : psI s = ((0, 0), false) := by
  have : stTwo s = false := by simp [stTwo, h]
  simp [psI, this]
theorem ends_two {s : ByteArray} (h : (splitB s colon).length = 2) (k : Nat) (hk : k < 2) : (ends s).getD k ⟨#[]⟩ = (splitB s colon)[k]'(by omega) := by
  unfold ends
  rw [getD_l _ (by omega)]
  simp [List.getD, List.getElem?_eq_getElem (show k < (splitB s colon).length by omega)]
theorem psI_two {s : ByteArray} (h : (splitB s colon).length = 2) : psI s = if (parseB ((splitB s colon)[0]'(by omega))).2 && (parseB ((splitB s colon)[1]'(by omega))).2 then (((parseB ((splitB s colon)[0]'(by omega))).1, (parseB ((splitB s colon)[1]'(by omega))).1), true) else ((0, 0), false) := by
  have h2 : stTwo s = true := by simp [stTwo, h]
  unfold psI stOk stN
  rw [h2, ends_two h 0 (by omega), ends_two h 1 (by omega), Bool.true_and]
theorem split_sizes (s b : ByteArray) : ∀ p ∈ splitB s b, p.size ≤ s.size := by
  intro p hp
  unfold splitB at hp
  rcases List.mem_append.1 hp with hp | hp
  · exact spl_sizes s b _ p hp
  · simp at hp
    subst hp
    exact extract_le _ _ _

set_option maxRecDepth 100000 in
set_option maxHeartbeats 2000000 in
theorem parseStep_any (s : ByteArray) (w : World) (hs : s.size ≤ 1099511627776) (ht : TB w) :
    Calls Tryd.prog 31 #[.string s] w fun e w' => e = .returned (.tuple #[.agg #[.int .i64 (psI s).1.1, .int .i64 (psI s).1.2], .bool (psI s).2]) ∧ Below w.heap.size w w' := by
  have HTB := Lib.hid ht
  have b0 := Boxed2.new w 52 (.int .i64 0) (.int .i64 0)
  clear ht
  go_enter Tryd.func31, Tryd.ntmps31
  go_wp2_with fail
  refine (implSplitAny_any s ⟨#[58]⟩ _ hs).mono ?_
  rintro e w1 ⟨v1, rfl, ho1, hb1⟩
  have b1 := b0.below hb1 (by simp)
  have HB1 := Lib.hid (show Below w.heap.size w w1 from ((Below.refl _ w).alloc (Nat.le_refl _) _).trans (hb1.mono (by simp)))
  have hlen := splitB_len s ⟨#[58]⟩
  have hrd := own_rd ho1 (by unfold maxLen; omega)
  obtain ⟨_, A, c, rfl, ha⟩ := hrd
  simp only [List.length_map] at ha ⊢
  have hlt1 := b1.lt
  clear b0 hb1 ho1
  by_cases h2 : (splitB s ⟨#[58]⟩).length = 2
  · have hp := psI_two (s := s) h2
    obtain ⟨p, q, hpq⟩ : ∃ p q, splitB s ⟨#[58]⟩ = [p, q] := by
      match hh : splitB s ⟨#[58]⟩, h2 with
      | [p, q], _ => exact ⟨p, q, rfl⟩
    have hsz := split_sizes s ⟨#[58]⟩
    rw [hpq] at hsz ha ⊢
    have hp' : psI s = if (parseB p).2 && (parseB q).2 then (((parseB p).1, (parseB q).1), true) else ((0, 0), false) := by
      rw [hp]
      simp only [show splitB s colon = [p, q] from hpq]
      rfl
    have HP := Lib.hid hp'
    have hps := hsz p (by simp)
    have hqs := hsz q (by simp)
    rcases ha with ha | ⟨b, o, rfl, hb, hc⟩
    · simp at ha
    have cp : w1.cell? ⟨b, o, none⟩ = some (.string p) := by have := hc 0 (by simp); simpa using this
    have cq : w1.cell? ⟨b, o + 1, none⟩ = some (.string q) := by have := hc 1 (by simp); simpa using this
    have HT1 := Lib.hid (HTB.out.below HB1.out (Nat.le_refl _))
    have HBX := Lib.hid b1
    clear hp hp' hpq hsz hc h2 hlen b1
    go_wp2_with fail
    refine (implParse_any p _ (by unfold maxLen; omega) HT1.out).mono ?_
    rintro e w2 ⟨he2, hb2⟩
    unfold ParRes at he2
    subst he2
    have cq2 := (hb2.cell (p := ⟨b, o + 1, none⟩) hb).trans cq
    have HBX2 := Lib.hid (HBX.out.below hb2 hlt1)
    have HT2 := Lib.hid (HT1.out.below hb2 (Nat.le_refl _))
    have HB2 := Lib.hid (HB1.out.trans (hb2.mono HB1.out.size))
    clear hb2 cp cq
    generalize parseB p = rp at *
    obtain ⟨zp, okp⟩ := rp
    go_wp2_with fail
    refine (implParse_any q _ (by unfold maxLen; omega) HT2.out).mono ?_
    rintro e w3 ⟨he3, hb3⟩
    unfold ParRes at he3
    subst he3
    have HBX3 := Lib.hid (HBX2.out.below hb3 HBX2.out.lt)
    have HB3 := Lib.hid (HB2.out.trans (hb3.mono HB2.out.size))
    clear hb3 cq2
    generalize parseB q = rq at *
    obtain ⟨zq, okq⟩ := rq
    have c0 := HBX3.out.cell0
    have c1 := HBX3.out.cell1
    have f0 := HBX3.out.frozen 0
    have f1 := HBX3.out.frozen 1
    have hlt3 := HBX3.out.lt
    cases okp
    · have HQ := Lib.hid (show psI s = ((0, 0), false) from by rw [HP.out]; rfl)
      have hr := HBX3.out.set (.int .i64 0) (.int .i64 0)
      have r0 := hr.cell0
      have r1 := hr.cell1
      clear hr
      go_wp2
      refine bodyPost_ret (v := .tuple #[.agg #[.int .i64 0, .int .i64 0], .bool false]) (by simp [results, Tryd.results31, go_sem, r0, r1]) rfl ⟨by rw [HQ.out], (HB3.out.setCell (p := ⟨w.heap.size, 0, none⟩) (Nat.le_refl _) _).setCell (p := ⟨w.heap.size, 1, none⟩) (Nat.le_refl _) _⟩
    · cases okq
      · have HQ := Lib.hid (show psI s = ((0, 0), false) from by rw [HP.out]; rfl)
        have hr := HBX3.out.set (.int .i64 0) (.int .i64 0)
        have r0 := hr.cell0
        have r1 := hr.cell1
        clear hr
        go_wp2
        refine bodyPost_ret (v := .tuple #[.agg #[.int .i64 0, .int .i64 0], .bool false]) (by simp [results, Tryd.results31, go_sem, r0, r1]) rfl ⟨by rw [HQ.out], (HB3.out.setCell (p := ⟨w.heap.size, 0, none⟩) (Nat.le_refl _) _).setCell (p := ⟨w.heap.size, 1, none⟩) (Nat.le_refl _) _⟩
      · have HQ := Lib.hid (show psI s = ((zp, zq), true) from by rw [HP.out]; rfl)
        have hr := HBX3.out.set (.int .i64 zp) (.int .i64 zq)
        have r0 := hr.cell0
        have r1 := hr.cell1
        clear hr
        go_wp2
        refine bodyPost_ret (v := .tuple #[.agg #[.int .i64 zp, .int .i64 zq], .bool true]) (by simp [results, Tryd.results31, go_sem, r0, r1]) rfl ⟨by rw [HQ.out], (HB3.out.setCell (p := ⟨w.heap.size, 0, none⟩) (Nat.le_refl _) _).setCell (p := ⟨w.heap.size, 1, none⟩) (Nat.le_refl _) _⟩
  · have HQ := Lib.hid (psI_len (s := s) h2)
    have hn2 : (((splitB s ⟨#[58]⟩).length : Int) != 2) = true := by simp; omega
    have HH := Lib.hid h2
    have c0 := b1.cell0
    have c1 := b1.cell1
    have f0 := b1.frozen 0
    have f1 := b1.frozen 1
    have hr := b1.set (.int .i64 0) (.int .i64 0)
    have r0 := hr.cell0
    have r1 := hr.cell1
    clear hr ha h2 b1
    go_wp2
    refine bodyPost_ret (v := .tuple #[.agg #[.int .i64 0, .int .i64 0], .bool false]) (by simp [results, Tryd.results31, go_sem, r0, r1]) rfl ⟨by rw [HQ.out], (HB1.out.setCell (p := ⟨w.heap.size, 0, none⟩) (Nat.le_refl _) _).setCell (p := ⟨w.heap.size, 1, none⟩) (Nat.le_refl _) _⟩
end Go.Proofs.YthcbndbfgpeokaaDoor
