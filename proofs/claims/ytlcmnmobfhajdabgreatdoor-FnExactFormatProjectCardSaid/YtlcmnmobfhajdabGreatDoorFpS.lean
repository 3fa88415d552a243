/- DERIVED. CONTRACTS of chapter 7: FormatProject of the model. -/
import Derived.Test.YtlcmnmobfhajdabGreatDoorFpI
import Derived.Test.YtlcmnmobfhajdabGreatDoorPrD
namespace Go.Proofs.YtlcmnmobfhajdabGreatDoor
open Go.RowKit Go.Shelf
set_option linter.unusedVariables false

def rsWs : ByteArray := ⟨#[114, 101, 115, 111, 117, 114, 99, 101, 32]⟩
def acWs : ByteArray := ⟨#[97, 99, 116, 105, 118, 105, 116, 121, 32]⟩
def dlWs : ByteArray := ⟨#[100, 101, 97, 100, 108, 105, 110, 101, 32]⟩
def stWs : ByteArray := ⟨#[115, 116, 111, 99, 107, 32]⟩
def lkWs (fe : Bool) : ByteArray := if fe = true then ⟨#[101, 110, 100, 32]⟩ else ⟨#[115, 116, 97, 114, 116, 32]⟩
theorem rsWs_eq : rsWs = rsWd ++ spB := by decide
theorem acWs_eq : acWs = acWd ++ spB := by decide
theorem dlWs_eq : dlWs = dlWd ++ spB := by decide
theorem stWs_eq : stWs = stWd ++ spB := by decide
theorem lkWs_eq (fe : Bool) : lkWs fe = lkWd fe ++ spB := by cases fe <;> decide
theorem int_one (l : List Int) : ∀ u ∈ l.map (Value.int .i64), u.oneCell' = true := fun u hu => by
  obtain ⟨c, _, rfl⟩ := List.mem_map.1 hu
  rfl

set_option maxRecDepth 100000 in
set_option maxHeartbeats 8000000 in
theorem specLink_any (p : Pj) (l : Lk) (v : Value) (w : World) (hp : pokB p = true) (hl : lokB p.acts.length l = true) (hv : (trPj p).rd w v) :
    Calls Tryz.prog 23 #[v, .agg #[.int .i64 l.fr, .int .i64 l.to, .bool l.fe, .int .i64 l.lag]] w fun e w' => e = .returned (.string (lkLine p l)) ∧ Below w.heap.size w w' := by
  obtain ⟨A1, c1, A2, c2, A3, c3, A4, c4, rfl, r1, _⟩ := rdProject_t hv
  obtain ⟨hl1, B1, d1, he, g1⟩ := rdActivityS_t r1
  injection he with he _ he2
  subst he he2
  obtain ⟨⟨a, ha, han⟩, ⟨b, hb, hbn⟩, hg1, hg2⟩ := lok_parts hl
  have hna := nmA_small hp a
  have hnb := nmA_small hp b
  have HR := Lib.hid (show lkWs l.fe ++ nmA p l.fr.toNat ++ spB ++ nmA p l.to.toNat ++ spB ++ fmtB l.lag = lkLine p l from by rw [lkWs_eq]; rfl)
  generalize lkLine p l = res at HR ⊢
  obtain ⟨fr, to, fe, lag⟩ := l
  simp only at ha hb hg1 hg2 HR
  subst ha hb
  rw [Int.toNat_natCast, Int.toNat_natCast] at HR
  obtain ⟨b1, o1, rfl, hb1, hc1⟩ := g1 a han
  obtain ⟨Ma, ma, xa, _, _, _⟩ := hc1 a han
  obtain ⟨Mb, mb, xb, _, _, _⟩ := hc1 b hbn
  rw [← nmA_at han] at xa
  rw [← nmA_at hbn] at xb
  have S0 := Lib.hid (((Sn.start w).box 34 [.int .i64 p.dl, .slice (some ⟨b1, o1, none⟩) p.acts.length c1, .slice A2 p.lks.length c2, .slice A3 p.ress.length c3, .slice A4 p.stk.length c4]).box 62 [.int .i64 (a : Int), .int .i64 (b : Int), .bool fe, .int .i64 lag])
  simp only [World.size_alloc] at S0
  have ya := (S0.out.1.cell (p := ⟨b1, o1 + a * 3, none⟩) hb1).trans xa
  have yb := (S0.out.1.cell (p := ⟨b1, o1 + b * 3, none⟩) hb1).trans xb
  have hbw := Nat.lt_of_lt_of_le hb1 S0.out.1.size
  generalize nmA p a = na at ya hna HR
  generalize nmA p b = nb at yb hnb HR
  have a0 : (0 : Int) ≤ (a : Int) := by omega
  have a1 : (a : Int) < (p.acts.length : Int) := by omega
  have b0 : (0 : Int) ≤ (b : Int) := by omega
  have b2 : (b : Int) < (p.acts.length : Int) := by omega
  have hfl := fmtB_size lag
  clear hv r1 g1 hc1 xa xb hl hp
  go_enter Tryz.func23, Tryz.ntmps23
  obtain ⟨p0, p1, p2, p3, p4, pf⟩ := (S0.out.bk 1 rfl).c5
  obtain ⟨q0, q1, q2, q3, qf⟩ := (S0.out.bk 0 rfl).c4
  have hlp := (S0.out.bk 1 rfl).lt
  have hll := (S0.out.bk 0 rfl).lt
  rcases fe with _ | _
  · have n1 : ¬ 9223372036854775807 < 6 + na.size := by omega
    have n2 : ¬ 9223372036854775807 < 6 + na.size + 1 := by omega
    have n3 : ¬ 9223372036854775807 < 6 + na.size + 1 + nb.size := by omega
    have n4 : ¬ 9223372036854775807 < 6 + na.size + 1 + nb.size + 1 := by omega
    have n5 : ¬ 9223372036854775807 < 6 + na.size + 1 + nb.size + 1 + (fmtB lag).size := by omega
    go_wp2_with fail
    generalize World.alloc (World.alloc w _) _ = w3 at S0 p0 p1 p2 p3 p4 pf q0 q1 q2 q3 qf ya yb hbw hlp hll ⊢
    have S1 := Lib.hid S0.out.drew1
    clear S0
    have CE := Lib.hid (fun (W : World) (h : Wr [] w3.drew W) => show Hid (Wr [] w3.drew W) ∧ W.cell? ⟨w.heap.size, 1, none⟩ = some (.slice (some ⟨b1, o1, none⟩) p.acts.length c1) ∧ W.cell? ⟨w.heap.size + 1, 0, none⟩ = some (.int .i64 (a : Int)) ∧ W.cell? ⟨w.heap.size + 1, 1, none⟩ = some (.int .i64 (b : Int)) ∧ W.cell? ⟨w.heap.size + 1, 3, none⟩ = some (.int .i64 lag) ∧ W.cell? ⟨b1, o1 + a * 3, none⟩ = some (.string na) ∧ W.cell? ⟨b1, o1 + b * 3, none⟩ = some (.string nb) from ⟨Lib.hid h, (wr_cell h (p := ⟨w.heap.size, 1, none⟩) hlp (by simp)).trans (by exact by simpa using p1), (wr_cell h (p := ⟨w.heap.size + 1, 0, none⟩) hll (by simp)).trans (by exact by simpa using q0), (wr_cell h (p := ⟨w.heap.size + 1, 1, none⟩) hll (by simp)).trans (by exact by simpa using q1), (wr_cell h (p := ⟨w.heap.size + 1, 3, none⟩) hll (by simp)).trans (by exact by simpa using q3), (wr_cell h (p := ⟨b1, o1 + a * 3, none⟩) (by show b1 < _; simpa using hbw) (by simp)).trans (by exact by simpa using ya), (wr_cell h (p := ⟨b1, o1 + b * 3, none⟩) (by show b1 < _; simpa using hbw) (by simp)).trans (by exact by simpa using yb)⟩)
    have INIT := Lib.hid (CE.out _ (Wr.refl _ _))
    have KW := Lib.hid (fun (W2 W : World) (hb : Wr [] W W2) (h : Hid (Wr [] w3.drew W) ∧ W.cell? ⟨w.heap.size, 1, none⟩ = some (.slice (some ⟨b1, o1, none⟩) p.acts.length c1) ∧ W.cell? ⟨w.heap.size + 1, 0, none⟩ = some (.int .i64 (a : Int)) ∧ W.cell? ⟨w.heap.size + 1, 1, none⟩ = some (.int .i64 (b : Int)) ∧ W.cell? ⟨w.heap.size + 1, 3, none⟩ = some (.int .i64 lag) ∧ W.cell? ⟨b1, o1 + a * 3, none⟩ = some (.string na) ∧ W.cell? ⟨b1, o1 + b * 3, none⟩ = some (.string nb)) => CE.out W2 (h.1.out.trans hb))
    clear p0 p1 p2 p3 p4 pf q0 q1 q2 q3 qf ya yb
    refine wp_region_held_drew (S := fun W => Hid (Wr [] w3.drew W) ∧ W.cell? ⟨w.heap.size, 1, none⟩ = some (.slice (some ⟨b1, o1, none⟩) p.acts.length c1) ∧ W.cell? ⟨w.heap.size + 1, 0, none⟩ = some (.int .i64 (a : Int)) ∧ W.cell? ⟨w.heap.size + 1, 1, none⟩ = some (.int .i64 (b : Int)) ∧ W.cell? ⟨w.heap.size + 1, 3, none⟩ = some (.int .i64 lag) ∧ W.cell? ⟨b1, o1 + a * 3, none⟩ = some (.string na) ∧ W.cell? ⟨b1, o1 + b * 3, none⟩ = some (.string nb)) (by kernel_rfl) INIT.out (fun hHeld => ?_)
    refine wpAnyH_take (i := 0) (v := ?_) rfl (by kernel_rfl) (by kernel_rfl) (by kernel_rfl) (fun _ _ _ h => h) (Or.inl ⟨by rfl, ?_⟩) (by assumption) ?_
    rotate_left
    · (intro W hSw; (try dsimp only at hSw); go_simp <;> with_reducible rfl)
    (try simp only [Act.put, List.getElem_toArray, List.getElem_cons_zero, List.setIfInBounds_toArray, List.set_cons_succ, List.set_cons_zero])
    refine wpAnyH_take (i := 1) (v := ?_) rfl (by kernel_rfl) (by kernel_rfl) (by kernel_rfl) (fun _ _ _ h => h) (Or.inl ⟨by rfl, ?_⟩) (by assumption) ?_
    rotate_left
    · (intro W hSw; (try dsimp only at hSw); go_simp <;> with_reducible rfl)
    (try simp only [Act.put, List.getElem_toArray, List.getElem_cons_succ, List.getElem_cons_zero, List.setIfInBounds_toArray, List.set_cons_succ, List.set_cons_zero])
    refine wpAnyH_take (i := 2) (v := ?_) rfl (by kernel_rfl) (by kernel_rfl) (by kernel_rfl) (fun _ _ _ h => h) (Or.inl ⟨by rfl, ?_⟩) (by assumption) ?_
    rotate_left
    · (intro W hSw; (try dsimp only at hSw); go_simp <;> with_reducible rfl)
    (try simp only [Act.put, List.getElem_toArray, List.getElem_cons_succ, List.getElem_cons_zero, List.setIfInBounds_toArray, List.set_cons_succ, List.set_cons_zero])
    refine wpAnyH_take (i := 3) (v := ?_) rfl (by kernel_rfl) (by kernel_rfl) (by kernel_rfl) (fun _ _ _ h => h) (Or.inl ⟨by rfl, ?_⟩) (by assumption) ?_
    rotate_left
    · (intro W hSw; (try dsimp only at hSw); go_simp <;> with_reducible rfl)
    (try simp only [Act.put, List.getElem_toArray, List.getElem_cons_succ, List.getElem_cons_zero, List.setIfInBounds_toArray, List.set_cons_succ, List.set_cons_zero])
    refine wpAnyH_take (i := 4) (v := ?_) rfl (by kernel_rfl) (by kernel_rfl) (by kernel_rfl) (fun _ _ _ h => h) (Or.inl ⟨by rfl, ?_⟩) (by assumption) ?_
    rotate_left
    · (intro W hSw; (try dsimp only at hSw); go_simp <;> with_reducible rfl)
    (try simp only [Act.put, List.getElem_toArray, List.getElem_cons_succ, List.getElem_cons_zero, List.setIfInBounds_toArray, List.set_cons_succ, List.set_cons_zero])
    refine wpAnyH_take (i := 5) (v := ?_) rfl (by kernel_rfl) (by kernel_rfl) (by kernel_rfl) (fun _ _ _ h => h) (Or.inl ⟨by rfl, ?_⟩) (by assumption) ?_
    rotate_left
    · (intro W hSw; (try dsimp only at hSw); go_simp <;> with_reducible rfl)
    (try simp only [Act.put, List.getElem_toArray, List.getElem_cons_succ, List.getElem_cons_zero, List.setIfInBounds_toArray, List.set_cons_succ, List.set_cons_zero])
    refine wpAnyH_take (i := 6) (v := ?_) rfl (by kernel_rfl) (by kernel_rfl) (by kernel_rfl) (fun _ _ _ h => h) (Or.inl ⟨by rfl, ?_⟩) (by assumption) ?_
    rotate_left
    · (intro W hSw; (try dsimp only at hSw); go_simp <;> with_reducible rfl)
    (try simp only [Act.put, List.getElem_toArray, List.getElem_cons_succ, List.getElem_cons_zero, List.setIfInBounds_toArray, List.set_cons_succ, List.set_cons_zero])
    refine wpAnyH_take (i := 7) (v := ?_) rfl (by kernel_rfl) (by kernel_rfl) (by kernel_rfl) (fun _ _ _ h => h) (Or.inl ⟨by rfl, ?_⟩) (by assumption) ?_
    rotate_left
    · (intro W hSw; (try dsimp only at hSw); go_simp <;> with_reducible rfl)
    (try simp only [Act.put, List.getElem_toArray, List.getElem_cons_succ, List.getElem_cons_zero, List.setIfInBounds_toArray, List.set_cons_succ, List.set_cons_zero])
    refine wpAnyH_take (i := 8) (v := ?_) rfl (by kernel_rfl) (by kernel_rfl) (by kernel_rfl) (fun _ _ _ h => h) (Or.inl ⟨by rfl, ?_⟩) (by assumption) ?_
    rotate_left
    · (intro W hSw; (try dsimp only at hSw); go_simp <;> with_reducible rfl)
    (try simp only [Act.put, List.getElem_toArray, List.getElem_cons_succ, List.getElem_cons_zero, List.setIfInBounds_toArray, List.set_cons_succ, List.set_cons_zero])
    refine wpAnyH_take (i := 9) (v := ?_) rfl (by kernel_rfl) (by kernel_rfl) (by kernel_rfl) (fun _ _ _ h => h) (Or.inl ⟨by rfl, ?_⟩) (by assumption) ?_
    rotate_left
    · (intro W hSw; (try dsimp only at hSw); go_simp <;> with_reducible rfl)
    (try simp only [Act.put, List.getElem_toArray, List.getElem_cons_succ, List.getElem_cons_zero, List.setIfInBounds_toArray, List.set_cons_succ, List.set_cons_zero])
    refine wpAnyH_take (i := 10) (v := ?_) rfl (by kernel_rfl) (by kernel_rfl) (by kernel_rfl) (fun _ _ _ h => h) (Or.inl ⟨by rfl, ?_⟩) (by assumption) ?_
    rotate_left
    · (intro W hSw; (try dsimp only at hSw); go_simp <;> with_reducible rfl)
    (try simp only [Act.put, List.getElem_toArray, List.getElem_cons_succ, List.getElem_cons_zero, List.setIfInBounds_toArray, List.set_cons_succ, List.set_cons_zero])
    refine wpAnyH_take (i := 11) (v := ?_) rfl (by kernel_rfl) (by kernel_rfl) (by kernel_rfl) (fun _ _ _ h => h) (Or.inl ⟨by rfl, ?_⟩) (by assumption) ?_
    rotate_left
    · (intro W hSw; (try dsimp only at hSw); go_simp <;> with_reducible rfl)
    (try simp only [Act.put, List.getElem_toArray, List.getElem_cons_succ, List.getElem_cons_zero, List.setIfInBounds_toArray, List.set_cons_succ, List.set_cons_zero])
    refine wpAnyH_take (i := 12) (v := ?_) rfl (by kernel_rfl) (by kernel_rfl) (by kernel_rfl) (fun _ _ _ h => h) (Or.inl ⟨by rfl, ?_⟩) (by assumption) ?_
    rotate_left
    · (intro W hSw; (try dsimp only at hSw); go_simp <;> with_reducible rfl)
    (try simp only [Act.put, List.getElem_toArray, List.getElem_cons_succ, List.getElem_cons_zero, List.setIfInBounds_toArray, List.set_cons_succ, List.set_cons_zero])
    refine wpAnyH_take (i := 13) (v := ?_) rfl (by kernel_rfl) (by kernel_rfl) (by kernel_rfl) (fun _ _ _ h => h) (Or.inl ⟨by rfl, ?_⟩) (by assumption) ?_
    rotate_left
    · (intro W hSw; (try dsimp only at hSw); go_simp <;> with_reducible rfl)
    (try simp only [Act.put, List.getElem_toArray, List.getElem_cons_succ, List.getElem_cons_zero, List.setIfInBounds_toArray, List.set_cons_succ, List.set_cons_zero])
    refine wpAnyH_take (i := 14) (v := ?_) rfl (by kernel_rfl) (by kernel_rfl) (by kernel_rfl) (fun _ _ _ h => h) (Or.inl ⟨by rfl, ?_⟩) (by assumption) ?_
    rotate_left
    · (intro W hSw; (try dsimp only at hSw); go_simp <;> with_reducible rfl)
    (try simp only [Act.put, List.getElem_toArray, List.getElem_cons_succ, List.getElem_cons_zero, List.setIfInBounds_toArray, List.set_cons_succ, List.set_cons_zero])
    refine wpAnyH_take (i := 15) (v := ?_) rfl (by kernel_rfl) (by kernel_rfl) (by kernel_rfl) (fun _ _ _ h => h) (Or.inl ⟨by rfl, ?_⟩) (by assumption) ?_
    rotate_left
    · (intro W hSw; (try dsimp only at hSw); go_simp <;> with_reducible rfl)
    (try simp only [Act.put, List.getElem_toArray, List.getElem_cons_succ, List.getElem_cons_zero, List.setIfInBounds_toArray, List.set_cons_succ, List.set_cons_zero])
    refine wpAnyH_take (i := 16) (v := ?_) rfl (by kernel_rfl) (by kernel_rfl) (by kernel_rfl) (fun _ _ _ h => h) (Or.inl ⟨by rfl, ?_⟩) (by assumption) ?_
    rotate_left
    · (intro W hSw; (try dsimp only at hSw); go_simp <;> with_reducible rfl)
    (try simp only [Act.put, List.getElem_toArray, List.getElem_cons_succ, List.getElem_cons_zero, List.setIfInBounds_toArray, List.set_cons_succ, List.set_cons_zero])
    refine wpAnyH_take (i := 17) (v := ?_) rfl (by kernel_rfl) (by kernel_rfl) (by kernel_rfl) (fun _ _ _ h => h) (Or.inl ⟨by rfl, ?_⟩) (by assumption) ?_
    rotate_left
    · (intro W hSw; (try dsimp only at hSw); go_simp <;> with_reducible rfl)
    (try simp only [Act.put, List.getElem_toArray, List.getElem_cons_succ, List.getElem_cons_zero, List.setIfInBounds_toArray, List.set_cons_succ, List.set_cons_zero])
    refine wpAnyH_take (i := 18) (v := ?_) rfl (by kernel_rfl) (by kernel_rfl) (by kernel_rfl) (fun _ _ _ h => h) (Or.inl ⟨by rfl, ?_⟩) (by assumption) ?_
    rotate_left
    · (intro W hSw; (try dsimp only at hSw); go_simp <;> with_reducible rfl)
    (try simp only [Act.put, List.getElem_toArray, List.getElem_cons_succ, List.getElem_cons_zero, List.setIfInBounds_toArray, List.set_cons_succ, List.set_cons_zero])
    refine wpAnyH_take (i := 19) (v := ?_) rfl (by kernel_rfl) (by kernel_rfl) (by kernel_rfl) (fun _ _ _ h => h) (Or.inl ⟨by rfl, ?_⟩) (by assumption) ?_
    rotate_left
    · (intro W hSw; (try dsimp only at hSw); go_simp <;> with_reducible rfl)
    (try simp only [Act.put, List.getElem_toArray, List.getElem_cons_succ, List.getElem_cons_zero, List.setIfInBounds_toArray, List.set_cons_succ, List.set_cons_zero])
    refine wpAnyH_take (i := 20) (v := ?_) rfl (by kernel_rfl) (by kernel_rfl) (by kernel_rfl) (fun _ _ _ h => h) (Or.inl ⟨by rfl, ?_⟩) (by assumption) ?_
    rotate_left
    · (intro W hSw; (try dsimp only at hSw); go_simp <;> with_reducible rfl)
    (try simp only [Act.put, List.getElem_toArray, List.getElem_cons_succ, List.getElem_cons_zero, List.setIfInBounds_toArray, List.set_cons_succ, List.set_cons_zero])
    refine wpAnyH_ready (rs := [21]) (by kernel_rfl) (by simp) ?_
    refine AllReadyH.cons rfl (fun K hK => ?_) AllReadyH.nil
    go_simp
    go_at_call 19
    refine (specFmt_any lag _ (by omega) (by omega)).mono ?_
    rintro e w4 ⟨rfl, bb⟩
    have S2 := Lib.hid (S1.out.go bb)
    (first | done | go_wp2_with fail)
    refine hK.out _ _ (KW.out _ _ (Wr.of_below bb (Nat.le_refl _)) (by assumption)) (fun hHeld21 => ?_)
    clear hK K bb S1
    refine wpAnyH_take (i := 22) (v := ?_) rfl (by kernel_rfl) (by kernel_rfl) (by kernel_rfl) (fun _ _ _ h => h) (Or.inl ⟨by rfl, ?_⟩) (by assumption) ?_
    rotate_left
    · (intro W hSw; (try dsimp only at hSw); go_simp <;> with_reducible rfl)
    (try simp only [Act.put, List.getElem_toArray, List.getElem_cons_succ, List.getElem_cons_zero, List.setIfInBounds_toArray, List.set_cons_succ, List.set_cons_zero])
    refine wpAnyH_take (i := 23) (v := ?_) rfl (by kernel_rfl) (by kernel_rfl) (by kernel_rfl) (fun _ _ _ h => h) (Or.inl ⟨by rfl, ?_⟩) (by assumption) ?_
    rotate_left
    · (intro W hSw; (try dsimp only at hSw); go_simp <;> with_reducible rfl)
    (try simp only [Act.put, List.getElem_toArray, List.getElem_cons_succ, List.getElem_cons_zero, List.setIfInBounds_toArray, List.set_cons_succ, List.set_cons_zero])
    refine wpAnyH_done (by kernel_rfl) ?_ _
    go_wp2
    go_ret
    exact ⟨ret_sP HR.out, S2.out.1⟩
  · have n1 : ¬ 9223372036854775807 < 4 + na.size := by omega
    have n2 : ¬ 9223372036854775807 < 4 + na.size + 1 := by omega
    have n3 : ¬ 9223372036854775807 < 4 + na.size + 1 + nb.size := by omega
    have n4 : ¬ 9223372036854775807 < 4 + na.size + 1 + nb.size + 1 := by omega
    have n5 : ¬ 9223372036854775807 < 4 + na.size + 1 + nb.size + 1 + (fmtB lag).size := by omega
    go_wp2_with fail
    generalize World.alloc (World.alloc w _) _ = w3 at S0 p0 p1 p2 p3 p4 pf q0 q1 q2 q3 qf ya yb hbw hlp hll ⊢
    have S1 := Lib.hid S0.out.drew1
    clear S0
    have CE := Lib.hid (fun (W : World) (h : Wr [] w3.drew W) => show Hid (Wr [] w3.drew W) ∧ W.cell? ⟨w.heap.size, 1, none⟩ = some (.slice (some ⟨b1, o1, none⟩) p.acts.length c1) ∧ W.cell? ⟨w.heap.size + 1, 0, none⟩ = some (.int .i64 (a : Int)) ∧ W.cell? ⟨w.heap.size + 1, 1, none⟩ = some (.int .i64 (b : Int)) ∧ W.cell? ⟨w.heap.size + 1, 3, none⟩ = some (.int .i64 lag) ∧ W.cell? ⟨b1, o1 + a * 3, none⟩ = some (.string na) ∧ W.cell? ⟨b1, o1 + b * 3, none⟩ = some (.string nb) from ⟨Lib.hid h, (wr_cell h (p := ⟨w.heap.size, 1, none⟩) hlp (by simp)).trans (by exact by simpa using p1), (wr_cell h (p := ⟨w.heap.size + 1, 0, none⟩) hll (by simp)).trans (by exact by simpa using q0), (wr_cell h (p := ⟨w.heap.size + 1, 1, none⟩) hll (by simp)).trans (by exact by simpa using q1), (wr_cell h (p := ⟨w.heap.size + 1, 3, none⟩) hll (by simp)).trans (by exact by simpa using q3), (wr_cell h (p := ⟨b1, o1 + a * 3, none⟩) (by show b1 < _; simpa using hbw) (by simp)).trans (by exact by simpa using ya), (wr_cell h (p := ⟨b1, o1 + b * 3, none⟩) (by show b1 < _; simpa using hbw) (by simp)).trans (by exact by simpa using yb)⟩)
    have INIT := Lib.hid (CE.out _ (Wr.refl _ _))
    have KW := Lib.hid (fun (W2 W : World) (hb : Wr [] W W2) (h : Hid (Wr [] w3.drew W) ∧ W.cell? ⟨w.heap.size, 1, none⟩ = some (.slice (some ⟨b1, o1, none⟩) p.acts.length c1) ∧ W.cell? ⟨w.heap.size + 1, 0, none⟩ = some (.int .i64 (a : Int)) ∧ W.cell? ⟨w.heap.size + 1, 1, none⟩ = some (.int .i64 (b : Int)) ∧ W.cell? ⟨w.heap.size + 1, 3, none⟩ = some (.int .i64 lag) ∧ W.cell? ⟨b1, o1 + a * 3, none⟩ = some (.string na) ∧ W.cell? ⟨b1, o1 + b * 3, none⟩ = some (.string nb)) => CE.out W2 (h.1.out.trans hb))
    clear p0 p1 p2 p3 p4 pf q0 q1 q2 q3 qf ya yb
    refine wp_region_held_drew (S := fun W => Hid (Wr [] w3.drew W) ∧ W.cell? ⟨w.heap.size, 1, none⟩ = some (.slice (some ⟨b1, o1, none⟩) p.acts.length c1) ∧ W.cell? ⟨w.heap.size + 1, 0, none⟩ = some (.int .i64 (a : Int)) ∧ W.cell? ⟨w.heap.size + 1, 1, none⟩ = some (.int .i64 (b : Int)) ∧ W.cell? ⟨w.heap.size + 1, 3, none⟩ = some (.int .i64 lag) ∧ W.cell? ⟨b1, o1 + a * 3, none⟩ = some (.string na) ∧ W.cell? ⟨b1, o1 + b * 3, none⟩ = some (.string nb)) (by kernel_rfl) INIT.out (fun hHeld => ?_)
    refine wpAnyH_take (i := 0) (v := ?_) rfl (by kernel_rfl) (by kernel_rfl) (by kernel_rfl) (fun _ _ _ h => h) (Or.inl ⟨by rfl, ?_⟩) (by assumption) ?_
    rotate_left
    · (intro W hSw; (try dsimp only at hSw); go_simp <;> with_reducible rfl)
    (try simp only [Act.put, List.getElem_toArray, List.getElem_cons_zero, List.setIfInBounds_toArray, List.set_cons_succ, List.set_cons_zero])
    refine wpAnyH_take (i := 1) (v := ?_) rfl (by kernel_rfl) (by kernel_rfl) (by kernel_rfl) (fun _ _ _ h => h) (Or.inl ⟨by rfl, ?_⟩) (by assumption) ?_
    rotate_left
    · (intro W hSw; (try dsimp only at hSw); go_simp <;> with_reducible rfl)
    (try simp only [Act.put, List.getElem_toArray, List.getElem_cons_succ, List.getElem_cons_zero, List.setIfInBounds_toArray, List.set_cons_succ, List.set_cons_zero])
    refine wpAnyH_take (i := 2) (v := ?_) rfl (by kernel_rfl) (by kernel_rfl) (by kernel_rfl) (fun _ _ _ h => h) (Or.inl ⟨by rfl, ?_⟩) (by assumption) ?_
    rotate_left
    · (intro W hSw; (try dsimp only at hSw); go_simp <;> with_reducible rfl)
    (try simp only [Act.put, List.getElem_toArray, List.getElem_cons_succ, List.getElem_cons_zero, List.setIfInBounds_toArray, List.set_cons_succ, List.set_cons_zero])
    refine wpAnyH_take (i := 3) (v := ?_) rfl (by kernel_rfl) (by kernel_rfl) (by kernel_rfl) (fun _ _ _ h => h) (Or.inl ⟨by rfl, ?_⟩) (by assumption) ?_
    rotate_left
    · (intro W hSw; (try dsimp only at hSw); go_simp <;> with_reducible rfl)
    (try simp only [Act.put, List.getElem_toArray, List.getElem_cons_succ, List.getElem_cons_zero, List.setIfInBounds_toArray, List.set_cons_succ, List.set_cons_zero])
    refine wpAnyH_take (i := 4) (v := ?_) rfl (by kernel_rfl) (by kernel_rfl) (by kernel_rfl) (fun _ _ _ h => h) (Or.inl ⟨by rfl, ?_⟩) (by assumption) ?_
    rotate_left
    · (intro W hSw; (try dsimp only at hSw); go_simp <;> with_reducible rfl)
    (try simp only [Act.put, List.getElem_toArray, List.getElem_cons_succ, List.getElem_cons_zero, List.setIfInBounds_toArray, List.set_cons_succ, List.set_cons_zero])
    refine wpAnyH_take (i := 5) (v := ?_) rfl (by kernel_rfl) (by kernel_rfl) (by kernel_rfl) (fun _ _ _ h => h) (Or.inl ⟨by rfl, ?_⟩) (by assumption) ?_
    rotate_left
    · (intro W hSw; (try dsimp only at hSw); go_simp <;> with_reducible rfl)
    (try simp only [Act.put, List.getElem_toArray, List.getElem_cons_succ, List.getElem_cons_zero, List.setIfInBounds_toArray, List.set_cons_succ, List.set_cons_zero])
    refine wpAnyH_take (i := 6) (v := ?_) rfl (by kernel_rfl) (by kernel_rfl) (by kernel_rfl) (fun _ _ _ h => h) (Or.inl ⟨by rfl, ?_⟩) (by assumption) ?_
    rotate_left
    · (intro W hSw; (try dsimp only at hSw); go_simp <;> with_reducible rfl)
    (try simp only [Act.put, List.getElem_toArray, List.getElem_cons_succ, List.getElem_cons_zero, List.setIfInBounds_toArray, List.set_cons_succ, List.set_cons_zero])
    refine wpAnyH_take (i := 7) (v := ?_) rfl (by kernel_rfl) (by kernel_rfl) (by kernel_rfl) (fun _ _ _ h => h) (Or.inl ⟨by rfl, ?_⟩) (by assumption) ?_
    rotate_left
    · (intro W hSw; (try dsimp only at hSw); go_simp <;> with_reducible rfl)
    (try simp only [Act.put, List.getElem_toArray, List.getElem_cons_succ, List.getElem_cons_zero, List.setIfInBounds_toArray, List.set_cons_succ, List.set_cons_zero])
    refine wpAnyH_take (i := 8) (v := ?_) rfl (by kernel_rfl) (by kernel_rfl) (by kernel_rfl) (fun _ _ _ h => h) (Or.inl ⟨by rfl, ?_⟩) (by assumption) ?_
    rotate_left
    · (intro W hSw; (try dsimp only at hSw); go_simp <;> with_reducible rfl)
    (try simp only [Act.put, List.getElem_toArray, List.getElem_cons_succ, List.getElem_cons_zero, List.setIfInBounds_toArray, List.set_cons_succ, List.set_cons_zero])
    refine wpAnyH_take (i := 9) (v := ?_) rfl (by kernel_rfl) (by kernel_rfl) (by kernel_rfl) (fun _ _ _ h => h) (Or.inl ⟨by rfl, ?_⟩) (by assumption) ?_
    rotate_left
    · (intro W hSw; (try dsimp only at hSw); go_simp <;> with_reducible rfl)
    (try simp only [Act.put, List.getElem_toArray, List.getElem_cons_succ, List.getElem_cons_zero, List.setIfInBounds_toArray, List.set_cons_succ, List.set_cons_zero])
    refine wpAnyH_take (i := 10) (v := ?_) rfl (by kernel_rfl) (by kernel_rfl) (by kernel_rfl) (fun _ _ _ h => h) (Or.inl ⟨by rfl, ?_⟩) (by assumption) ?_
    rotate_left
    · (intro W hSw; (try dsimp only at hSw); go_simp <;> with_reducible rfl)
    (try simp only [Act.put, List.getElem_toArray, List.getElem_cons_succ, List.getElem_cons_zero, List.setIfInBounds_toArray, List.set_cons_succ, List.set_cons_zero])
    refine wpAnyH_take (i := 11) (v := ?_) rfl (by kernel_rfl) (by kernel_rfl) (by kernel_rfl) (fun _ _ _ h => h) (Or.inl ⟨by rfl, ?_⟩) (by assumption) ?_
    rotate_left
    · (intro W hSw; (try dsimp only at hSw); go_simp <;> with_reducible rfl)
    (try simp only [Act.put, List.getElem_toArray, List.getElem_cons_succ, List.getElem_cons_zero, List.setIfInBounds_toArray, List.set_cons_succ, List.set_cons_zero])
    refine wpAnyH_take (i := 12) (v := ?_) rfl (by kernel_rfl) (by kernel_rfl) (by kernel_rfl) (fun _ _ _ h => h) (Or.inl ⟨by rfl, ?_⟩) (by assumption) ?_
    rotate_left
    · (intro W hSw; (try dsimp only at hSw); go_simp <;> with_reducible rfl)
    (try simp only [Act.put, List.getElem_toArray, List.getElem_cons_succ, List.getElem_cons_zero, List.setIfInBounds_toArray, List.set_cons_succ, List.set_cons_zero])
    refine wpAnyH_take (i := 13) (v := ?_) rfl (by kernel_rfl) (by kernel_rfl) (by kernel_rfl) (fun _ _ _ h => h) (Or.inl ⟨by rfl, ?_⟩) (by assumption) ?_
    rotate_left
    · (intro W hSw; (try dsimp only at hSw); go_simp <;> with_reducible rfl)
    (try simp only [Act.put, List.getElem_toArray, List.getElem_cons_succ, List.getElem_cons_zero, List.setIfInBounds_toArray, List.set_cons_succ, List.set_cons_zero])
    refine wpAnyH_take (i := 14) (v := ?_) rfl (by kernel_rfl) (by kernel_rfl) (by kernel_rfl) (fun _ _ _ h => h) (Or.inl ⟨by rfl, ?_⟩) (by assumption) ?_
    rotate_left
    · (intro W hSw; (try dsimp only at hSw); go_simp <;> with_reducible rfl)
    (try simp only [Act.put, List.getElem_toArray, List.getElem_cons_succ, List.getElem_cons_zero, List.setIfInBounds_toArray, List.set_cons_succ, List.set_cons_zero])
    refine wpAnyH_take (i := 15) (v := ?_) rfl (by kernel_rfl) (by kernel_rfl) (by kernel_rfl) (fun _ _ _ h => h) (Or.inl ⟨by rfl, ?_⟩) (by assumption) ?_
    rotate_left
    · (intro W hSw; (try dsimp only at hSw); go_simp <;> with_reducible rfl)
    (try simp only [Act.put, List.getElem_toArray, List.getElem_cons_succ, List.getElem_cons_zero, List.setIfInBounds_toArray, List.set_cons_succ, List.set_cons_zero])
    refine wpAnyH_take (i := 16) (v := ?_) rfl (by kernel_rfl) (by kernel_rfl) (by kernel_rfl) (fun _ _ _ h => h) (Or.inl ⟨by rfl, ?_⟩) (by assumption) ?_
    rotate_left
    · (intro W hSw; (try dsimp only at hSw); go_simp <;> with_reducible rfl)
    (try simp only [Act.put, List.getElem_toArray, List.getElem_cons_succ, List.getElem_cons_zero, List.setIfInBounds_toArray, List.set_cons_succ, List.set_cons_zero])
    refine wpAnyH_take (i := 17) (v := ?_) rfl (by kernel_rfl) (by kernel_rfl) (by kernel_rfl) (fun _ _ _ h => h) (Or.inl ⟨by rfl, ?_⟩) (by assumption) ?_
    rotate_left
    · (intro W hSw; (try dsimp only at hSw); go_simp <;> with_reducible rfl)
    (try simp only [Act.put, List.getElem_toArray, List.getElem_cons_succ, List.getElem_cons_zero, List.setIfInBounds_toArray, List.set_cons_succ, List.set_cons_zero])
    refine wpAnyH_take (i := 18) (v := ?_) rfl (by kernel_rfl) (by kernel_rfl) (by kernel_rfl) (fun _ _ _ h => h) (Or.inl ⟨by rfl, ?_⟩) (by assumption) ?_
    rotate_left
    · (intro W hSw; (try dsimp only at hSw); go_simp <;> with_reducible rfl)
    (try simp only [Act.put, List.getElem_toArray, List.getElem_cons_succ, List.getElem_cons_zero, List.setIfInBounds_toArray, List.set_cons_succ, List.set_cons_zero])
    refine wpAnyH_take (i := 19) (v := ?_) rfl (by kernel_rfl) (by kernel_rfl) (by kernel_rfl) (fun _ _ _ h => h) (Or.inl ⟨by rfl, ?_⟩) (by assumption) ?_
    rotate_left
    · (intro W hSw; (try dsimp only at hSw); go_simp <;> with_reducible rfl)
    (try simp only [Act.put, List.getElem_toArray, List.getElem_cons_succ, List.getElem_cons_zero, List.setIfInBounds_toArray, List.set_cons_succ, List.set_cons_zero])
    refine wpAnyH_take (i := 20) (v := ?_) rfl (by kernel_rfl) (by kernel_rfl) (by kernel_rfl) (fun _ _ _ h => h) (Or.inl ⟨by rfl, ?_⟩) (by assumption) ?_
    rotate_left
    · (intro W hSw; (try dsimp only at hSw); go_simp <;> with_reducible rfl)
    (try simp only [Act.put, List.getElem_toArray, List.getElem_cons_succ, List.getElem_cons_zero, List.setIfInBounds_toArray, List.set_cons_succ, List.set_cons_zero])
    refine wpAnyH_ready (rs := [21]) (by kernel_rfl) (by simp) ?_
    refine AllReadyH.cons rfl (fun K hK => ?_) AllReadyH.nil
    go_simp
    go_at_call 19
    refine (specFmt_any lag _ (by omega) (by omega)).mono ?_
    rintro e w4 ⟨rfl, bb⟩
    have S2 := Lib.hid (S1.out.go bb)
    (first | done | go_wp2_with fail)
    refine hK.out _ _ (KW.out _ _ (Wr.of_below bb (Nat.le_refl _)) (by assumption)) (fun hHeld21 => ?_)
    clear hK K bb S1
    refine wpAnyH_take (i := 22) (v := ?_) rfl (by kernel_rfl) (by kernel_rfl) (by kernel_rfl) (fun _ _ _ h => h) (Or.inl ⟨by rfl, ?_⟩) (by assumption) ?_
    rotate_left
    · (intro W hSw; (try dsimp only at hSw); go_simp <;> with_reducible rfl)
    (try simp only [Act.put, List.getElem_toArray, List.getElem_cons_succ, List.getElem_cons_zero, List.setIfInBounds_toArray, List.set_cons_succ, List.set_cons_zero])
    refine wpAnyH_take (i := 23) (v := ?_) rfl (by kernel_rfl) (by kernel_rfl) (by kernel_rfl) (fun _ _ _ h => h) (Or.inl ⟨by rfl, ?_⟩) (by assumption) ?_
    rotate_left
    · (intro W hSw; (try dsimp only at hSw); go_simp <;> with_reducible rfl)
    (try simp only [Act.put, List.getElem_toArray, List.getElem_cons_succ, List.getElem_cons_zero, List.setIfInBounds_toArray, List.set_cons_succ, List.set_cons_zero])
    refine wpAnyH_done (by kernel_rfl) ?_ _
    go_wp2
    go_ret
    exact ⟨ret_sP HR.out, S2.out.1⟩

set_option maxRecDepth 100000 in
set_option maxHeartbeats 8000000 in
theorem specFormatProject_any (p : Pj) (v : Value) (w : World) (hv : (trPj p).rd w v) (hk : (trPj p).ok) :
    Calls Tryz.prog 6 #[v] w fun e w' => e = .returned (.string (fmtPj p)) ∧ Below w.heap.size w w' := by
  have HK := Lib.hid hk
  have HV := Lib.hid hv
  have HNO := Lib.hid (@fmtPj_no p)
  have HY := Lib.hid (@fmtPj_yes p)
  generalize fmtPj p = res at HNO HY ⊢
  obtain ⟨A1, c1, A2, c2, A3, c3, A4, c4, rfl, r1, r2, r3, r4⟩ := rdProject_t hv
  obtain ⟨hl1, B1, d1, he, g1⟩ := rdActivityS_t r1
  injection he with he _ he2
  subst he he2
  obtain ⟨hl2, B2, d2, he, g2⟩ := rdLinkS_t r2
  injection he with he _ he2
  subst he he2
  obtain ⟨hl3, B3, d3, he, g3⟩ := rdResourceS_t r3
  injection he with he _ he2
  subst he he2
  obtain ⟨hl4, B4, d4, he, g4⟩ := rdI (rd_flat r4)
  injection he with he _ he2
  subst he he2
  have G1 := Lib.hid g1
  have G2 := Lib.hid g2
  have G3 := Lib.hid g3
  have G4 := Lib.hid g4
  clear hv hk r1 r2 r3 r4 g1 g2 g3 g4
  have S0 := Lib.hid ((Sn.start w).box 34 [.int .i64 p.dl, .slice A1 p.acts.length c1, .slice A2 p.lks.length c2, .slice A3 p.ress.length c3, .slice A4 p.stk.length c4])
  obtain ⟨i0, hi0, hz0, hz1, hz2⟩ := info_parts infoString
  obtain ⟨i1, hi1, hy0, hy1, hy2⟩ := info_parts infoInt
  go_enter Tryz.func6, Tryz.ntmps6
  obtain ⟨e0, e1, e2, e3, e4, ef⟩ := (S0.out.bk 0 rfl).c5
  go_wp2_with fail
  clear e0 e1 e2 e3 e4 ef
  refine (specProjectOk_any p _ _ (by exact S0.out.old HV.out) HK.out).mono ?_
  rintro e w1 ⟨rfl, b⟩
  have S1 := Lib.hid (S0.out.go b)
  clear S0 b
  rcases hp : pokB p with _ | _
  · have H := Lib.hid (HNO.out hp)
    clear hp
    go_wp2
    go_ret
    exact ⟨ret_sP H.out.symm, S1.out.1⟩
  have HP := Lib.hid hp
  have HR := Lib.hid (HY.out hp)
  have hq := hp
  simp only [pokB, Bool.and_eq_true, decide_eq_true_eq, List.all_eq_true] at hq
  have hdl := inB_iff.1 hq.1
  have hna := inB_iff.1 hq.2.1
  have hnr := hq.2.2.1
  have hns := hq.2.2.2.1
  have hnl := hq.2.2.2.2.1
  have HRS := Lib.hid hq.2.2.2.2.2.2.2.1
  have HSK := Lib.hid (fun n hn => inB_iff.1 (hq.2.2.2.2.2.2.2.2.1 n hn))
  have HLK := Lib.hid hq.2.2.2.2.2.2.2.2.2
  have HTOT := Lib.hid (lines_tot hp p.lks.length)
  clear hp hq HNO HY
  have hfd := fmtB_size p.dl
  have hcd : ¬ 9223372036854775807 < 9 + (fmtB p.dl).size := by omega
  have J1 := Lib.hid (show (⟨#[100, 101, 97, 100, 108, 105, 110, 101, 32]⟩ : ByteArray) ++ fmtB p.dl = dlLine p from by show dlWs ++ fmtB p.dl = _; rw [dlWs_eq]; rfl)
  obtain ⟨e0, e1, e2, e3, e4, ef⟩ := (S1.out.bk 0 rfl).c5
  go_wp2_with fail
  clear e0 e1 e2 e3 e4 ef
  refine (specFmt_any p.dl _ (by omega) (by omega)).mono ?_
  rintro e w3 ⟨rfl, b⟩
  have S3 := Lib.hid (S1.out.go b)
  clear S1 b
  have S4 := Lib.hid (show Sn w _ (⟨flat 9 ((linesR p 0).map .string), .slice (some ⟨w3.heap.size, 0, none⟩) 1 1, [w3.heap.size]⟩ :: _) from by rw [linesR_0, ← J1.out]; exact S3.out.newRow 9 [.string (⟨#[100, 101, 97, 100, 108, 105, 110, 101, 32]⟩ ++ fmtB p.dl)] (by simp [maxLen]))
  obtain ⟨e0, e1, e2, e3, e4, ef⟩ := (S3.out.bk 0 rfl).c5
  have hlp := (S3.out.bk 0 rfl).lt
  clear S3
  go_wp2
  clear e0 e1 e2 e3 e4 ef
  clear hlp hcd
  go_loopw [3, 30] (fun u i wr => ∃ (k : Nat) (F : List Nat), k ≤ p.ress.length ∧ i = .int .i64 k ∧ Sn w wr [⟨flat 9 ((linesR p k).map .string), u, F⟩, boxI w.heap.size 34 [.int .i64 p.dl, .slice A1 p.acts.length c1, .slice A2 p.lks.length c2, .slice A3 p.ress.length c3, .slice A4 p.stk.length c4]]) (fun _ i _ => p.ress.length - (intOf i).toNat)
  case atStart => exact ⟨0, _, Nat.zero_le _, rfl, S4.out⟩
  case round =>
    obtain ⟨k, F, hkl, rfl, hS⟩ := hrel
    have T1 := Lib.hid hS
    clear hS S4
    obtain ⟨_, U, cu, hu, _⟩ := rd_flat (T1.out.rd 0 rfl)
    rw [List.length_map] at hu
    subst hu
    by_cases hlt : k < p.ress.length
    · have hlt' : (k : Int) < (p.ress.length : Int) := by omega
      have k0 : (0 : Int) ≤ (k : Int) := by omega
      have KSK := Lib.hid (linesR_succ (p := p) hlt)
      have hkn := linesR_len p k
      obtain ⟨b3, o3, rfl, hb3, hc3⟩ := G3.out k hlt
      obtain ⟨M0, m0, M1, m1, x0, x1, ru, rc⟩ := hc3 k hlt
      have y0 := (T1.out.1.cell (p := ⟨b3, o3 + k * 2, none⟩) hb3).trans x0
      have y1 := (T1.out.1.cell (p := ⟨b3, o3 + k * 2 + 1, none⟩) hb3).trans x1
      have hrk := HRS.out _ (List.getElem_mem hlt)
      have RU := Lib.hid (rdP_st ru)
      have RC := Lib.hid (rdIntSS_t rc)
      have hrz := rsLine_size hrk
      have Z0 := Lib.hid (fun h : p.ress[k].su.length = 0 => show (⟨#[114, 101, 115, 111, 117, 114, 99, 101, 32]⟩ : ByteArray) ++ fmtSteps p.ress[k].st = rsLine p.ress[k] from by rw [rsLine, if_pos h]; show rsWs ++ _ = _; rw [rsWs_eq]; rfl)
      have Z1 := Lib.hid (fun h : ¬ p.ress[k].su.length = 0 => show (⟨#[114, 101, 115, 111, 117, 114, 99, 101, 32]⟩ : ByteArray) ++ fmtSteps p.ress[k].st ++ ⟨#[32]⟩ ++ fmtsB (catB p.ress[k].su) = rsLine p.ress[k] from by rw [rsLine, if_neg h]; show rsWs ++ _ ++ _ ++ _ = _; rw [rsWs_eq]; rfl)
      have hfz := fmtSteps_size (xs := p.ress[k].st)
      simp only [rokB, Bool.and_eq_true, Bool.or_eq_true, decide_eq_true_eq, List.all_eq_true] at hrk
      have h8 := (okP_iff.1 hrk.2.1).2.1
      have HROW := Lib.hid (fun row (hw : row ∈ p.ress[k].su) => (show row.length = 4 ∧ ∀ x ∈ row, 0 ≤ x ∧ x ≤ 12 from by
        have := hrk.1 row hw
        simp only [rowB, Bool.and_eq_true, decide_eq_true_eq, List.all_eq_true] at this
        exact ⟨by omega, fun x hx => inB_iff.1 (this.2 x hx)⟩))
      have hsu : p.ress[k].su.length = 0 ∨ p.ress[k].su.length = 4 := by have := hrk.2.2; omega
      clear x0 x1 ru rc hc3 hrk
      generalize p.ress[k] = r at y0 y1 RU RC Z0 Z1 HROW hsu hrz hfz h8 KSK
      generalize rsLine r = y at KSK Z0 Z1 hrz
      generalize linesR p k = vs at T1 KSK hkn
      have T5 := Lib.hid (T1.out.box 52 [.slice M0 r.st.length m0, .slice M1 r.su.length m1])
      go_wp2_with fail
      clear y0 y1 T1
      refine (specFmtP_any r.st _ _ (RU.out.below T5.out.1 (Nat.le_refl _))).mono ?_
      rintro e w6 ⟨rfl, b⟩
      have T6 := Lib.hid (T5.out.go b)
      clear T5 b
      generalize fmtSteps r.st = fs at Z0 Z1 hfz ⊢
      have n1 : ¬ 9223372036854775807 < 9 + fs.size := by omega
      obtain ⟨z0, z1, zf⟩ := (T6.out.bk 0 rfl).c2
      have hlz := (T6.out.bk 0 rfl).lt
      by_cases hz : r.su.length = 0
      · have HZ := Lib.hid (Z0.out hz)
        have hsz2 : ¬ (0 : Int) < (r.su.length : Int) := by omega
        have T7 := Lib.hid (T6.out.drop 0)
        clear Z0 Z1 T6 hlz
        have OW := Lib.hid (show w6.ownsRow w.heap.size 9 1 (.slice U vs.length cu) vs.length (vs.map .string) from by have := (own_flat (T7.out.own 0 rfl).1).1; rwa [List.length_map] at this)
        have hzs := T7.out.1.size
        go_wp2_with (first | (at_builtin; refine wpList_append_own_at _ rfl (.tmp 59) (.tmp 61) 48 rfl w.heap.size 9 i0 (.string ⟨#[]⟩) 1 16 Tryz.underlying48 hi0 hz0 hz1 hz2 rfl (by decide) _ vs.length (vs.map .string) rfl (by exact OW.out.alloc _) ⟨w6.heap.size, 0, none⟩ 1 1 [.string ((⟨#[114, 101, 115, 111, 117, 114, 99, 101, 32]⟩ : ByteArray) ++ fs)] rfl rfl ?cq11 ?cq12 ?cq13 ?cq14 ?cq15 ?_) | fail)
        try case cq11 => exact new_cell _ _ _
        try case cq12 => simp [Value.oneCell']
        try case cq13 => unfold maxLen; omega
        try case cq14 => omega
        try case cq15 => first | omega | (simp; omega)
        intro v' w8 hown8 hg8 _ hat8
        obtain ⟨F9, h9⟩ := T7.out.appV hown8 hg8 (by simpa using hat8)
        have T9 := Lib.hid h9
        clear hown8 hg8 hat8 h9 OW hzs T7
        rw [HZ.out] at T9
        go_wp2
        go_roundw
        case rel => exact ⟨k + 1, F9, by omega, by go_num, by rw [KSK.out, List.map_append]; exact T9.out⟩
        case measure => simp [intOf]; omega
      · have HZ := Lib.hid (Z1.out hz)
        have hsz2 : (0 : Int) < (r.su.length : Int) := by omega
        have hsn2 : 0 < r.su.length := by omega
        have hsd2 : decide (0 < r.su.length) = true := decide_eq_true hsn2
        have T7 := Lib.hid (show Sn w _ (⟨flat 3 ((catB (r.su.take 0)).map (.int .i64)), .slice (some ⟨w6.heap.size, 0, none⟩) 0 0, [w6.heap.size]⟩ :: _) from (T6.out.emptyN 3 1).drop 1)
        simp only [List.eraseIdx_cons_zero] at T7
        clear Z0 Z1 T6
        go_wp2
        clear z0 z1 zf
        clear hlz
        go_loopw [7, 46] (fun a i wr => ∃ (j : Nat) (G : List Nat), j ≤ r.su.length ∧ i = .int .i64 j ∧ Sn w wr [⟨flat 3 ((catB (r.su.take j)).map (.int .i64)), a, G⟩, ⟨flat 9 (vs.map .string), .slice U vs.length cu, F⟩, boxI w.heap.size 34 [.int .i64 p.dl, .slice A1 p.acts.length c1, .slice A2 p.lks.length c2, .slice (some ⟨b3, o3, none⟩) p.ress.length c3, .slice A4 p.stk.length c4]]) (fun _ i _ => r.su.length - (intOf i).toNat)
        case atStart => exact ⟨0, _, Nat.zero_le _, rfl, T7.out⟩
        case round =>
          obtain ⟨j, G, hjl, rfl, hS⟩ := hrel
          have T10 := Lib.hid hS
          clear hS T7
          have hcl : (catB (r.su.take j)).length ≤ 4 * r.su.length := by
            have : ∀ l : List (List Int), (∀ row ∈ l, row.length = 4) → l.flatten.length = l.length * 4 := by
              intro l
              induction l with
              | nil => intro _; rfl
              | cons x l ih =>
                intro hx
                have := ih fun row hr => hx row (by simp [hr])
                have := hx x (by simp)
                simp only [List.flatten_cons, List.length_append, List.length_cons]
                omega
            have e := this (r.su.take j) fun row hw => (HROW.out row (List.mem_of_mem_take hw)).1
            unfold catB
            rw [List.length_take] at e
            omega
          obtain ⟨_, V, cv, hu, _⟩ := rd_flat (T10.out.rd 0 rfl)
          rw [List.length_map] at hu
          subst hu
          by_cases hlj : j < r.su.length
          · have hlj' : (j : Int) < (r.su.length : Int) := by omega
            have j0 : (0 : Int) ≤ (j : Int) := by omega
            obtain ⟨_, N0, d0, he, gg⟩ := RC.out
            injection he with he _ he2
            subst he he2
            obtain ⟨b5, o5, rfl, hb5, hc5⟩ := gg j hlj
            obtain ⟨P0, q0, x5, r5⟩ := hc5 j hlj
            have y5 := (T10.out.1.cell (p := ⟨b5, o5 + j, none⟩) hb5).trans x5
            have hrw := HROW.out _ (List.getElem_mem hlj)
            have CT := Lib.hid (cat_take hlj)
            have NO := Lib.hid (trI_nilOk r5 hrw.1)
            have RD := Lib.hid ((rd_flat r5).below T10.out.1 (Nat.le_refl _))
            have HR4 := Lib.hid hrw.1
            clear x5 r5 hc5 gg hrw
            generalize r.su[j] = row at y5 CT NO RD HR4
            generalize catB (r.su.take j) = cs at T10 CT hcl
            have OW := Lib.hid (show wr.ownsRow w.heap.size 3 1 (.slice V cs.length cv) (cs.map (Value.int .i64)).length (cs.map (.int .i64)) from (own_flat (T10.out.own 0 rfl).1).1)
            have hz' := T10.out.1.size
            go_wp2_with (first | (at_builtin; go_loud (refine app_rdV rfl (.tmp 50) (.tmp 51) 25 3 i1 (.int .i64 0) 8 rfl Tryz.underlying25 hi1 hy0 hy1 hy2 rfl (by decide) w.heap.size _ _ (cs.map (.int .i64)) (row.map (.int .i64)) rfl rfl (by exact OW.out) (by exact RD.out) (int_one row) NO.out (by rw [List.length_map, List.length_map]; have := HR4.out; omega) hz' ?_)) | fail)
            intro v' w8 hown8 hg8 hat8
            obtain ⟨G9, h9⟩ := (show Sn w wr (⟨flatN 3 1 (cs.map (Value.int .i64)).length (cs.map (.int .i64)), .slice V cs.length cv, G⟩ :: _) from T10.out).appN (Below.refl _ _) hown8 hg8 hat8
            rw [show flatN 3 1 (cs.length + row.length) (cs.map (Value.int .i64) ++ row.map (.int .i64)) = flat 3 (cs.map (.int .i64) ++ row.map (.int .i64)) from by unfold flatN flat; rw [List.length_append, List.length_map, List.length_map]] at h9
            have T11 := Lib.hid (show Sn w w8 (⟨flat 3 ((catB (r.su.take (j + 1))).map (.int .i64)), v', G9⟩ :: _) from by rw [CT.out, List.map_append]; exact h9)
            clear hown8 hg8 hat8 h9 OW T10 RD NO y5
            go_wp2
            go_roundw
            case rel => exact ⟨j + 1, G9, by omega, by go_num, T11.out⟩
            case measure => simp [intOf]; omega
          · have hgj : ¬ (j : Int) < (r.su.length : Int) := by omega
            obtain rfl : j = r.su.length := by omega
            rw [List.take_length] at T10 hcl
            have hcr : ∀ n ∈ catB r.su, -9223372036854775808 ≤ n ∧ n ≤ 9223372036854775807 := fun n hn => by
              unfold catB at hn
              obtain ⟨row, hw, hx⟩ := List.mem_flatten.1 hn
              have := (HROW.out row hw).2 n hx
              omega
            have HCR := Lib.hid hcr
            clear hcr
            rw [List.take_length]
            go_wp2_with fail
            refine (specFmts_any (catB r.su) _ _ (by first | exact rd_flat (T10.out.rd 0 rfl) | simpa using rd_flat (T10.out.rd 0 rfl)) (by omega) HCR.out).mono ?_
            rintro e w7 ⟨rfl, b⟩
            have T12 := Lib.hid ((T10.out.go b).drop 0)
            clear T10 b
            have hfs2 := fmts_size (catB r.su)
            generalize fmtsB (catB r.su) = fz at HZ hfs2 ⊢
            have n2 : ¬ 9223372036854775807 < 9 + fs.size + 1 := by omega
            have n3 : ¬ 9223372036854775807 < 9 + fs.size + 1 + fz.size := by omega
            have OW := Lib.hid (show w7.ownsRow w.heap.size 9 1 (.slice U vs.length cu) vs.length (vs.map .string) from by have := (own_flat (T12.out.own 0 rfl).1).1; rwa [List.length_map] at this)
            have hzs := T12.out.1.size
            go_wp2_with (first | (at_builtin; refine wpList_append_own_at _ rfl (.tmp 59) (.tmp 61) 48 rfl w.heap.size 9 i0 (.string ⟨#[]⟩) 1 16 Tryz.underlying48 hi0 hz0 hz1 hz2 rfl (by decide) _ vs.length (vs.map .string) rfl (by exact OW.out.alloc _) ⟨w7.heap.size, 0, none⟩ 1 1 [.string ((⟨#[114, 101, 115, 111, 117, 114, 99, 101, 32]⟩ : ByteArray) ++ fs ++ ⟨#[32]⟩ ++ fz)] rfl rfl ?cq21 ?cq22 ?cq23 ?cq24 ?cq25 ?_) | fail)
            try case cq21 => exact new_cell _ _ _
            try case cq22 => simp [Value.oneCell']
            try case cq23 => unfold maxLen; omega
            try case cq24 => omega
            try case cq25 => first | omega | (simp; omega)
            intro v' w8 hown8 hg8 _ hat8
            obtain ⟨F9, h9⟩ := T12.out.appV hown8 hg8 (by simpa using hat8)
            have T9 := Lib.hid h9
            clear hown8 hg8 hat8 h9 OW hzs T12
            rw [HZ.out] at T9
            go_wp2
            go_roundw
            case rel => exact ⟨k + 1, F9, by omega, by go_num, by rw [KSK.out, List.map_append]; exact T9.out⟩
            case measure => simp [intOf]; omega
    · have hge : ¬ (k : Int) < (p.ress.length : Int) := by omega
      obtain rfl : k = p.ress.length := by omega
      have S5 := Lib.hid (show Sn w wr (⟨flat 9 ((linesS p 0).map .string), _, F⟩ :: _) from by rw [linesS_0]; exact T1.out)
      obtain ⟨e0, e1, e2, e3, e4, ef⟩ := (T1.out.bk 1 rfl).c5
      clear T1
      go_wp2
      clear e0 e1 e2 e3 e4 ef
      go_loopw [3, 67] (fun u i wr => ∃ (k : Nat) (F : List Nat), k ≤ p.stk.length ∧ i = .int .i64 k ∧ Sn w wr [⟨flat 9 ((linesS p k).map .string), u, F⟩, boxI w.heap.size 34 [.int .i64 p.dl, .slice A1 p.acts.length c1, .slice A2 p.lks.length c2, .slice A3 p.ress.length c3, .slice A4 p.stk.length c4]]) (fun _ i _ => p.stk.length - (intOf i).toNat)
      case atStart => exact ⟨0, _, Nat.zero_le _, rfl, S5.out⟩
      case round =>
        obtain ⟨k, F, hkl, rfl, hS⟩ := hrel
        have T1 := Lib.hid hS
        clear hS S5
        obtain ⟨_, U, cu, hu, _⟩ := rd_flat (T1.out.rd 0 rfl)
        rw [List.length_map] at hu
        subst hu
        by_cases hlt : k < p.stk.length
        · have hlt' : (k : Int) < (p.stk.length : Int) := by omega
          have k0 : (0 : Int) ≤ (k : Int) := by omega
          have KSK := Lib.hid (linesS_succ (p := p) hlt)
          have hkn := linesS_len p k
          obtain ⟨b3, o3, rfl, hb3, hc3⟩ := G4.out k hlt
          have y0 := (T1.out.1.cell (p := ⟨b3, o3 + k, none⟩) hb3).trans (hc3 k hlt)
          have HM := HSK.out _ (List.getElem_mem hlt)
          have J2 := Lib.hid (show (⟨#[115, 116, 111, 99, 107, 32]⟩ : ByteArray) ++ fmtB p.stk[k] = stLine p.stk[k] from by show stWs ++ _ = _; rw [stWs_eq]; rfl)
          have hfs := fmtB_size p.stk[k]
          have n1 : ¬ 9223372036854775807 < 6 + (fmtB p.stk[k]).size := by omega
          clear hc3
          generalize p.stk[k] = n at y0 HM KSK J2 hfs n1
          generalize linesS p k = vs at T1 KSK hkn
          go_wp2_with fail
          clear y0
          refine (specFmt_any n _ (by omega) (by omega)).mono ?_
          rintro e w6 ⟨rfl, b⟩
          have T6 := Lib.hid (T1.out.go b)
          clear T1 b
          generalize fmtB n = fn at J2 hfs n1 ⊢
          generalize stLine n = y at KSK J2
          have OW := Lib.hid (show w6.ownsRow w.heap.size 9 1 (.slice U vs.length cu) vs.length (vs.map .string) from by have := (own_flat (T6.out.own 0 rfl).1).1; rwa [List.length_map] at this)
          have hzs := T6.out.1.size
          go_wp2_with (first | (at_builtin; refine wpList_append_own_at _ rfl (.tmp 71) (.tmp 75) 48 rfl w.heap.size 9 i0 (.string ⟨#[]⟩) 1 16 Tryz.underlying48 hi0 hz0 hz1 hz2 rfl (by decide) _ vs.length (vs.map .string) rfl (by exact OW.out.alloc _) ⟨w6.heap.size, 0, none⟩ 1 1 [.string ((⟨#[115, 116, 111, 99, 107, 32]⟩ : ByteArray) ++ fn)] rfl rfl ?cq31 ?cq32 ?cq33 ?cq34 ?cq35 ?_) | fail)
          try case cq31 => exact new_cell _ _ _
          try case cq32 => simp [Value.oneCell']
          try case cq33 => unfold maxLen; omega
          try case cq34 => omega
          try case cq35 => first | omega | (simp; omega)
          intro v' w8 hown8 hg8 _ hat8
          obtain ⟨F9, h9⟩ := T6.out.appV hown8 hg8 (by simpa using hat8)
          have T9 := Lib.hid h9
          clear hown8 hg8 hat8 h9 OW hzs T6
          rw [J2.out] at T9
          go_wp2
          go_roundw
          case rel => exact ⟨k + 1, F9, by omega, by go_num, by rw [KSK.out, List.map_append]; exact T9.out⟩
          case measure => simp [intOf]; omega
        · have hge : ¬ (k : Int) < (p.stk.length : Int) := by omega
          obtain rfl : k = p.stk.length := by omega
          have S6 := Lib.hid (show Sn w wr (⟨flat 9 ((linesA p 0).map .string), _, F⟩ :: _) from by rw [linesA_0]; exact T1.out)
          obtain ⟨e0, e1, e2, e3, e4, ef⟩ := (T1.out.bk 1 rfl).c5
          clear T1
          go_wp2
          clear e0 e1 e2 e3 e4 ef
          go_loopw [3, 81] (fun u i wr => ∃ (k : Nat) (F : List Nat), k ≤ p.acts.length ∧ i = .int .i64 k ∧ Sn w wr [⟨flat 9 ((linesA p k).map .string), u, F⟩, boxI w.heap.size 34 [.int .i64 p.dl, .slice A1 p.acts.length c1, .slice A2 p.lks.length c2, .slice A3 p.ress.length c3, .slice A4 p.stk.length c4]]) (fun _ i _ => p.acts.length - (intOf i).toNat)
          case atStart => exact ⟨0, _, Nat.zero_le _, rfl, S6.out⟩
          case round =>
            obtain ⟨k, F, hkl, rfl, hS⟩ := hrel
            have T1 := Lib.hid hS
            clear hS S6
            obtain ⟨_, U, cu, hu, _⟩ := rd_flat (T1.out.rd 0 rfl)
            rw [List.length_map] at hu
            subst hu
            by_cases hlt : k < p.acts.length
            · have hlt' : (k : Int) < (p.acts.length : Int) := by omega
              have k0 : (0 : Int) ≤ (k : Int) := by omega
              have KSK := Lib.hid (linesA_succ (p := p) hlt)
              have hkn := linesA_len p k
              obtain ⟨b3, o3, rfl, hb3, hc3⟩ := G1.out k hlt
              obtain ⟨M0, m0, x0, x1, x2, ru⟩ := hc3 k hlt
              have y0 := (T1.out.1.cell (p := ⟨b3, o3 + k * 3, none⟩) hb3).trans x0
              have y1 := (T1.out.1.cell (p := ⟨b3, o3 + k * 3 + 1, none⟩) hb3).trans x1
              have y2 := (T1.out.1.cell (p := ⟨b3, o3 + k * 3 + 2, none⟩) hb3).trans x2
              have ha := act_parts HP.out (List.getElem_mem hlt)
              have hns2 := nm_smallP ha.1
              have hfa := ha.2.2.1
              have HMS := Lib.hid ha.2.2.2
              have hm3 := ha.2.1
              have hff := fmtB_size p.acts[k].fa
              have RU := Lib.hid (rdModeS_t ru)
              have A0 := Lib.hid (show (⟨#[97, 99, 116, 105, 118, 105, 116, 121, 32]⟩ : ByteArray) ++ p.acts[k].nm ++ ⟨#[32]⟩ ++ fmtB p.acts[k].fa = acLineK p.acts[k] 0 from by rw [acLineK_0]; show acWs ++ _ ++ _ ++ _ = _; rw [acWs_eq]; rfl)
              have AS := Lib.hid (fun j (h : j < p.acts[k].ms.length) => @acLineK_succ p.acts[k] j h)
              have AZ := Lib.hid (fun j => acLineK_size hns2 hm3 (fun m hm => (ha.2.2.2 m hm).1) j)
              have AE := Lib.hid (show acLineK p.acts[k] p.acts[k].ms.length = acLine p.acts[k] from rfl)
              clear x0 x1 x2 ru hc3 ha
              generalize p.acts[k] = a at y0 y1 y2 RU A0 AS AZ AE HMS hns2 hfa hm3 hff KSK
              generalize linesA p k = vs at T1 KSK hkn
              generalize acLine a = y at KSK AE
              have T5 := Lib.hid (T1.out.box 57 [.string a.nm, .int .i64 a.fa, .slice M0 a.ms.length m0])
              go_wp2_with fail
              clear y0 y1 y2 T1
              obtain ⟨z0, z1, z2, zf⟩ := (T5.out.bk 0 rfl).c3
              have hlz := (T5.out.bk 0 rfl).lt
              generalize World.alloc wr _ = wa at T5 z0 z1 z2 zf hlz ⊢
              generalize wr.heap.size = ga at T5 z0 z1 z2 zf hlz ⊢
              have T6 := Lib.hid T5.out.drew1
              have n1 : ¬ 9223372036854775807 < 9 + a.nm.size := by omega
              have n2 : ¬ 9223372036854775807 < 9 + a.nm.size + 1 := by omega
              have n3 : ¬ 9223372036854775807 < 9 + a.nm.size + 1 + (fmtB a.fa).size := by omega
              have CE := Lib.hid (fun (W : World) (h : Wr [] wa.drew W) => show Hid (Wr [] wa.drew W) ∧ W.cell? ⟨ga, 0, none⟩ = some (.string a.nm) ∧ W.cell? ⟨ga, 1, none⟩ = some (.int .i64 a.fa) from ⟨Lib.hid h, (wr_cell h (p := ⟨ga, 0, none⟩) hlz (by simp)).trans (by exact by simpa using z0), (wr_cell h (p := ⟨ga, 1, none⟩) hlz (by simp)).trans (by exact by simpa using z1)⟩)
              have INIT := Lib.hid (CE.out _ (Wr.refl _ _))
              have KW := Lib.hid (fun (W2 W : World) (hb : Wr [] W W2) (h : Hid (Wr [] wa.drew W) ∧ W.cell? ⟨ga, 0, none⟩ = some (.string a.nm) ∧ W.cell? ⟨ga, 1, none⟩ = some (.int .i64 a.fa)) => CE.out W2 (h.1.out.trans hb))
              clear z0 z1 z2 zf hlz T5
              refine wp_region_held_drew (S := fun W => Hid (Wr [] wa.drew W) ∧ W.cell? ⟨ga, 0, none⟩ = some (.string a.nm) ∧ W.cell? ⟨ga, 1, none⟩ = some (.int .i64 a.fa)) (by kernel_rfl) INIT.out (fun hHeld => ?_)
              refine wpAnyH_take (i := 0) (v := ?_) rfl (by kernel_rfl) (by kernel_rfl) (by kernel_rfl) (fun _ _ _ h => h) (Or.inl ⟨by rfl, ?_⟩) (by assumption) ?_
              rotate_left
              · (intro W hSw; (try dsimp only at hSw); go_simp <;> with_reducible rfl)
              (try simp only [Act.put, List.getElem_toArray, List.getElem_cons_zero, List.setIfInBounds_toArray, List.set_cons_succ, List.set_cons_zero])
              refine wpAnyH_take (i := 1) (v := ?_) rfl (by kernel_rfl) (by kernel_rfl) (by kernel_rfl) (fun _ _ _ h => h) (Or.inl ⟨by rfl, ?_⟩) (by assumption) ?_
              rotate_left
              · (intro W hSw; (try dsimp only at hSw); go_simp <;> with_reducible rfl)
              (try simp only [Act.put, List.getElem_toArray, List.getElem_cons_succ, List.getElem_cons_zero, List.setIfInBounds_toArray, List.set_cons_succ, List.set_cons_zero])
              refine wpAnyH_take (i := 2) (v := ?_) rfl (by kernel_rfl) (by kernel_rfl) (by kernel_rfl) (fun _ _ _ h => h) (Or.inl ⟨by rfl, ?_⟩) (by assumption) ?_
              rotate_left
              · (intro W hSw; (try dsimp only at hSw); go_simp <;> with_reducible rfl)
              (try simp only [Act.put, List.getElem_toArray, List.getElem_cons_succ, List.getElem_cons_zero, List.setIfInBounds_toArray, List.set_cons_succ, List.set_cons_zero])
              refine wpAnyH_take (i := 3) (v := ?_) rfl (by kernel_rfl) (by kernel_rfl) (by kernel_rfl) (fun _ _ _ h => h) (Or.inl ⟨by rfl, ?_⟩) (by assumption) ?_
              rotate_left
              · (intro W hSw; (try dsimp only at hSw); go_simp <;> with_reducible rfl)
              (try simp only [Act.put, List.getElem_toArray, List.getElem_cons_succ, List.getElem_cons_zero, List.setIfInBounds_toArray, List.set_cons_succ, List.set_cons_zero])
              refine wpAnyH_take (i := 4) (v := ?_) rfl (by kernel_rfl) (by kernel_rfl) (by kernel_rfl) (fun _ _ _ h => h) (Or.inl ⟨by rfl, ?_⟩) (by assumption) ?_
              rotate_left
              · (intro W hSw; (try dsimp only at hSw); go_simp <;> with_reducible rfl)
              (try simp only [Act.put, List.getElem_toArray, List.getElem_cons_succ, List.getElem_cons_zero, List.setIfInBounds_toArray, List.set_cons_succ, List.set_cons_zero])
              refine wpAnyH_take (i := 5) (v := ?_) rfl (by kernel_rfl) (by kernel_rfl) (by kernel_rfl) (fun _ _ _ h => h) (Or.inl ⟨by rfl, ?_⟩) (by assumption) ?_
              rotate_left
              · (intro W hSw; (try dsimp only at hSw); go_simp <;> with_reducible rfl)
              (try simp only [Act.put, List.getElem_toArray, List.getElem_cons_succ, List.getElem_cons_zero, List.setIfInBounds_toArray, List.set_cons_succ, List.set_cons_zero])
              refine wpAnyH_ready (rs := [6]) (by kernel_rfl) (by simp) ?_
              refine AllReadyH.cons rfl (fun K hK => ?_) AllReadyH.nil
              go_simp
              go_at_call 19
              refine (specFmt_any a.fa _ (by omega) (by omega)).mono ?_
              rintro e w7 ⟨rfl, bb⟩
              have T7 := Lib.hid (T6.out.go bb)
              (first | done | go_wp2_with fail)
              refine hK.out _ _ (KW.out _ _ (Wr.of_below bb (Nat.le_refl _)) (by assumption)) (fun hHeld6 => ?_)
              clear hK K bb T6
              refine wpAnyH_take (i := 7) (v := ?_) rfl (by kernel_rfl) (by kernel_rfl) (by kernel_rfl) (fun _ _ _ h => h) (Or.inl ⟨by rfl, ?_⟩) (by assumption) ?_
              rotate_left
              · (intro W hSw; (try dsimp only at hSw); go_simp <;> with_reducible rfl)
              (try simp only [Act.put, List.getElem_toArray, List.getElem_cons_succ, List.getElem_cons_zero, List.setIfInBounds_toArray, List.set_cons_succ, List.set_cons_zero])
              refine wpAnyH_take (i := 8) (v := ?_) rfl (by kernel_rfl) (by kernel_rfl) (by kernel_rfl) (fun _ _ _ h => h) (Or.inl ⟨by rfl, ?_⟩) (by assumption) ?_
              rotate_left
              · (intro W hSw; (try dsimp only at hSw); go_simp <;> with_reducible rfl)
              (try simp only [Act.put, List.getElem_toArray, List.getElem_cons_succ, List.getElem_cons_zero, List.setIfInBounds_toArray, List.set_cons_succ, List.set_cons_zero])
              refine wpAnyH_done (by kernel_rfl) ?_ _
              clear hHeld hHeld6 CE INIT KW
              rw [A0.out]
              obtain ⟨z0, z1, z2, zf⟩ := (T7.out.bk 0 rfl).c3
              have T8 := Lib.hid (T7.out.drop 0)
              clear T7
              go_wp2
              clear z0 z1 z2 zf
              go_loopw [14, 96] (fun s i wr => ∃ j : Nat, j ≤ a.ms.length ∧ i = .int .i64 j ∧ s = .string (acLineK a j) ∧ Sn w wr [⟨flat 9 (vs.map .string), .slice U vs.length cu, F⟩, boxI w.heap.size 34 [.int .i64 p.dl, .slice (some ⟨b3, o3, none⟩) p.acts.length c1, .slice A2 p.lks.length c2, .slice A3 p.ress.length c3, .slice A4 p.stk.length c4]]) (fun _ i _ => a.ms.length - (intOf i).toNat)
              case atStart => exact ⟨0, Nat.zero_le _, rfl, rfl, T8.out⟩
              case round =>
                obtain ⟨j, hjl, rfl, rfl, hS⟩ := hrel
                have T10 := Lib.hid hS
                clear hS T8
                have hzz := AZ.out j
                by_cases hlj : j < a.ms.length
                · have hlj' : (j : Int) < (a.ms.length : Int) := by omega
                  have j0 : (0 : Int) ≤ (j : Int) := by omega
                  obtain ⟨_, N0, d0, he, gg⟩ := RU.out
                  injection he with he _ he2
                  subst he he2
                  obtain ⟨b5, o5, rfl, hb5, hc5⟩ := gg j hlj
                  obtain ⟨P1, q1, P2, q2, x0, x1, x2, rq, rc⟩ := hc5 j hlj
                  have y0 := (T10.out.1.cell (p := ⟨b5, o5 + j * 3, none⟩) hb5).trans x0
                  have y1 := (T10.out.1.cell (p := ⟨b5, o5 + j * 3 + 1, none⟩) hb5).trans x1
                  have y2 := (T10.out.1.cell (p := ⟨b5, o5 + j * 3 + 2, none⟩) hb5).trans x2
                  have HM := Lib.hid (HMS.out _ (List.getElem_mem hlj))
                  have RM := Lib.hid (mk_rdMode_t rq rc)
                  have AJ := Lib.hid (AS.out j hlj)
                  have AJZ := AZ.out (j + 1)
                  clear x0 x1 x2 rq rc hc5 gg
                  generalize a.ms[j] = m at y0 y1 y2 HM RM AJ
                  generalize hal : acLineK a j = al at AJ hzz
                  clear hal
                  have T11 := Lib.hid (T10.out.box 59 [.int .i64 m.du, .slice P1 m.us.length q1, .slice P2 m.co.length q2])
                  have n5 : ¬ 9223372036854775807 < al.size + 1 := by omega
                  go_wp2_with fail
                  clear y0 y1 y2 T10
                  refine (specFmtMode_any m _ _ (by exact T11.out.old RM.out) (by have := HM.out.1; omega) (by have := HM.out.1; omega) (fun n hn => by have := HM.out.2.1 n hn; omega) (fun n hn => by have := HM.out.2.2 n hn; omega)).mono ?_
                  rintro e w12 ⟨rfl, b⟩
                  have T12 := Lib.hid ((T11.out.go b).drop 0)
                  clear T11 b
                  have hmz : (mdW m).size ≤ 100 := mdW_size (by have := HM.out.1; omega) (by have := HM.out.1; omega)
                  have AJ2 := Lib.hid (show acLineK a (j + 1) = al ++ ⟨#[32]⟩ ++ fmtMd m.du m.us m.co from AJ.out)
                  have hmz2 : (fmtMd m.du m.us m.co).size ≤ 100 := hmz
                  generalize fmtMd m.du m.us m.co = fm at AJ2 hmz2 ⊢
                  have n6 : ¬ 9223372036854775807 < al.size + 1 + fm.size := by omega
                  go_wp2
                  go_roundw
                  case rel => exact ⟨j + 1, by omega, by go_num, by rw [AJ2.out], T12.out⟩
                  case measure => simp [intOf]; omega
                · have hgj : ¬ (j : Int) < (a.ms.length : Int) := by omega
                  obtain rfl : j = a.ms.length := by omega
                  rw [AE.out]
                  have OW := Lib.hid (show wr.ownsRow w.heap.size 9 1 (.slice U vs.length cu) vs.length (vs.map .string) from by have := (own_flat (T10.out.own 0 rfl).1).1; rwa [List.length_map] at this)
                  have hzs := T10.out.1.size
                  go_wp2_with (first | (at_builtin; refine wpList_append_own_at _ rfl (.tmp 106) (.tmp 108) 48 rfl w.heap.size 9 i0 (.string ⟨#[]⟩) 1 16 Tryz.underlying48 hi0 hz0 hz1 hz2 rfl (by decide) _ vs.length (vs.map .string) rfl (by exact OW.out.alloc _) ⟨wr.heap.size, 0, none⟩ 1 1 [.string y] rfl rfl ?cq41 ?cq42 ?cq43 ?cq44 ?cq45 ?_) | fail)
                  try case cq41 => exact new_cell _ _ _
                  try case cq42 => simp [Value.oneCell']
                  try case cq43 => unfold maxLen; omega
                  try case cq44 => omega
                  try case cq45 => first | omega | (simp; omega)
                  intro v' w8 hown8 hg8 _ hat8
                  obtain ⟨F9, h9⟩ := T10.out.appV hown8 hg8 (by simpa using hat8)
                  have T9 := Lib.hid h9
                  clear hown8 hg8 hat8 h9 OW hzs T10
                  go_wp2
                  go_roundw
                  case rel => exact ⟨k + 1, F9, by omega, by go_num, by rw [KSK.out, List.map_append]; exact T9.out⟩
                  case measure => simp [intOf]; omega
            · have hge : ¬ (k : Int) < (p.acts.length : Int) := by omega
              obtain rfl : k = p.acts.length := by omega
              have S7 := Lib.hid (show Sn w wr (⟨flat 9 ((linesL p 0).map .string), _, F⟩ :: _) from by rw [linesL_0]; exact T1.out)
              obtain ⟨e0, e1, e2, e3, e4, ef⟩ := (T1.out.bk 1 rfl).c5
              clear T1
              go_wp2
              clear e0 e1 e2 e3 e4 ef
              go_loopw [3, 114] (fun u i wr => ∃ (k : Nat) (F : List Nat), k ≤ p.lks.length ∧ i = .int .i64 k ∧ Sn w wr [⟨flat 9 ((linesL p k).map .string), u, F⟩, boxI w.heap.size 34 [.int .i64 p.dl, .slice A1 p.acts.length c1, .slice A2 p.lks.length c2, .slice A3 p.ress.length c3, .slice A4 p.stk.length c4]]) (fun _ i _ => p.lks.length - (intOf i).toNat)
              case atStart => exact ⟨0, _, Nat.zero_le _, rfl, S7.out⟩
              case round =>
                obtain ⟨k, F, hkl, rfl, hS⟩ := hrel
                have T1 := Lib.hid hS
                clear hS S7
                obtain ⟨_, U, cu, hu, _⟩ := rd_flat (T1.out.rd 0 rfl)
                rw [List.length_map] at hu
                subst hu
                by_cases hlt : k < p.lks.length
                · have hlt' : (k : Int) < (p.lks.length : Int) := by omega
                  have k0 : (0 : Int) ≤ (k : Int) := by omega
                  have KSK := Lib.hid (linesL_succ (p := p) hlt)
                  have hkn := linesL_len p k
                  obtain ⟨b3, o3, rfl, hb3, hc3⟩ := G2.out k hlt
                  obtain ⟨x0, x1, x2, x3⟩ := hc3 k hlt
                  have y0 := (T1.out.1.cell (p := ⟨b3, o3 + k * 4, none⟩) hb3).trans x0
                  have y1 := (T1.out.1.cell (p := ⟨b3, o3 + k * 4 + 1, none⟩) hb3).trans x1
                  have y2 := (T1.out.1.cell (p := ⟨b3, o3 + k * 4 + 2, none⟩) hb3).trans x2
                  have y3 := (T1.out.1.cell (p := ⟨b3, o3 + k * 4 + 3, none⟩) hb3).trans x3
                  have HM := Lib.hid (HLK.out _ (List.getElem_mem hlt))
                  clear x0 x1 x2 x3 hc3
                  generalize p.lks[k] = l at y0 y1 y2 y3 HM KSK
                  generalize linesL p k = vs at T1 KSK hkn
                  have T5 := Lib.hid (T1.out.box 62 [.int .i64 l.fr, .int .i64 l.to, .bool l.fe, .int .i64 l.lag])
                  obtain ⟨e0, e1, e2, e3, e4, ef⟩ := (T1.out.bk 1 rfl).c5
                  have hlp := (T1.out.bk 1 rfl).lt
                  go_wp2_with fail
                  clear e0 e1 e2 e3 e4 ef
                  clear y0 y1 y2 y3 T1 hlp
                  refine (specLink_any p l _ _ HP.out HM.out (by exact T5.out.old HV.out)).mono ?_
                  rintro e w6 ⟨rfl, b⟩
                  have T6 := Lib.hid ((T5.out.go b).drop 0)
                  clear T5 b
                  generalize lkLine p l = y at KSK ⊢
                  have OW := Lib.hid (show w6.ownsRow w.heap.size 9 1 (.slice U vs.length cu) vs.length (vs.map .string) from by have := (own_flat (T6.out.own 0 rfl).1).1; rwa [List.length_map] at this)
                  have hzs := T6.out.1.size
                  go_wp2_with (first | (at_builtin; refine wpList_append_own_at _ rfl (.tmp 118) (.tmp 122) 48 rfl w.heap.size 9 i0 (.string ⟨#[]⟩) 1 16 Tryz.underlying48 hi0 hz0 hz1 hz2 rfl (by decide) _ vs.length (vs.map .string) rfl (by exact OW.out.alloc _) ⟨w6.heap.size, 0, none⟩ 1 1 [.string y] rfl rfl ?cq51 ?cq52 ?cq53 ?cq54 ?cq55 ?_) | fail)
                  try case cq51 => exact new_cell _ _ _
                  try case cq52 => simp [Value.oneCell']
                  try case cq53 => unfold maxLen; omega
                  try case cq54 => omega
                  try case cq55 => first | omega | (simp; omega)
                  intro v' w8 hown8 hg8 _ hat8
                  obtain ⟨F9, h9⟩ := T6.out.appV hown8 hg8 (by simpa using hat8)
                  have T9 := Lib.hid h9
                  clear hown8 hg8 hat8 h9 OW hzs T6
                  go_wp2
                  go_roundw
                  case rel => exact ⟨k + 1, F9, by omega, by go_num, by rw [KSK.out, List.map_append]; exact T9.out⟩
                  case measure => simp [intOf]; omega
                · have hge : ¬ (k : Int) < (p.lks.length : Int) := by omega
                  obtain rfl : k = p.lks.length := by omega
                  have HRR := Lib.hid (rd_flat (T1.out.rd 0 rfl))
                  have hkn := linesL_len p p.lks.length
                  have hkt := HTOT.out
                  generalize linesL p p.lks.length = vs at T1 HRR HR hkn hkt
                  go_wp2_with fail
                  refine (specJoin_any vs ⟨#[10]⟩ _ _ (by first | exact HRR.out | simpa using HRR.out) (by omega) (by omega) (by decide)).mono ?_
                  rintro e w5 ⟨rfl, rfl⟩
                  have T5 := Lib.hid T1.out
                  have hjs := join_sizeP vs ⟨#[10]⟩
                  have hnz : (⟨#[10]⟩ : ByteArray).size = 1 := rfl
                  rw [show joinB vs nlB ++ nlB = joinB vs ⟨#[10]⟩ ++ ⟨#[10]⟩ from rfl] at HR
                  generalize joinB vs ⟨#[10]⟩ = jv at HR hjs ⊢
                  have hcat : ¬ 9223372036854775807 < jv.size + 1 := by rw [hnz] at hjs; omega
                  go_wp2
                  go_ret
                  exact ⟨ret_sP HR.out.symm, T5.out.1⟩
end Go.Proofs.YtlcmnmobfhajdabGreatDoor
