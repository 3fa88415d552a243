/- DERIVED. Mathematics of FnFacts: the literals of a drawn domain give it back. No dump. -/
import Derived.Test.YtdbnhdiboemmiacGreatDmRG
import Derived.Test.YtdbnhdiboemmiacGreatDmEG
import Derived.Test.YtdbnhdiboemmiacGreatDmIG
import Derived.Test.YtdbnhdiboemmiacGreatLtD
import Derived.Test.YtdbnhdiboemmiacGreatDmKG
import Derived.Test.YtdbnhdiboemmiacGreatTrOk

section
namespace Go.Proofs.YtdbnhdiboemmiacGreat
open Go.RowKit Go.Shelf
set_option linter.unusedVariables false

/-- A domain that was drawn: within the first one, and not empty. -/
structure Bx (p : Pj) (b : Dm) : Prop where
  l1 : b.mn.length = p.acts.length
  l2 : b.mx.length = p.acts.length
  md : b.md = p.acts.map fun a => rangeB (a.ms.length : Int)
  bd : ∀ a, a < p.acts.length → 0 ≤ mnD b a ∧ mnD b a ≤ mxD b a ∧ mxD b a ≤ p.dl - 1
/-- A literal as MakeBox draws it. -/
structure Dl (p : Pj) (l : Lt) : Prop where
  ki : l.ki = 1 ∨ l.ki = 2
  ac : 0 ≤ l.ac ∧ l.ac < (p.acts.length : Int)
  va : 0 ≤ l.va ∧ l.va < p.dl
theorem getD_rep {k a : Nat} {x : Int} (h : a < k) : (List.replicate k x).getD a 0 = x := by simp [List.getD, h]
theorem bx_init {p : Pj} (h : pokB p = true) : Bx p (init1 p) := by
  have hd := inB_iff.1 (pok_dl h)
  refine ⟨by simp [init1], by simp [init1], rfl, fun a ha => ?_⟩
  have e1 : mnD (init1 p) a = 0 := getD_rep ha
  have e2 : mxD (init1 p) a = p.dl - 1 := getD_rep ha
  omega
theorem getD_set (l : List Int) (n a : Nat) (x : Int) (hn : n < l.length) : (l.set n x).getD a 0 = if a = n then x else l.getD a 0 := by
  simp only [List.getD, List.getElem?_set]
  by_cases e : n = a
  · subst e; simp [hn]
  · have e' : ¬ a = n := fun h => e h.symm
    simp [e, e']
theorem bx_step {p : Pj} {b : Dm} {l : Lt} (hp : pokB p = true) (hb : Bx p b) (hl : Dl p l) (he : empD (restD b l) = false) : Bx p (restD b l) := by
  have hd := inB_iff.1 (pok_dl hp)
  have hlm : b.md.length = p.acts.length := by rw [hb.md, List.length_map]
  have l1 := hb.l1
  have l2 := hb.l2
  have ha := hl.ac
  have hv := hl.va
  obtain ⟨n, e⟩ : ∃ n : Nat, l.ac = (n : Int) := ⟨l.ac.toNat, by omega⟩
  have hn : n < p.acts.length := by omega
  have hr : restD b l = restA b l n := rest_yes (by unfold thereD; omega) e
  rw [hr] at he ⊢
  have hbr : brT l.va = l.va := br_id (by omega)
  have em : ∀ a, a < (restA b l n).mn.length → a < (restA b l n).mx.length → mnD (restA b l n) a ≤ mxD (restA b l n) a := fun a h1 h2 => by
    by_cases h : mnD (restA b l n) a ≤ mxD (restA b l n) a
    · exact h
    · rw [emp_at h1 h2 (by omega)] at he; cases he
  rcases hl.ki with hk | hk
  · have hA : restA b l n = ⟨b.mn.set n (max (mnD b n) (brT l.va)), b.mx, b.md⟩ := by unfold restA; rw [if_pos hk]
    rw [hA] at em ⊢
    refine ⟨by simp [l1], l2, hb.md, fun a ha2 => ?_⟩
    have h1 := hb.bd a ha2
    have h3 := em a (by simp [l1, ha2]) (by simp [l2, ha2])
    have e1 : mnD ⟨b.mn.set n (max (mnD b n) (brT l.va)), b.mx, b.md⟩ a = if a = n then max (mnD b n) (brT l.va) else mnD b a := getD_set _ _ _ _ (by omega)
    have e2 : mxD ⟨b.mn.set n (max (mnD b n) (brT l.va)), b.mx, b.md⟩ a = mxD b a := rfl
    have h5 := hb.bd n hn
    refine ⟨?_, h3, by rw [e2]; exact h1.2.2⟩
    rw [e1]
    split <;> omega
  · have hA : restA b l n = ⟨b.mn, b.mx.set n (min (mxD b n) (brT l.va)), b.md⟩ := by unfold restA; rw [if_neg (by omega), if_pos hk]
    rw [hA] at em ⊢
    refine ⟨l1, by simp [l2], hb.md, fun a ha2 => ?_⟩
    have h1 := hb.bd a ha2
    have h3 := em a (by simp [l1, ha2]) (by simp [l2, ha2])
    have e1 : mxD ⟨b.mn, b.mx.set n (min (mxD b n) (brT l.va)), b.md⟩ a = if a = n then min (mxD b n) (brT l.va) else mxD b a := getD_set _ _ _ _ (by omega)
    have e2 : mnD ⟨b.mn, b.mx.set n (min (mxD b n) (brT l.va)), b.md⟩ a = mnD b a := rfl
    have h5 := hb.bd n hn
    refine ⟨by rw [e2]; exact h1.1, h3, ?_⟩
    rw [e1]
    split <;> omega
theorem bx_sz {p : Pj} {b : Dm} (hp : pokB p = true) (hb : Bx p b) : (trDm b).sz ≤ 1048576 := by
  have h6 := (pok_acts hp).1
  have h := su_le 3 b.md (fun l hl => by
    rw [hb.md] at hl
    obtain ⟨a, ha, rfl⟩ := List.mem_map.1 hl
    have h1 := range_len a.ms.length
    have h2 := (aok_modes ((pok_acts hp).2 a ha)).1
    omega)
  have e3 : b.md.length = p.acts.length := by rw [hb.md, List.length_map]
  have l1 := hb.l1
  have l2 := hb.l2
  rw [e3] at h
  rw [dm_sz]
  omega
theorem below_grows {a b : World} (h : Below a.heap.size a b) (r : Option Nat) : a.grownBy b r := ⟨h.os, h.tape, h.output, h.size, fun k hk _ => h.block k hk⟩
set_option maxRecDepth 100000 in
set_option maxHeartbeats 8000000 in
theorem makeBox_any (p : Pj) (hp : pokB p = true) (A : Option Addr) (c : Nat) (bs : List Int) (v : Value) (w : World) (hr : Rd w (.slice A bs.length c) (bs.map (.int .u8))) (hu : ∀ b ∈ bs, 0 ≤ b ∧ b ≤ 255) (hl : bs.length ≤ 1048576) (hv : (trPj p).rd w v) (hk : (trPj p).ok) :
    Calls Tryz.prog 5 #[.slice A bs.length c, v] w fun e w' => ∃ u b F, e = .returned u ∧ Bx p b ∧ (trDm b).own w' w.heap.size u F ∧ F.Nodup ∧ Below w.heap.size w w' := by
  have HV := Lib.hid hv
  have HK := Lib.hid hk
  have HOK := Lib.hid hp
  have HRU := Lib.hid (And.intro hr hu)
  have hdl := inB_iff.1 (pok_dl hp)
  have h6 := (pok_acts hp).1
  have h1n := pok_one hp
  obtain ⟨A1, c1, A2, c2, A3, c3, A4, c4, rfl, _⟩ := rdProject_t hv
  have S0 := Lib.hid (((Sn.start w).box 28 [.int .i64 p.dl, .slice A1 p.acts.length c1, .slice A2 p.lks.length c2, .slice A3 p.ress.length c3, .slice A4 p.stk.length c4]).box 32 [.slice none 0 0, .slice none 0 0, .slice none 0 0])
  simp only [World.size_alloc] at S0
  clear hr hu hv hk hp
  go_enter Tryz.func5, Tryz.ntmps5
  go_wp2_with fail
  generalize World.alloc (World.alloc w _) _ = W at S0 ⊢
  refine (new_any A c bs W (HRU.out.1.below S0.out.1 (Nat.le_refl _)) HRU.out.2 hl).mono ?_
  rintro e w1 ⟨rfl, hd, hb⟩
  have D1 := Lib.hid hd
  have S1 := Lib.hid (S0.out.go hb)
  obtain ⟨hh, hseed⟩ := hd.cur.seed
  have hf2 := hd.cur.fr.2
  have hlt := hd.cur.lt
  have K := Lib.hid (fun x => D1.out.step (D1.out.cur.setSeed x) (grown_set (World.grownBy.refl w1 (some W.heap.size)) ⟨W.heap.size, 2, none⟩ rfl (.int .i64 x)))
  obtain ⟨q0, q1, q2, q3, q4, qf⟩ := (S1.out.bk 1 rfl).c5
  have hl1 := (S0.out.bk 1 rfl).lt
  have hl0 := (S0.out.bk 0 rfl).lt
  generalize hgW : W.heap.size = g at D1 K hseed hf2 hlt hl1 hl0 ⊢
  have hne : w.heap.size ≠ g := by omega
  have hne0 : w.heap.size + 1 ≠ g := by omega
  clear hd hb S1
  go_wp2_with fail
  generalize hx : wrap64 (hh + 17) = x
  have K1 := Lib.hid (K.out x)
  clear hx K q0 q1 q2 q3 q4 qf hseed hf2 hlt
  generalize World.setCell w1 _ _ = w2 at K1 ⊢
  have PB := Lib.hid (fun (V : World) (h : Drw W V g A c bs) => (S0.out.go h.bel).bk 1 rfl)
  obtain ⟨q0, q1, q2, q3, q4, qf⟩ := (S0.out.bk 1 rfl).c5
  clear q0 q1 q2 q3 q4 qf
  obtain ⟨q0, q1, q2, q3, q4, qf⟩ := (PB.out _ K1.out).c5
  go_wp2_with fail
  clear q0 q1 q2 q3 q4 qf
  refine (specInitialDomain_any p _ _ (by exact (S0.out.go K1.out.bel).old HV.out) HK.out).mono ?_
  rintro e w3 ⟨u3, F3, rfl, o, h, bb⟩
  rw [init_yes HOK.out] at o
  obtain ⟨X0, x0, X1, x1, X2, x2, rfl, _⟩ := rdDomain_t (Tr.own_rd _ _ _ o)
  have T0 := Lib.hid ((Sd.start K1.out).new o h ((Sd.start K1.out).go bb).drw (below_grows bb _))
  have T1 := Lib.hid ((T0.out.box 32 [.slice X0 (init1 p).mn.length x0, .slice X1 (init1 p).mx.length x1, .slice X2 (init1 p).md.length x2]).pick 1 rfl)
  simp only [List.eraseIdx_cons_succ, List.eraseIdx_cons_zero] at T1
  have hgb : w2.heap.size ≤ w3.heap.size := bb.size
  have HB0 := Lib.hid (bx_init HOK.out)
  clear T0 o h bb
  go_wp2_with fail
  generalize hg6 : w3.heap.size = g6 at T1 hgb ⊢
  generalize World.alloc w3 _ = w4 at T1 ⊢
  clear hg6
  refine (below_small 4 (by omega) (by omega) g A c bs W _ T1.out.drw).mono ?_
  rintro e w5 ⟨kk, rfl, hk0, hk1, hd, hg⟩
  have T2 := Lib.hid (T1.out.call hd hg)
  clear hd hg T1
  go_wp2_with fail
  go_loopw [7] (fun i wr => ∃ (k : Int) (b : Dm) (X0 X1 X2 : Option Addr) (x0 x1 x2 : Nat) (FB : List Nat), 0 ≤ k ∧ k ≤ 3 ∧ i = .int .i64 k ∧ Bx p b ∧ Sd W w2 g A c bs [⟨trDm b, .agg #[.slice X0 b.mn.length x0, .slice X1 b.mx.length x1, .slice X2 b.md.length x2], FB⟩, boxI g6 32 [.slice X0 b.mn.length x0, .slice X1 b.mx.length x1, .slice X2 b.md.length x2]] wr) (fun i _ => (intOf i).toNat)
  case atStart => exact ⟨kk, init1 p, X0, X1, X2, x0, x1, x2, _, hk0, by omega, rfl, HB0.out, T2.out⟩
  case round =>
    obtain ⟨k, b, X0, X1, X2, x0, x1, x2, FB, hk0, hk1, rfl, hB, hT⟩ := hrel
    have T3 := Lib.hid hT
    have HB := Lib.hid hB
    clear hT hB T2
    by_cases hlt : 0 < k
    · have hwk : IntKind.i64.wrap (k - 1) = k - 1 := by rw [IntKind.wrap_i64]; omega
      go_wp2_with fail
      go_cut [8] from 27 to 41 (fun s wx => ∃ (gx : Nat) (l : Lt) (Y0 : Option Addr) (y0 : Nat) (Y1 : Option Addr) (y1 : Nat) (Y2 : Option Addr) (y2 : Nat) (FX : List Nat), s = .pointer (some ⟨gx, 0, none⟩) ∧ Dl p l ∧ Sd W w2 g A c bs [boxI gx 32 [.slice Y0 (restD b l).mn.length y0, .slice Y1 (restD b l).mx.length y1, .slice Y2 (restD b l).md.length y2], ⟨trDm (restD b l), .agg #[.slice Y0 (restD b l).mn.length y0, .slice Y1 (restD b l).mx.length y1, .slice Y2 (restD b l).md.length y2], FX⟩, ⟨trDm b, .agg #[.slice X0 b.mn.length x0, .slice X1 b.mx.length x1, .slice X2 b.md.length x2], FB⟩, boxI g6 32 [.slice X0 b.mn.length x0, .slice X1 b.mx.length x1, .slice X2 b.md.length x2]] wx)
      case first =>
        obtain ⟨z0, z1, z2, zf⟩ := (T3.out.bk 1 rfl).c3
        obtain ⟨q0, q1, q2, q3, q4, qf⟩ := (PB.out _ T3.out.drw).c5
        have hlz := (T3.out.bk 1 rfl).lt
        have hlq := (PB.out _ T3.out.drw).lt
        have hn6 : g6 ≠ g := by have := K1.out.cur.lt; omega
        have T4 := Lib.hid T3.out.drew
        clear T3
        have CE := Lib.hid (fun (W : World) (h : Wr [g] wr.drew W) => show Hid (Wr [g] wr.drew W) ∧ W.cell? ⟨g6, 0, none⟩ = some (.slice X0 b.mn.length x0) ∧ W.cell? ⟨g6, 1, none⟩ = some (.slice X1 b.mx.length x1) ∧ W.cell? ⟨g6, 2, none⟩ = some (.slice X2 b.md.length x2) ∧ W.cell? ⟨w.heap.size, 0, none⟩ = some (.int .i64 p.dl) ∧ W.cell? ⟨w.heap.size, 1, none⟩ = some (.slice A1 p.acts.length c1) from ⟨Lib.hid h, (wr_cell h (p := ⟨g6, 0, none⟩) hlz (by simp only [List.mem_singleton]; omega)).trans (by exact by simpa using z0), (wr_cell h (p := ⟨g6, 1, none⟩) hlz (by simp only [List.mem_singleton]; omega)).trans (by exact by simpa using z1), (wr_cell h (p := ⟨g6, 2, none⟩) hlz (by simp only [List.mem_singleton]; omega)).trans (by exact by simpa using z2), (wr_cell h (p := ⟨w.heap.size, 0, none⟩) hlq (by simp only [List.mem_singleton]; omega)).trans (by exact by simpa using q0), (wr_cell h (p := ⟨w.heap.size, 1, none⟩) hlq (by simp only [List.mem_singleton]; omega)).trans (by exact by simpa using q1)⟩)
        have INIT := Lib.hid (CE.out _ (Wr.refl _ _))
        have KW := Lib.hid (fun (W2 W : World) (hb : Wr [g] W W2) (h : Hid (Wr [g] wr.drew W) ∧ W.cell? ⟨g6, 0, none⟩ = some (.slice X0 b.mn.length x0) ∧ W.cell? ⟨g6, 1, none⟩ = some (.slice X1 b.mx.length x1) ∧ W.cell? ⟨g6, 2, none⟩ = some (.slice X2 b.md.length x2) ∧ W.cell? ⟨w.heap.size, 0, none⟩ = some (.int .i64 p.dl) ∧ W.cell? ⟨w.heap.size, 1, none⟩ = some (.slice A1 p.acts.length c1)) => CE.out W2 (h.1.out.trans hb))
        clear z0 z1 z2 zf q0 q1 q2 q3 q4 qf hlz hlq
        refine wp_region_held_drew (S := fun W => Hid (Wr [g] wr.drew W) ∧ W.cell? ⟨g6, 0, none⟩ = some (.slice X0 b.mn.length x0) ∧ W.cell? ⟨g6, 1, none⟩ = some (.slice X1 b.mx.length x1) ∧ W.cell? ⟨g6, 2, none⟩ = some (.slice X2 b.md.length x2) ∧ W.cell? ⟨w.heap.size, 0, none⟩ = some (.int .i64 p.dl) ∧ W.cell? ⟨w.heap.size, 1, none⟩ = some (.slice A1 p.acts.length c1)) (by kernel_rfl) INIT.out (fun hHeld => ?_)
        generalize hwd : wr.drew = wd at T4 CE KW INIT hHeld ⊢
        clear hwd
        obtain ⟨zd, hzd⟩ : ∃ z, z = wd.heap.size := ⟨_, rfl⟩
        refine wpAnyH_take (i := 0) (v := ?_) rfl (by kernel_rfl) (by kernel_rfl) (by kernel_rfl) (fun _ _ _ h => h) (Or.inl ⟨by rfl, ?_⟩) (by assumption) ?_
        rotate_left
        · (intro W hSw; (try dsimp only at hSw); go_simp <;> with_reducible rfl)
        (try simp only [Act.put, List.getElem_toArray, List.getElem_cons_zero, List.setIfInBounds_toArray, List.set_cons_succ, List.set_cons_zero])
        refine wpAnyH_take (i := 1) (v := ?_) rfl (by kernel_rfl) (by kernel_rfl) (by kernel_rfl) (fun _ _ _ h => h) (Or.inl ⟨by rfl, ?_⟩) (by assumption) ?_
        rotate_left
        · (intro W hSw; (try dsimp only at hSw); go_simp <;> with_reducible rfl)
        (try simp only [Act.put, List.getElem_toArray, List.getElem_cons_succ, List.getElem_cons_zero, List.setIfInBounds_toArray, List.set_cons_succ, List.set_cons_zero])
        refine wpAnyH_take (i := 4) (v := ?_) rfl (by kernel_rfl) (by kernel_rfl) (by kernel_rfl) (fun _ _ _ h => h) (Or.inl ⟨by rfl, ?_⟩) (by assumption) ?_
        rotate_left
        · (intro W hSw; (try dsimp only at hSw); go_simp <;> with_reducible rfl)
        (try simp only [Act.put, List.getElem_toArray, List.getElem_cons_succ, List.getElem_cons_zero, List.setIfInBounds_toArray, List.set_cons_succ, List.set_cons_zero])
        refine wpAnyH_take (i := 5) (v := ?_) rfl (by kernel_rfl) (by kernel_rfl) (by kernel_rfl) (fun _ _ _ h => h) (Or.inl ⟨by rfl, ?_⟩) (by assumption) ?_
        rotate_left
        · (intro W hSw; (try dsimp only at hSw); go_simp <;> with_reducible rfl)
        (try simp only [Act.put, List.getElem_toArray, List.getElem_cons_succ, List.getElem_cons_zero, List.setIfInBounds_toArray, List.set_cons_succ, List.set_cons_zero])
        refine wpAnyH_take (i := 6) (v := ?_) rfl (by kernel_rfl) (by kernel_rfl) (by kernel_rfl) (fun _ _ _ h => h) (Or.inl ⟨by rfl, ?_⟩) (by assumption) ?_
        rotate_left
        · (intro W hSw; (try dsimp only at hSw); go_simp <;> with_reducible rfl)
        (try simp only [Act.put, List.getElem_toArray, List.getElem_cons_succ, List.getElem_cons_zero, List.setIfInBounds_toArray, List.set_cons_succ, List.set_cons_zero])
        refine wpAnyH_take (i := 7) (v := ?_) rfl (by kernel_rfl) (by kernel_rfl) (by kernel_rfl) (fun _ _ _ h => h) (Or.inl ⟨by rfl, ?_⟩) (by assumption) ?_
        rotate_left
        · (intro W hSw; (try dsimp only at hSw); go_simp <;> with_reducible rfl)
        (try simp only [Act.put, List.getElem_toArray, List.getElem_cons_succ, List.getElem_cons_zero, List.setIfInBounds_toArray, List.set_cons_succ, List.set_cons_zero])
        refine wpAnyH_take (i := 9) (v := ?_) rfl (by kernel_rfl) (by kernel_rfl) (by kernel_rfl) (fun _ _ _ h => h) (Or.inl ⟨by rfl, ?_⟩) (by assumption) ?_
        rotate_left
        · (intro W hSw; (try dsimp only at hSw); go_simp <;> with_reducible rfl)
        (try simp only [Act.put, List.getElem_toArray, List.getElem_cons_succ, List.getElem_cons_zero, List.setIfInBounds_toArray, List.set_cons_succ, List.set_cons_zero])
        refine wpAnyH_take (i := 10) (v := ?_) rfl (by kernel_rfl) (by kernel_rfl) (by kernel_rfl) (fun _ _ _ h => h) (Or.inl ⟨by rfl, ?_⟩) (by assumption) ?_
        rotate_left
        · (intro W hSw; (try dsimp only at hSw); go_simp <;> with_reducible rfl)
        (try simp only [Act.put, List.getElem_toArray, List.getElem_cons_succ, List.getElem_cons_zero, List.setIfInBounds_toArray, List.set_cons_succ, List.set_cons_zero])
        refine wpAnyH_take (i := 11) (v := ?_) rfl (by kernel_rfl) (by kernel_rfl) (by kernel_rfl) (fun _ _ _ h => h) (Or.inl ⟨by rfl, ?_⟩) (by assumption) ?_
        rotate_left
        · (intro W hSw; (try dsimp only at hSw); go_simp <;> with_reducible rfl)
        (try simp only [Act.put, List.getElem_toArray, List.getElem_cons_succ, List.getElem_cons_zero, List.setIfInBounds_toArray, List.set_cons_succ, List.set_cons_zero])
        refine wpAnyH_ready (rs := [2, 15]) (by kernel_rfl) (by simp) ?_
        refine AllReadyH.cons rfl (fun K hK => ?_) ?_
        · go_simp
          refine (below_small 2 (by omega) (by omega) g A c bs W _ T4.out.drw).mono ?_
          rintro e w5 ⟨r5, rfl, ha5, hb5, hd, hg⟩
          have T5 := Lib.hid (T4.out.call hd hg)
          have WG := Lib.hid (Wr.of_grown hg)
          have hw5 : IntKind.i64.wrap (1 + r5) = 1 + r5 := by rw [IntKind.wrap_i64]; omega
          (first | done | go_wp2_with fail | skip)
          refine hK.out _ _ (KW.out _ _ WG.out (by assumption)) (fun hHeld5 => ?_)
          clear hK K hd hg WG T4
          refine wpAnyH_take (i := 3) (v := ?_) rfl (by kernel_rfl) (by kernel_rfl) (by kernel_rfl) (fun _ _ _ h => h) (Or.inl ⟨by rfl, ?_⟩) (by assumption) ?_
          rotate_left
          · (intro W hSw; (try dsimp only at hSw); go_simp <;> with_reducible rfl)
          (try simp only [Act.put, List.getElem_toArray, List.getElem_cons_succ, List.getElem_cons_zero, List.setIfInBounds_toArray, List.set_cons_succ, List.set_cons_zero])
          refine wpAnyH_ready (rs := [8, 15]) (by kernel_rfl) (by simp) ?_
          refine AllReadyH.cons rfl (fun K hK => ?_) ?_
          · go_simp
            refine (below_small (p.acts.length : Int) (by omega) (by omega) g A c bs W _ T5.out.drw).mono ?_
            rintro e w6 ⟨r6, rfl, ha6, hb6, hd, hg⟩
            have T6 := Lib.hid (T5.out.call hd hg)
            have WG := Lib.hid (Wr.of_grown hg)
            skip
            (first | done | go_wp2_with fail | skip)
            refine hK.out _ _ (KW.out _ _ WG.out (by assumption)) (fun hHeld6 => ?_)
            clear hK K hd hg WG T5
            refine wpAnyH_ready (rs := [12, 15]) (by kernel_rfl) (by simp) ?_
            refine AllReadyH.cons rfl (fun K hK => ?_) ?_
            · go_simp
              refine (below_small p.dl (by omega) (by omega) g A c bs W _ T6.out.drw).mono ?_
              rintro e w7 ⟨r7, rfl, ha7, hb7, hd, hg⟩
              have T7 := Lib.hid (T6.out.call hd hg)
              have WG := Lib.hid (Wr.of_grown hg)
              skip
              (first | done | go_wp2_with fail | skip)
              refine hK.out _ _ (KW.out _ _ WG.out (by assumption)) (fun hHeld7 => ?_)
              clear hK K hd hg WG T6
              refine wpAnyH_take (i := 13) (v := ?_) rfl (by kernel_rfl) (by kernel_rfl) (by kernel_rfl) (fun _ _ _ h => h) (Or.inl ⟨by rfl, ?_⟩) (by assumption) ?_
              rotate_left
              · (intro W hSw; (try dsimp only at hSw); go_simp <;> with_reducible rfl)
              (try simp only [Act.put, List.getElem_toArray, List.getElem_cons_succ, List.getElem_cons_zero, List.setIfInBounds_toArray, List.set_cons_succ, List.set_cons_zero])
              refine wpAnyH_ready (rs := [14, 15]) (by kernel_rfl) (by simp) ?_
              refine AllReadyH.cons rfl (fun K hK => ?_) ?_
              · have DL := Lib.hid (show Dl p ⟨1 + r5, r6, r7⟩ from ⟨by show 1 + r5 = 1 ∨ 1 + r5 = 2; omega, by show 0 ≤ r6 ∧ r6 < (p.acts.length : Int); omega, by show 0 ≤ r7 ∧ r7 < p.dl; omega⟩)
                go_simp
                refine (specRestrict_any b ⟨1 + r5, r6, r7⟩ _ _ (by exact (T7.out.own 0 rfl).1) (bx_sz HOK.out HB.out)).mono ?_
                rintro e w8 ⟨v8, F8, rfl, o, h, bb⟩
                obtain ⟨Y0, y0, Y1, y1, Y2, y2, rfl, _⟩ := rdDomain_t (Tr.own_rd _ _ _ o)
                have T8 := Lib.hid (T7.out.new o h (T7.out.go bb).drw (below_grows bb _))
                (first | done | go_wp2_with fail | skip)
                refine hK.out _ _ (KW.out _ _ (Wr.of_below bb (Nat.le_refl _)) (by assumption)) (fun hHeld8 => ?_)
                clear hK K o h bb T7
                refine wpAnyH_ready (rs := [15]) (by kernel_rfl) (by simp) ?_
                refine AllReadyH.cons rfl (fun K hK => ?_) AllReadyH.nil
                go_simp
                have T9 := Lib.hid (T8.out.box 32 [.slice none 0 0, .slice none 0 0, .slice none 0 0])
                have hg0 : zd ≤ w8.heap.size := by rw [hzd]; exact hHeld8.1.out.size
                refine hK.out _ _ (KW.out _ _ (Wr.of_below ((Below.refl _ _).alloc (Nat.le_refl _) _) (Nat.le_refl _)) (by assumption)) (fun hHeld9 => ?_)
                generalize hgg : w8.heap.size = gx at T9 hg0 hHeld9 ⊢
                generalize World.alloc w8 _ = w9 at T9 hHeld9 ⊢
                clear hK K hgg T8
                obtain ⟨h_0, h_1, h_2, h_f⟩ := (T9.out.bk 0 rfl).c3
                refine wpAnyH_ready (rs := [16]) (by kernel_rfl) (by simp) ?_
                refine AllReadyH.cons rfl (fun K hK => ?_) AllReadyH.nil
                go_simp
                have T10 := Lib.hid (((T9.out.boxSet 0 rfl 0 (.slice Y0 (restD b ⟨1 + r5, r6, r7⟩).mn.length y0)).boxSet 0 rfl 1 (.slice Y1 (restD b ⟨1 + r5, r6, r7⟩).mx.length y1)).boxSet 0 rfl 2 (.slice Y2 (restD b ⟨1 + r5, r6, r7⟩).md.length y2))
                simp only [List.set_cons_zero, List.set_cons_succ] at T10
                refine hK.out _ _ (CE.out _ (((hHeld9.1.out.fresh (e := gx) (Wr.setCell _ ⟨gx, 0, none⟩ (by simp) _) (by rw [← hzd]; exact hg0)).fresh (e := gx) (Wr.setCell _ ⟨gx, 1, none⟩ (by simp) _) (by rw [← hzd]; exact hg0)).fresh (e := gx) (Wr.setCell _ ⟨gx, 2, none⟩ (by simp) _) (by rw [← hzd]; exact hg0))) (fun hHeld10 => ?_)
                clear hK K h_0 h_1 h_2 h_f T9
                refine wpAnyH_done (by kernel_rfl) ?_ _
                go_wp2_with fail
                go_meet
                case rel => exact ⟨gx, ⟨1 + r5, r6, r7⟩, _, _, _, _, _, _, _, rfl, DL.out, ((T10.out.pick 1 rfl).pick 1 rfl)⟩
              refine AllReadyH.cons rfl (fun K hK => ?_) AllReadyH.nil
              go_simp
              have T8 := Lib.hid (T7.out.box 32 [.slice none 0 0, .slice none 0 0, .slice none 0 0])
              have hg0 : zd ≤ w7.heap.size := by rw [hzd]; exact hHeld7.1.out.size
              refine hK.out _ _ (KW.out _ _ (Wr.of_below ((Below.refl _ _).alloc (Nat.le_refl _) _) (Nat.le_refl _)) (by assumption)) (fun hHeld8 => ?_)
              generalize hgg : w7.heap.size = gx at T8 hg0 hHeld8 ⊢
              generalize World.alloc w7 _ = w8 at T8 hHeld8 ⊢
              clear hK K hgg T7
              refine wpAnyH_ready (rs := [14]) (by kernel_rfl) (by simp) ?_
              refine AllReadyH.cons rfl (fun K hK => ?_) AllReadyH.nil
              have DL := Lib.hid (show Dl p ⟨1 + r5, r6, r7⟩ from ⟨by show 1 + r5 = 1 ∨ 1 + r5 = 2; omega, by show 0 ≤ r6 ∧ r6 < (p.acts.length : Int); omega, by show 0 ≤ r7 ∧ r7 < p.dl; omega⟩)
              go_simp
              refine (specRestrict_any b ⟨1 + r5, r6, r7⟩ _ _ (by exact (T8.out.own 1 rfl).1) (bx_sz HOK.out HB.out)).mono ?_
              rintro e w9 ⟨v9, F9, rfl, o, h, bb⟩
              obtain ⟨Y0, y0, Y1, y1, Y2, y2, rfl, _⟩ := rdDomain_t (Tr.own_rd _ _ _ o)
              have T9 := Lib.hid (T8.out.new o h (T8.out.go bb).drw (below_grows bb _))
              (first | done | go_wp2_with fail | skip)
              refine hK.out _ _ (KW.out _ _ (Wr.of_below bb (Nat.le_refl _)) (by assumption)) (fun hHeld9 => ?_)
              clear hK K o h bb T8
              obtain ⟨h_0, h_1, h_2, h_f⟩ := (T9.out.bk 1 rfl).c3
              refine wpAnyH_ready (rs := [16]) (by kernel_rfl) (by simp) ?_
              refine AllReadyH.cons rfl (fun K hK => ?_) AllReadyH.nil
              go_simp
              have T10 := Lib.hid (((T9.out.boxSet 1 rfl 0 (.slice Y0 (restD b ⟨1 + r5, r6, r7⟩).mn.length y0)).boxSet 1 rfl 1 (.slice Y1 (restD b ⟨1 + r5, r6, r7⟩).mx.length y1)).boxSet 1 rfl 2 (.slice Y2 (restD b ⟨1 + r5, r6, r7⟩).md.length y2))
              simp only [List.set_cons_zero, List.set_cons_succ] at T10
              refine hK.out _ _ (CE.out _ (((hHeld9.1.out.fresh (e := gx) (Wr.setCell _ ⟨gx, 0, none⟩ (by simp) _) (by rw [← hzd]; exact hg0)).fresh (e := gx) (Wr.setCell _ ⟨gx, 1, none⟩ (by simp) _) (by rw [← hzd]; exact hg0)).fresh (e := gx) (Wr.setCell _ ⟨gx, 2, none⟩ (by simp) _) (by rw [← hzd]; exact hg0))) (fun hHeld10 => ?_)
              clear hK K h_0 h_1 h_2 h_f T9
              refine wpAnyH_done (by kernel_rfl) ?_ _
              go_wp2_with fail
              go_meet
              case rel => exact ⟨gx, ⟨1 + r5, r6, r7⟩, _, _, _, _, _, _, _, rfl, DL.out, ((T10.out.pick 0 rfl).pick 1 rfl)⟩
            refine AllReadyH.cons rfl (fun K hK => ?_) AllReadyH.nil
            go_simp
            have T7 := Lib.hid (T6.out.box 32 [.slice none 0 0, .slice none 0 0, .slice none 0 0])
            have hg0 : zd ≤ w6.heap.size := by rw [hzd]; exact hHeld6.1.out.size
            refine hK.out _ _ (KW.out _ _ (Wr.of_below ((Below.refl _ _).alloc (Nat.le_refl _) _) (Nat.le_refl _)) (by assumption)) (fun hHeld7 => ?_)
            generalize hgg : w6.heap.size = gx at T7 hg0 hHeld7 ⊢
            generalize World.alloc w6 _ = w7 at T7 hHeld7 ⊢
            clear hK K hgg T6
            refine wpAnyH_ready (rs := [12]) (by kernel_rfl) (by simp) ?_
            refine AllReadyH.cons rfl (fun K hK => ?_) AllReadyH.nil
            go_simp
            refine (below_small p.dl (by omega) (by omega) g A c bs W _ T7.out.drw).mono ?_
            rintro e w8 ⟨r8, rfl, ha8, hb8, hd, hg⟩
            have T8 := Lib.hid (T7.out.call hd hg)
            have WG := Lib.hid (Wr.of_grown hg)
            skip
            (first | done | go_wp2_with fail | skip)
            refine hK.out _ _ (KW.out _ _ WG.out (by assumption)) (fun hHeld8 => ?_)
            clear hK K hd hg WG T7
            refine wpAnyH_take (i := 13) (v := ?_) rfl (by kernel_rfl) (by kernel_rfl) (by kernel_rfl) (fun _ _ _ h => h) (Or.inl ⟨by rfl, ?_⟩) (by assumption) ?_
            rotate_left
            · (intro W hSw; (try dsimp only at hSw); go_simp <;> with_reducible rfl)
            (try simp only [Act.put, List.getElem_toArray, List.getElem_cons_succ, List.getElem_cons_zero, List.setIfInBounds_toArray, List.set_cons_succ, List.set_cons_zero])
            refine wpAnyH_ready (rs := [14]) (by kernel_rfl) (by simp) ?_
            refine AllReadyH.cons rfl (fun K hK => ?_) AllReadyH.nil
            have DL := Lib.hid (show Dl p ⟨1 + r5, r6, r8⟩ from ⟨by show 1 + r5 = 1 ∨ 1 + r5 = 2; omega, by show 0 ≤ r6 ∧ r6 < (p.acts.length : Int); omega, by show 0 ≤ r8 ∧ r8 < p.dl; omega⟩)
            go_simp
            refine (specRestrict_any b ⟨1 + r5, r6, r8⟩ _ _ (by exact (T8.out.own 1 rfl).1) (bx_sz HOK.out HB.out)).mono ?_
            rintro e w9 ⟨v9, F9, rfl, o, h, bb⟩
            obtain ⟨Y0, y0, Y1, y1, Y2, y2, rfl, _⟩ := rdDomain_t (Tr.own_rd _ _ _ o)
            have T9 := Lib.hid (T8.out.new o h (T8.out.go bb).drw (below_grows bb _))
            (first | done | go_wp2_with fail | skip)
            refine hK.out _ _ (KW.out _ _ (Wr.of_below bb (Nat.le_refl _)) (by assumption)) (fun hHeld9 => ?_)
            clear hK K o h bb T8
            obtain ⟨h_0, h_1, h_2, h_f⟩ := (T9.out.bk 1 rfl).c3
            refine wpAnyH_ready (rs := [16]) (by kernel_rfl) (by simp) ?_
            refine AllReadyH.cons rfl (fun K hK => ?_) AllReadyH.nil
            go_simp
            have T10 := Lib.hid (((T9.out.boxSet 1 rfl 0 (.slice Y0 (restD b ⟨1 + r5, r6, r8⟩).mn.length y0)).boxSet 1 rfl 1 (.slice Y1 (restD b ⟨1 + r5, r6, r8⟩).mx.length y1)).boxSet 1 rfl 2 (.slice Y2 (restD b ⟨1 + r5, r6, r8⟩).md.length y2))
            simp only [List.set_cons_zero, List.set_cons_succ] at T10
            refine hK.out _ _ (CE.out _ (((hHeld9.1.out.fresh (e := gx) (Wr.setCell _ ⟨gx, 0, none⟩ (by simp) _) (by rw [← hzd]; exact hg0)).fresh (e := gx) (Wr.setCell _ ⟨gx, 1, none⟩ (by simp) _) (by rw [← hzd]; exact hg0)).fresh (e := gx) (Wr.setCell _ ⟨gx, 2, none⟩ (by simp) _) (by rw [← hzd]; exact hg0))) (fun hHeld10 => ?_)
            clear hK K h_0 h_1 h_2 h_f T9
            refine wpAnyH_done (by kernel_rfl) ?_ _
            go_wp2_with fail
            go_meet
            case rel => exact ⟨gx, ⟨1 + r5, r6, r8⟩, _, _, _, _, _, _, _, rfl, DL.out, ((T10.out.pick 0 rfl).pick 1 rfl)⟩
          refine AllReadyH.cons rfl (fun K hK => ?_) AllReadyH.nil
          go_simp
          have T6 := Lib.hid (T5.out.box 32 [.slice none 0 0, .slice none 0 0, .slice none 0 0])
          have hg0 : zd ≤ w5.heap.size := by rw [hzd]; exact hHeld5.1.out.size
          refine hK.out _ _ (KW.out _ _ (Wr.of_below ((Below.refl _ _).alloc (Nat.le_refl _) _) (Nat.le_refl _)) (by assumption)) (fun hHeld6 => ?_)
          generalize hgg : w5.heap.size = gx at T6 hg0 hHeld6 ⊢
          generalize World.alloc w5 _ = w6 at T6 hHeld6 ⊢
          clear hK K hgg T5
          refine wpAnyH_ready (rs := [8]) (by kernel_rfl) (by simp) ?_
          refine AllReadyH.cons rfl (fun K hK => ?_) AllReadyH.nil
          go_simp
          refine (below_small (p.acts.length : Int) (by omega) (by omega) g A c bs W _ T6.out.drw).mono ?_
          rintro e w7 ⟨r7, rfl, ha7, hb7, hd, hg⟩
          have T7 := Lib.hid (T6.out.call hd hg)
          have WG := Lib.hid (Wr.of_grown hg)
          skip
          (first | done | go_wp2_with fail | skip)
          refine hK.out _ _ (KW.out _ _ WG.out (by assumption)) (fun hHeld7 => ?_)
          clear hK K hd hg WG T6
          refine wpAnyH_ready (rs := [12]) (by kernel_rfl) (by simp) ?_
          refine AllReadyH.cons rfl (fun K hK => ?_) AllReadyH.nil
          go_simp
          refine (below_small p.dl (by omega) (by omega) g A c bs W _ T7.out.drw).mono ?_
          rintro e w8 ⟨r8, rfl, ha8, hb8, hd, hg⟩
          have T8 := Lib.hid (T7.out.call hd hg)
          have WG := Lib.hid (Wr.of_grown hg)
          skip
          (first | done | go_wp2_with fail | skip)
          refine hK.out _ _ (KW.out _ _ WG.out (by assumption)) (fun hHeld8 => ?_)
          clear hK K hd hg WG T7
          refine wpAnyH_take (i := 13) (v := ?_) rfl (by kernel_rfl) (by kernel_rfl) (by kernel_rfl) (fun _ _ _ h => h) (Or.inl ⟨by rfl, ?_⟩) (by assumption) ?_
          rotate_left
          · (intro W hSw; (try dsimp only at hSw); go_simp <;> with_reducible rfl)
          (try simp only [Act.put, List.getElem_toArray, List.getElem_cons_succ, List.getElem_cons_zero, List.setIfInBounds_toArray, List.set_cons_succ, List.set_cons_zero])
          refine wpAnyH_ready (rs := [14]) (by kernel_rfl) (by simp) ?_
          refine AllReadyH.cons rfl (fun K hK => ?_) AllReadyH.nil
          have DL := Lib.hid (show Dl p ⟨1 + r5, r7, r8⟩ from ⟨by show 1 + r5 = 1 ∨ 1 + r5 = 2; omega, by show 0 ≤ r7 ∧ r7 < (p.acts.length : Int); omega, by show 0 ≤ r8 ∧ r8 < p.dl; omega⟩)
          go_simp
          refine (specRestrict_any b ⟨1 + r5, r7, r8⟩ _ _ (by exact (T8.out.own 1 rfl).1) (bx_sz HOK.out HB.out)).mono ?_
          rintro e w9 ⟨v9, F9, rfl, o, h, bb⟩
          obtain ⟨Y0, y0, Y1, y1, Y2, y2, rfl, _⟩ := rdDomain_t (Tr.own_rd _ _ _ o)
          have T9 := Lib.hid (T8.out.new o h (T8.out.go bb).drw (below_grows bb _))
          (first | done | go_wp2_with fail | skip)
          refine hK.out _ _ (KW.out _ _ (Wr.of_below bb (Nat.le_refl _)) (by assumption)) (fun hHeld9 => ?_)
          clear hK K o h bb T8
          obtain ⟨h_0, h_1, h_2, h_f⟩ := (T9.out.bk 1 rfl).c3
          refine wpAnyH_ready (rs := [16]) (by kernel_rfl) (by simp) ?_
          refine AllReadyH.cons rfl (fun K hK => ?_) AllReadyH.nil
          go_simp
          have T10 := Lib.hid (((T9.out.boxSet 1 rfl 0 (.slice Y0 (restD b ⟨1 + r5, r7, r8⟩).mn.length y0)).boxSet 1 rfl 1 (.slice Y1 (restD b ⟨1 + r5, r7, r8⟩).mx.length y1)).boxSet 1 rfl 2 (.slice Y2 (restD b ⟨1 + r5, r7, r8⟩).md.length y2))
          simp only [List.set_cons_zero, List.set_cons_succ] at T10
          refine hK.out _ _ (CE.out _ (((hHeld9.1.out.fresh (e := gx) (Wr.setCell _ ⟨gx, 0, none⟩ (by simp) _) (by rw [← hzd]; exact hg0)).fresh (e := gx) (Wr.setCell _ ⟨gx, 1, none⟩ (by simp) _) (by rw [← hzd]; exact hg0)).fresh (e := gx) (Wr.setCell _ ⟨gx, 2, none⟩ (by simp) _) (by rw [← hzd]; exact hg0))) (fun hHeld10 => ?_)
          clear hK K h_0 h_1 h_2 h_f T9
          refine wpAnyH_done (by kernel_rfl) ?_ _
          go_wp2_with fail
          go_meet
          case rel => exact ⟨gx, ⟨1 + r5, r7, r8⟩, _, _, _, _, _, _, _, rfl, DL.out, ((T10.out.pick 0 rfl).pick 1 rfl)⟩
        refine AllReadyH.cons rfl (fun K hK => ?_) AllReadyH.nil
        go_simp
        have T5 := Lib.hid (T4.out.box 32 [.slice none 0 0, .slice none 0 0, .slice none 0 0])
        have hg0 : zd ≤ wd.heap.size := by rw [hzd]; exact hHeld.1.out.size
        refine hK.out _ _ (KW.out _ _ (Wr.of_below ((Below.refl _ _).alloc (Nat.le_refl _) _) (Nat.le_refl _)) (by assumption)) (fun hHeld5 => ?_)
        generalize hgg : wd.heap.size = gx at T5 hg0 hHeld5 ⊢
        generalize World.alloc wd _ = w5 at T5 hHeld5 ⊢
        clear hK K hgg T4
        refine wpAnyH_ready (rs := [2]) (by kernel_rfl) (by simp) ?_
        refine AllReadyH.cons rfl (fun K hK => ?_) AllReadyH.nil
        go_simp
        refine (below_small 2 (by omega) (by omega) g A c bs W _ T5.out.drw).mono ?_
        rintro e w6 ⟨r6, rfl, ha6, hb6, hd, hg⟩
        have T6 := Lib.hid (T5.out.call hd hg)
        have WG := Lib.hid (Wr.of_grown hg)
        have hw6 : IntKind.i64.wrap (1 + r6) = 1 + r6 := by rw [IntKind.wrap_i64]; omega
        (first | done | go_wp2_with fail | skip)
        refine hK.out _ _ (KW.out _ _ WG.out (by assumption)) (fun hHeld6 => ?_)
        clear hK K hd hg WG T5
        refine wpAnyH_take (i := 3) (v := ?_) rfl (by kernel_rfl) (by kernel_rfl) (by kernel_rfl) (fun _ _ _ h => h) (Or.inl ⟨by rfl, ?_⟩) (by assumption) ?_
        rotate_left
        · (intro W hSw; (try dsimp only at hSw); go_simp <;> with_reducible rfl)
        (try simp only [Act.put, List.getElem_toArray, List.getElem_cons_succ, List.getElem_cons_zero, List.setIfInBounds_toArray, List.set_cons_succ, List.set_cons_zero])
        refine wpAnyH_ready (rs := [8]) (by kernel_rfl) (by simp) ?_
        refine AllReadyH.cons rfl (fun K hK => ?_) AllReadyH.nil
        go_simp
        refine (below_small (p.acts.length : Int) (by omega) (by omega) g A c bs W _ T6.out.drw).mono ?_
        rintro e w7 ⟨r7, rfl, ha7, hb7, hd, hg⟩
        have T7 := Lib.hid (T6.out.call hd hg)
        have WG := Lib.hid (Wr.of_grown hg)
        skip
        (first | done | go_wp2_with fail | skip)
        refine hK.out _ _ (KW.out _ _ WG.out (by assumption)) (fun hHeld7 => ?_)
        clear hK K hd hg WG T6
        refine wpAnyH_ready (rs := [12]) (by kernel_rfl) (by simp) ?_
        refine AllReadyH.cons rfl (fun K hK => ?_) AllReadyH.nil
        go_simp
        refine (below_small p.dl (by omega) (by omega) g A c bs W _ T7.out.drw).mono ?_
        rintro e w8 ⟨r8, rfl, ha8, hb8, hd, hg⟩
        have T8 := Lib.hid (T7.out.call hd hg)
        have WG := Lib.hid (Wr.of_grown hg)
        skip
        (first | done | go_wp2_with fail | skip)
        refine hK.out _ _ (KW.out _ _ WG.out (by assumption)) (fun hHeld8 => ?_)
        clear hK K hd hg WG T7
        refine wpAnyH_take (i := 13) (v := ?_) rfl (by kernel_rfl) (by kernel_rfl) (by kernel_rfl) (fun _ _ _ h => h) (Or.inl ⟨by rfl, ?_⟩) (by assumption) ?_
        rotate_left
        · (intro W hSw; (try dsimp only at hSw); go_simp <;> with_reducible rfl)
        (try simp only [Act.put, List.getElem_toArray, List.getElem_cons_succ, List.getElem_cons_zero, List.setIfInBounds_toArray, List.set_cons_succ, List.set_cons_zero])
        refine wpAnyH_ready (rs := [14]) (by kernel_rfl) (by simp) ?_
        refine AllReadyH.cons rfl (fun K hK => ?_) AllReadyH.nil
        have DL := Lib.hid (show Dl p ⟨1 + r6, r7, r8⟩ from ⟨by show 1 + r6 = 1 ∨ 1 + r6 = 2; omega, by show 0 ≤ r7 ∧ r7 < (p.acts.length : Int); omega, by show 0 ≤ r8 ∧ r8 < p.dl; omega⟩)
        go_simp
        refine (specRestrict_any b ⟨1 + r6, r7, r8⟩ _ _ (by exact (T8.out.own 1 rfl).1) (bx_sz HOK.out HB.out)).mono ?_
        rintro e w9 ⟨v9, F9, rfl, o, h, bb⟩
        obtain ⟨Y0, y0, Y1, y1, Y2, y2, rfl, _⟩ := rdDomain_t (Tr.own_rd _ _ _ o)
        have T9 := Lib.hid (T8.out.new o h (T8.out.go bb).drw (below_grows bb _))
        (first | done | go_wp2_with fail | skip)
        refine hK.out _ _ (KW.out _ _ (Wr.of_below bb (Nat.le_refl _)) (by assumption)) (fun hHeld9 => ?_)
        clear hK K o h bb T8
        obtain ⟨h_0, h_1, h_2, h_f⟩ := (T9.out.bk 1 rfl).c3
        refine wpAnyH_ready (rs := [16]) (by kernel_rfl) (by simp) ?_
        refine AllReadyH.cons rfl (fun K hK => ?_) AllReadyH.nil
        go_simp
        have T10 := Lib.hid (((T9.out.boxSet 1 rfl 0 (.slice Y0 (restD b ⟨1 + r6, r7, r8⟩).mn.length y0)).boxSet 1 rfl 1 (.slice Y1 (restD b ⟨1 + r6, r7, r8⟩).mx.length y1)).boxSet 1 rfl 2 (.slice Y2 (restD b ⟨1 + r6, r7, r8⟩).md.length y2))
        simp only [List.set_cons_zero, List.set_cons_succ] at T10
        refine hK.out _ _ (CE.out _ (((hHeld9.1.out.fresh (e := gx) (Wr.setCell _ ⟨gx, 0, none⟩ (by simp) _) (by rw [← hzd]; exact hg0)).fresh (e := gx) (Wr.setCell _ ⟨gx, 1, none⟩ (by simp) _) (by rw [← hzd]; exact hg0)).fresh (e := gx) (Wr.setCell _ ⟨gx, 2, none⟩ (by simp) _) (by rw [← hzd]; exact hg0))) (fun hHeld10 => ?_)
        clear hK K h_0 h_1 h_2 h_f T9
        refine wpAnyH_done (by kernel_rfl) ?_ _
        go_wp2_with fail
        go_meet
        case rel => exact ⟨gx, ⟨1 + r6, r7, r8⟩, _, _, _, _, _, _, _, rfl, DL.out, ((T10.out.pick 0 rfl).pick 1 rfl)⟩
      case rest =>
        obtain ⟨gx, l, Y0, y0, Y1, y1, Y2, y2, FX, rfl, hDl, hT⟩ := hcut
        have T5 := Lib.hid hT
        have HDL := Lib.hid hDl
        clear hT hDl T3
        obtain ⟨z0, z1, z2, zf⟩ := (T5.out.bk 0 rfl).c3
        go_wp2_with fail
        clear z0 z1 z2 zf
        refine (specDomainEmpty_any (restD b l) _ _ (by exact T5.out.rd 1 rfl)).mono ?_
        rintro e w6 ⟨rfl, bb⟩
        have T6 := Lib.hid (T5.out.go bb)
        clear T5 bb
        rcases he : empD (restD b l) with _ | _
        · have HB2 := Lib.hid (bx_step HOK.out HB.out HDL.out he)
          obtain ⟨z0, z1, z2, zf⟩ := (T6.out.bk 0 rfl).c3
          obtain ⟨y0', y1', y2', yf'⟩ := (T6.out.bk 3 rfl).c3
          have T7 := Lib.hid (((T6.out.boxSet 3 rfl 0 (.slice Y0 (restD b l).mn.length y0)).boxSet 3 rfl 1 (.slice Y1 (restD b l).mx.length y1)).boxSet 3 rfl 2 (.slice Y2 (restD b l).md.length y2))
          simp only [List.set_cons_zero, List.set_cons_succ] at T7
          go_wp2
          go_roundw
          case rel => exact ⟨k - 1, restD b l, Y0, Y1, Y2, y0, y1, y2, FX, by omega, by omega, by go_num, HB2.out, ((T7.out.drop.pick 1 rfl).drop)⟩
          case measure => simp [intOf]; omega
        · go_wp2
          go_roundw
          case rel => exact ⟨k - 1, b, X0, X1, X2, x0, x1, x2, FB, by omega, by omega, by go_num, HB.out, T6.out.drop.drop⟩
          case measure => simp [intOf]; omega
    · have hz : k = 0 := by omega
      obtain ⟨z0, z1, z2, zf⟩ := (T3.out.bk 1 rfl).c3
      have S3 := Lib.hid (S0.out.go T3.out.drw.bel)
      obtain ⟨p0, p1, p2, pf⟩ := (S3.out.bk 0 rfl).c3
      have hgr : g6 ≠ w.heap.size + 1 := by have := K1.out.cur.lt; omega
      go_wp2
      have SZ := ((S3.out.boxSet 0 rfl 0 (.slice X0 b.mn.length x0)).boxSet 0 rfl 1 (.slice X1 b.mx.length x1)).boxSet 0 rfl 2 (.slice X2 b.md.length x2)
      have hlb : w.heap.size + 1 < w2.heap.size := by have := K1.out.cur.lt; omega
      have hwb : w.heap.size ≤ w2.heap.size := by omega
      have PO := Tr.own_base hwb _ _ _ (Tr.own_setCell (Tr.own_setCell (Tr.own_setCell (T3.out.own 0 rfl).1 (p := ⟨w.heap.size + 1, 0, none⟩) hlb (.slice X0 b.mn.length x0)) (p := ⟨w.heap.size + 1, 1, none⟩) hlb (.slice X1 b.mx.length x1)) (p := ⟨w.heap.size + 1, 2, none⟩) hlb (.slice X2 b.md.length x2))
      have PN := (T3.out.own 0 rfl).2
      refine bodyPost_ret (v := .agg #[.slice X0 b.mn.length x0, .slice X1 b.mx.length x1, .slice X2 b.md.length x2]) (by simp [results, Tryz.results5, go_sem, p0, p1, p2]) rfl (by first | exact ⟨_, rfl, b, HB.out, _, PO, PN, SZ.1⟩ | exact ⟨_, b, _, rfl, HB.out, PO, PN, SZ.1⟩ | exact ⟨b, _, HB.out, PO, PN, SZ.1⟩ | exact ⟨_, rfl, b, _, HB.out, PO, PN, SZ.1⟩ | exact ⟨b, HB.out, _, PO, PN, SZ.1⟩)
end Go.Proofs.YtdbnhdiboemmiacGreat
end

section
namespace Go.Proofs.YtdbnhdiboemmiacGreat
open Go.RowKit Go.Shelf
set_option linter.unusedVariables false

theorem diff_self (l : List Int) : diffB l l = [] := by
  have : (l.filter fun x => !l.contains x) = [] := by
    rw [List.filter_eq_nil_iff]
    intro x hx
    simp [hx]
  unfold diffB
  rw [this]; rfl
theorem bx_md {p : Pj} {b : Dm} (h : Bx p b) {a : Nat} (ha : a < p.acts.length) : mdD b a = rangeB ((acA p a).length : Int) := by
  have hl : a < b.md.length := by rw [h.md, List.length_map]; exact ha
  rw [mdD_at hl, acA_at ha]
  simp only [h.md, List.getElem_map]
theorem asc_range (n : Nat) : ascB (rangeB (n : Int)) = true := by
  unfold rangeB
  split
  · refine ascB_of ?_
    rw [Int.toNat_natCast]
    unfold upB
    rw [List.pairwise_map]
    exact List.pairwise_lt_range.imp (fun h => by omega)
  · rfl
theorem sub_self (l : List Int) : subB l l = true := by simp [subB]
theorem bx_form {p : Pj} {b : Dm} (hp : pokB p = true) (h : Bx p b) : dformB p b = true := by
  have hd := inB_iff.1 (pok_dl hp)
  refine dform_yes hp h.l1 h.l2 (by rw [h.md, List.length_map]) fun a ha => ?_
  have := h.bd a ha
  rw [okD_md (by omega) (by omega), bx_md h ha, asc_range, sub_self]; rfl
theorem bx_sub {p : Pj} {b : Dm} (hp : pokB p = true) (h : Bx p b) : subD b (initD p) = true := by
  rw [init_yes hp]
  have e3 : b.md.length = p.acts.length := by rw [h.md, List.length_map]
  refine subD_yes ⟨by rw [h.l1, e3], by rw [h.l2, e3], rfl⟩ ⟨by rw [e3]; simp [init1], by rw [e3]; simp [init1], by rw [e3]; simp [init1]⟩ fun a ha => ?_
  rw [e3] at ha
  have hb := h.bd a ha
  have e1 : mnD (init1 p) a = 0 := getD_rep ha
  have e2 : mxD (init1 p) a = p.dl - 1 := getD_rep ha
  have e4 : mdD (init1 p) a = mdD b a := by unfold mdD; rw [h.md]; rfl
  rw [subA_yes (by omega) (by omega), e4, sub_self]
theorem bx_eq (b : Dm) : eqD b b = true := by simp [eqD, eqB]
/-- Between the first domain and b: the first k activities as in b. -/
structure Mx (p : Pj) (b : Dm) (k j : Nat) (D : Dm) : Prop where
  l1 : D.mn.length = p.acts.length
  l2 : D.mx.length = p.acts.length
  md : D.md = b.md
  mn : ∀ a, a < p.acts.length → mnD D a = if a < k then mnD b a else 0
  mx : ∀ a, a < p.acts.length → mxD D a = if a < j then mxD b a else p.dl - 1
theorem mx_zero {p : Pj} {b : Dm} (h : Bx p b) : Mx p b 0 0 (init1 p) :=
  ⟨by simp [init1], by simp [init1], h.md.symm, fun a ha => by rw [if_neg (by omega)]; exact getD_rep ha, fun a ha => by rw [if_neg (by omega)]; exact getD_rep ha⟩
theorem mx_one {p : Pj} {b D : Dm} {k : Nat} (hp : pokB p = true) (h : Bx p b) (hM : Mx p b k k D) (hk : k < p.acts.length) : Mx p b (k + 1) k ((if 0 < mnD b k then [(⟨1, (k : Int), mnD b k⟩ : Lt)] else []).foldl restD D) := by
  have hd := inB_iff.1 (pok_dl hp)
  have hb := h.bd k hk
  have e3 : D.md.length = p.acts.length := by rw [hM.md, h.md, List.length_map]
  have l1 := hM.l1
  have l2 := hM.l2
  by_cases h0 : 0 < mnD b k
  · rw [if_pos h0]
    show Mx p b (k + 1) k (restD D ⟨1, (k : Int), mnD b k⟩)
    rw [rest_yes (l := ⟨1, (k : Int), mnD b k⟩) (n := k) (by unfold thereD; omega) rfl, rest_1]
    refine ⟨by simp [l1], l2, hM.md, fun a ha => ?_, hM.mx⟩
    have e1 : mnD ⟨D.mn.set k (max (mnD D k) (brT (mnD b k))), D.mx, D.md⟩ a = if a = k then max (mnD D k) (brT (mnD b k)) else mnD D a := getD_set _ _ _ _ (by omega)
    have e2 := hM.mn k hk
    rw [if_neg (by omega)] at e2
    have e4 := br_id (n := mnD b k) (by omega)
    rw [e1, e2, e4, hM.mn a ha]
    by_cases e : a = k
    · subst e; rw [if_pos rfl, if_pos (by omega)]; omega
    · rw [if_neg e]
      by_cases e5 : a < k
      · rw [if_pos e5, if_pos (by omega)]
      · rw [if_neg e5, if_neg (by omega)]
  · rw [if_neg h0]
    refine ⟨l1, l2, hM.md, fun a ha => ?_, hM.mx⟩
    show mnD D a = _
    rw [hM.mn a ha]
    by_cases e : a = k
    · subst e; rw [if_neg (by omega), if_pos (by omega)]; omega
    · by_cases e5 : a < k
      · rw [if_pos e5, if_pos (by omega)]
      · rw [if_neg e5, if_neg (by omega)]
theorem mx_two {p : Pj} {b D : Dm} {k : Nat} (hp : pokB p = true) (h : Bx p b) (hM : Mx p b (k + 1) k D) (hk : k < p.acts.length) : Mx p b (k + 1) (k + 1) ((if mxD b k < p.dl - 1 then [(⟨2, (k : Int), mxD b k⟩ : Lt)] else []).foldl restD D) := by
  have hd := inB_iff.1 (pok_dl hp)
  have hb := h.bd k hk
  have e3 : D.md.length = p.acts.length := by rw [hM.md, h.md, List.length_map]
  have l1 := hM.l1
  have l2 := hM.l2
  by_cases h0 : mxD b k < p.dl - 1
  · rw [if_pos h0]
    show Mx p b (k + 1) (k + 1) (restD D ⟨2, (k : Int), mxD b k⟩)
    rw [rest_yes (l := ⟨2, (k : Int), mxD b k⟩) (n := k) (by unfold thereD; omega) rfl, rest_2]
    refine ⟨l1, by simp [l2], hM.md, hM.mn, fun a ha => ?_⟩
    have e1 : mxD ⟨D.mn, D.mx.set k (min (mxD D k) (brT (mxD b k))), D.md⟩ a = if a = k then min (mxD D k) (brT (mxD b k)) else mxD D a := getD_set _ _ _ _ (by omega)
    have e2 := hM.mx k hk
    rw [if_neg (by omega)] at e2
    have e4 := br_id (n := mxD b k) (by omega)
    rw [e1, e2, e4, hM.mx a ha]
    by_cases e : a = k
    · subst e; rw [if_pos rfl, if_pos (by omega)]; omega
    · rw [if_neg e]
      by_cases e5 : a < k
      · rw [if_pos e5, if_pos (by omega)]
      · rw [if_neg e5, if_neg (by omega)]
  · rw [if_neg h0]
    refine ⟨l1, l2, hM.md, hM.mn, fun a ha => ?_⟩
    show mxD D a = _
    rw [hM.mx a ha]
    by_cases e : a = k
    · subst e; rw [if_neg (by omega), if_pos (by omega)]; omega
    · by_cases e5 : a < k
      · rw [if_pos e5, if_pos (by omega)]
      · rw [if_neg e5, if_neg (by omega)]
theorem litsA_bx {p : Pj} {b : Dm} (h : Bx p b) {a : Nat} (ha : a < p.acts.length) : litsA p b a = (if 0 < mnD b a then [(⟨1, (a : Int), mnD b a⟩ : Lt)] else []) ++ (if mxD b a < p.dl - 1 then [(⟨2, (a : Int), mxD b a⟩ : Lt)] else []) := by
  unfold litsA
  rw [bx_md h ha, diff_self, List.map_nil, List.append_nil]
theorem mx_all {p : Pj} {b : Dm} (hp : pokB p = true) (h : Bx p b) : ∀ k, k ≤ p.acts.length → Mx p b k k ((litsK p b k).foldl restD (init1 p))
  | 0, _ => mx_zero h
  | k + 1, hk => by
    have h1 := mx_all hp h k (by omega)
    show Mx p b (k + 1) (k + 1) ((litsK p b k ++ litsA p b k).foldl restD (init1 p))
    rw [List.foldl_append, litsA_bx h (by omega), List.foldl_append]
    exact mx_two hp h (mx_one hp h h1 (by omega)) (by omega)
theorem dm_ext {d e : Dm} (h1 : d.mn = e.mn) (h2 : d.mx = e.mx) (h3 : d.md = e.md) : d = e := by
  cases d; cases e; simp only at h1 h2 h3; rw [h1, h2, h3]
theorem fold_lits {p : Pj} {b : Dm} (hp : pokB p = true) (h : Bx p b) : (litsD p b).foldl restD (initD p) = b := by
  rw [lits_yes (bx_form hp h), init_yes hp]
  have hM := mx_all hp h p.acts.length (Nat.le_refl _)
  refine dm_ext (List.ext_getElem (by rw [hM.l1, h.l1]) fun a h1 h2 => ?_) (List.ext_getElem (by rw [hM.l2, h.l2]) fun a h1 h2 => ?_) hM.md
  · have ha : a < p.acts.length := by rw [← hM.l1]; exact h1
    have := hM.mn a ha
    rw [if_pos ha, mnD_at h1, mnD_at h2] at this
    exact this
  · have ha : a < p.acts.length := by rw [← hM.l2]; exact h1
    have := hM.mx a ha
    rw [if_pos ha, mxD_at h1, mxD_at h2] at this
    exact this
theorem fold_sz (d : Dm) : ∀ ls : List Lt, (trDm (ls.foldl restD d)).sz ≤ (trDm d).sz
  | [] => Nat.le_refl _
  | l :: ls => Nat.le_trans (fold_sz (restD d l) ls) (rest_sz d l)
theorem lits_mem {p : Pj} {b : Dm} {l : Lt} : ∀ {k : Nat}, l ∈ litsK p b k → ∃ a, a < k ∧ l ∈ litsA p b a
  | 0, h => by simp [litsK] at h
  | k + 1, h => by
    rcases List.mem_append.1 (show l ∈ litsK p b k ++ litsA p b k from h) with h | h
    · obtain ⟨a, ha, hl⟩ := lits_mem h
      exact ⟨a, by omega, hl⟩
    · exact ⟨k, by omega, h⟩
theorem lits_good {p : Pj} {b : Dm} {l : Lt} (hp : pokB p = true) (h : Bx p b) (hl : l ∈ litsD p b) : litOkB p l = true ∧ lvalD b l = 1 := by
  rw [lits_yes (bx_form hp h)] at hl
  obtain ⟨a, ha, hl⟩ := lits_mem hl
  rw [litsA_bx h ha] at hl
  have hd := inB_iff.1 (pok_dl hp)
  have hb := h.bd a ha
  have e3 : b.md.length = p.acts.length := by rw [h.md, List.length_map]
  have l1 := h.l1
  have l2 := h.l2
  have ht : thereD b (a : Int) := by unfold thereD; omega
  rcases List.mem_append.1 hl with hl | hl
  · by_cases h0 : 0 < mnD b a
    · rw [if_pos h0] at hl
      obtain rfl := List.mem_singleton.1 hl
      rw [lit_at (l := ⟨1, (a : Int), mnD b a⟩) hp ha rfl, lval_yes (l := ⟨1, (a : Int), mnD b a⟩) ht rfl]
      refine ⟨?_, ?_⟩
      · show inB (mnD b a) (-1) 61 = true
        exact inB_yes (by omega)
      · show knownB (decide (mnD b a ≤ mnD b a)) _ = 1
        simp [knownB]
    · rw [if_neg h0] at hl; cases hl
  · by_cases h0 : mxD b a < p.dl - 1
    · rw [if_pos h0] at hl
      obtain rfl := List.mem_singleton.1 hl
      rw [lit_at (l := ⟨2, (a : Int), mxD b a⟩) hp ha rfl, lval_yes (l := ⟨2, (a : Int), mxD b a⟩) ht rfl]
      refine ⟨?_, ?_⟩
      · show inB (mxD b a) (-1) 61 = true
        exact inB_yes (by omega)
      · show knownB (decide (mxD b a ≤ mxD b a)) _ = 1
        simp [knownB]
    · rw [if_neg h0] at hl; cases hl
-- the data lie in an int's range
theorem okL_ints : ∀ (xs : List Int), (∀ x ∈ xs, -1000 ≤ x ∧ x ≤ 1000) → (trI xs).ok := fun xs h => by
  show okL ((xs.map (Value.int .i64)).map .one)
  induction xs with
  | nil => trivial
  | cons y xs ih =>
    have hy := h y (by simp)
    exact ⟨wf_small (by omega), ih fun x hx => h x (by simp [hx])⟩
theorem okL_rows : ∀ (D : List (List Int)), (∀ l ∈ D, ∀ x ∈ l, -1000 ≤ x ∧ x ≤ 1000) → (trSu D).ok := fun D h => by
  show okL (D.flatMap cellsI1)
  induction D with
  | nil => trivial
  | cons l D ih => exact ⟨okL_ints l (h l (by simp)), ih fun m hm => h m (by simp [hm])⟩
theorem bx_ok {p : Pj} {b : Dm} (hp : pokB p = true) (h : Bx p b) : (trDm b).ok := by
  have hd := inB_iff.1 (pok_dl hp)
  refine ⟨okL_ints _ fun x hx => ?_, okL_ints _ fun x hx => ?_, okL_rows _ fun l hl x hx => ?_, trivial⟩
  · obtain ⟨a, ha, rfl⟩ := List.getElem_of_mem hx
    have := h.bd a (by rw [← h.l1]; exact ha)
    rw [mnD_at ha] at this
    omega
  · obtain ⟨a, ha, rfl⟩ := List.getElem_of_mem hx
    have := h.bd a (by rw [← h.l2]; exact ha)
    rw [mxD_at ha] at this
    omega
  · rw [h.md] at hl
    obtain ⟨a, ha, rfl⟩ := List.mem_map.1 hl
    have h3 := (aok_modes ((pok_acts hp).2 a ha)).1
    have := (mem_range (by omega : a.ms.length ≤ 200) x).1 hx
    omega
end Go.Proofs.YtdbnhdiboemmiacGreat
end
