/- DERIVED. Schedules as text: mathematics, and the contracts of FormatSchedule of the program and of the model. -/
import Derived.Test.YtcoheknnkdmdiabGreatDoorScJ
import Derived.Test.YtcoheknnkdmdiabGreatDoorFmt
import Derived.Test.YtcoheknnkdmdiabGreatDoorJoinI
import Derived.Test.YtcoheknnkdmdiabGreatDoorModF
import Derived.Test.YtcoheknnkdmdiabGreatDoorRegZ
import Derived.Deep.AppendLies
namespace Go.Proofs.YtcoheknnkdmdiabGreatDoor
open Go.RowKit Go.Shelf
set_option linter.unusedVariables false

def ampS : ByteArray := ⟨#[64]⟩
def spS : ByteArray := ⟨#[32]⟩
def nmA (p : Pj) (a : Nat) : ByteArray := match p.acts[a]? with | some x => x.nm | none => ⟨#[]⟩
theorem nmA_at {p : Pj} {a : Nat} (h : a < p.acts.length) : nmA p a = p.acts[a].nm := by simp [nmA, List.getElem?_eq_getElem h]
def wordA (p : Pj) (s : Sc) (a : Nat) : ByteArray := nmA p a ++ ampS ++ fmtB (stA s a) ++ slash ++ fmtB (moA s a)
def wordsK (p : Pj) (s : Sc) (k : Nat) : List ByteArray := (List.range k).map (wordA p s)
theorem wordsK_len (p : Pj) (s : Sc) (k : Nat) : (wordsK p s k).length = k := by simp [wordsK]
theorem wordsK_succ (p : Pj) (s : Sc) (k : Nat) : wordsK p s (k + 1) = wordsK p s k ++ [wordA p s k] := by simp [wordsK, List.range_succ]
noncomputable def fmtScB (p : Pj) (s : Sc) : ByteArray := if formB p s = true then joinB (wordsK p s p.acts.length) spS else ⟨#[]⟩
theorem fmtSc_bad {p : Pj} {s : Sc} (h : formB p s = false) : fmtScB p s = ⟨#[]⟩ := by rw [fmtScB, h]; simp
theorem fmtSc_yes {p : Pj} {s : Sc} (h : formB p s = true) : fmtScB p s = joinB (wordsK p s p.acts.length) spS := by rw [fmtScB, if_pos h]
theorem join5 (a b c d e : ByteArray) : joinB [a, b, c, d, e] ⟨#[]⟩ = a ++ b ++ c ++ d ++ e := by
  simp only [joinB, List.length_cons, List.length_nil, jn]
  have he : ∀ x : ByteArray, x ++ ⟨#[]⟩ = x := fun x => by
    apply ByteArray.ext
    simp [ByteArray.data_append]
  have h0 : ∀ x : ByteArray, (⟨#[]⟩ : ByteArray) ++ x = x := fun x => by
    apply ByteArray.ext
    simp [ByteArray.data_append]
  simp [he, h0]
theorem aok_nm {a : Ac} {r s : Int} (h : aokB a r s = true) : a.nm.size ≤ 8 := by
  simp only [aokB, Bool.and_eq_true] at h
  have h2 := h.2.1
  simp only [nmB, Bool.and_eq_true] at h2
  first
    | exact (by have := inB_iff.1 h2.1; omega)
    | exact (by have := inB_iff.1 h2.2; omega)
    | (simp at h2; omega)
theorem Form.nm {p : Pj} {s : Sc} (h : Form p s) {a : Nat} (ha : a < p.acts.length) : (nmA p a).size ≤ 8 := by
  rw [nmA_at ha]
  exact aok_nm ((pok_acts h.ok).2 _ (List.getElem_mem ha))
theorem word_size {p : Pj} {s : Sc} (h : Form p s) {a : Nat} (ha : a < p.acts.length) : (wordA p s a).size ≤ 24 := by
  have := h.nm ha
  have := fmtB_size (stA s a)
  have := fmtB_size (moA s a)
  simp only [wordA, ByteArray.size_append]
  have : ampS.size = 1 := rfl
  have : slash.size = 1 := rfl
  omega
theorem tot_app (xs ys : List ByteArray) : tot (xs ++ ys) = tot xs + tot ys := by
  simp [tot]
theorem words_tot {p : Pj} {s : Sc} (h : Form p s) : ∀ k, k ≤ p.acts.length → tot (wordsK p s k) ≤ 24 * k
  | 0, _ => by simp [wordsK, tot]
  | k + 1, hk => by
    have i := words_tot h k (by omega)
    have w := word_size h (a := k) (by omega)
    rw [wordsK_succ, tot_app]
    have : tot [wordA p s k] = (wordA p s k).size := by simp [tot]
    omega

/-- joinAll of the five parts of a word. -/
theorem joinFive_any (f0 f1 f2 f3 f4 : ByteArray) (T : TypeId) (W : World) (hs0 : f0.size ≤ 1000) (hs1 : f1.size ≤ 1000) (hs2 : f2.size ≤ 1000) (hs3 : f3.size ≤ 1000) (hs4 : f4.size ≤ 1000) :
    Calls Tryz.prog 30 #[.string ⟨#[]⟩, .slice (some ⟨W.heap.size, 0, none⟩) 5 5] (W.alloc (.cells #[.string f0, .string f1, .string f2, .string f3, .string f4] T)) fun e w' => e = .returned (.string (f0 ++ f1 ++ f2 ++ f3 ++ f4)) ∧ Below W.heap.size W w' := by
  obtain ⟨hb0, hk, hs⟩ := boxes1 W T #[.string f0, .string f1, .string f2, .string f3, .string f4]
  obtain ⟨c0, c1, c2, c3, c4, _⟩ := hk.c5
  have hrd : Rd (W.alloc (.cells #[.string f0, .string f1, .string f2, .string f3, .string f4] T)) (.slice (some ⟨W.heap.size, 0, none⟩) 5 5) ([f0, f1, f2, f3, f4].map .string) := by
    refine ⟨by simp [maxLen], _, _, rfl, .inr ⟨W.heap.size, 0, rfl, by omega, fun j hj => ?_⟩⟩
    match j, hj with
    | 0, _ => simp [c0]
    | 1, _ => simp [c1]
    | 2, _ => simp [c2]
    | 3, _ => simp [c3]
    | 4, _ => simp [c4]
  refine (joinAll_any [f0, f1, f2, f3, f4] ⟨#[]⟩ _ _ hrd (by simp [tot]; omega) (by simp) (by decide)).mono ?_
  rintro e w' ⟨rfl, hb2⟩
  exact ⟨by rw [join5], hb0.trans (hb2.mono (by omega))⟩
theorem Sn.setV {w0 W : World} {L : List Item} {e : TypeId} {xs : List Value} {g n c : Nat} {F : List Nat} (h : Sn w0 W (⟨flat e xs, .slice (some ⟨g, 0, none⟩) n c, F⟩ :: L)) (hl : xs.length = n) (i : Nat) (y : Value) :
    Sn w0 (W.setCell ⟨g, i, none⟩ y) (⟨flat e (xs.set i y), .slice (some ⟨g, 0, none⟩) n c, F⟩ :: L) := by
  have ho := (own_flat h.2.1).1
  have hF : F = [g] := (own_flat h.2.1).2
  have ho : W.ownsRow w0.heap.size e 1 (.slice (some ⟨g, 0, none⟩) n c) xs.length xs := ho
  rw [hl] at ho
  have hs := (ho.stored i y).1
  have hf := flat_own hs
  subst hF
  exact h.turn (t' := flat e (xs.set i y)) hf.1 hf.2 (fun k hk => .inl hk) (Wr.setCell W ⟨g, i, none⟩ (by simp) _)
theorem Sn.cellV {w0 W : World} {L : List Item} {e : TypeId} {xs : List Value} {g n c : Nat} {F : List Nat} (h : Sn w0 W (⟨flat e xs, .slice (some ⟨g, 0, none⟩) n c, F⟩ :: L)) (hl : xs.length = n) {i : Nat} (hi : i < xs.length) :
    W.cell? ⟨g, i, none⟩ = some xs[i] ∧ W.frozen? ⟨g, i, none⟩ = false := by
  obtain ⟨ho, _⟩ := own_flat h.2.1
  have ho : W.ownsRow w0.heap.size e 1 (.slice (some ⟨g, 0, none⟩) n c) xs.length xs := ho
  rw [hl] at ho
  exact ⟨(ho.cellAt i (by omega)).trans (List.getElem?_eq_getElem hi), ho.frozenAt i⟩
theorem Sn.appV {w0 W w6 : World} {L : List Item} {e : TypeId} {xs : List Value} {v v' : Value} {F : List Nat} {r : Value} {n : Nat} {o : Obj}
    (h : Sn w0 W (⟨flat e xs, v, F⟩ :: L)) (hown : w6.ownsRow w0.heap.size e 1 v' n (xs ++ [r]))
    (hg : (W.alloc o).grownBy w6 v.ownBlock) (hat : v'.ownBlock = v.ownBlock ∨ v'.ownBlock = some (W.heap.size + 1)) : ∃ F', Sn w0 w6 (⟨flat e (xs ++ [r]), v', F'⟩ :: L) := by
  have h1 := h.go ((Below.refl W.heap.size W).alloc (Nat.le_refl _) o)
  have hF : F = v.ownBlock.toList := (own_flat h1.2.1).2
  have hw : Wr F (W.alloc o) w6 := hF ▸ Wr.of_grown hg
  refine ⟨_, h1.turn (t' := flat e (xs ++ [r])) (flat_own hown).1 (flat_own hown).2 (fun k hk => ?_) hw⟩
  rcases hat with h2 | h2
  · left; show k ∈ F; rw [hF, ← h2]; exact hk
  · right
    rw [h2] at hk
    simp at hk
    rw [World.size_alloc]; omega
def wV (p : Pj) (s : Sc) : Nat → Value := fun a => .string (wordA p s a)
theorem wV_all (p : Pj) (s : Sc) (n : Nat) : (List.range n).map (wV p s) = (wordsK p s n).map .string := by simp [wordsK, wV]

set_option maxRecDepth 100000 in
set_option maxHeartbeats 8000000 in
theorem implFormatSchedule_any (p : Pj) (s : Sc) (v u : Value) (w : World) (hv : (trPj p).rd w v) (hk : (trPj p).ok) (hs : (trSc s).rd w u) (ht : TB w) :
    Calls Tryz.prog 10 #[v, u] w fun e w' => e = .returned (.string (fmtScB p s)) ∧ Below w.heap.size w w' := by
  have HK := Lib.hid hk
  have HT := Lib.hid ht
  clear hk ht
  have HV := Lib.hid hv
  obtain ⟨A1, c1, A2, c2, A3, c3, A4, c4, rfl, r1, r2, r3, r4⟩ := rdProject_t hv
  obtain ⟨hl2, B2, d2, he, g2⟩ := rdLinkS_t r2
  injection he with he _ he2
  subst he he2
  have G2 := Lib.hid g2
  obtain ⟨hl1, B1, d1, he, g1⟩ := rdActivityS_t r1
  injection he with he _ he2
  subst he he2
  have G1 := Lib.hid g1
  clear hv r1 r2 r3 r4 g1 g2
  have S0 := Lib.hid ((Sn.start w).box 37 [.int .i64 p.dl, .slice A1 p.acts.length c1, .slice A2 p.lks.length c2, .slice A3 p.ress.length c3, .slice A4 p.stk.length c4])
  clear S0
  have HQ := Lib.hid hs
  obtain ⟨E1, f1, E2, f2, rfl, q1, q2⟩ := rdSchedule_t hs
  obtain ⟨ht1, B8, d8, he, x1⟩ := rdI (rd_flat q1)
  injection he with he _ he2
  subst he he2
  have X1 := Lib.hid x1
  obtain ⟨ht2, B9, d9, he, x2⟩ := rdI (rd_flat q2)
  injection he with he _ he2
  subst he he2
  have X2 := Lib.hid x2
  clear hs q1 q2 x1 x2
  have S0 := Lib.hid (((Sn.start w).box 37 [.int .i64 p.dl, .slice A1 p.acts.length c1, .slice A2 p.lks.length c2, .slice A3 p.ress.length c3, .slice A4 p.stk.length c4]).box 39 [.slice E1 s.st.length f1, .slice E2 s.mo.length f2])
  simp only [World.size_alloc] at S0
  go_enter Tryz.func10, Tryz.ntmps10
  go_wp2_with fail
  refine (implForm_any p s _ _ _ (by exact S0.out.old HV.out) HK.out (by exact S0.out.old HQ.out)).mono ?_
  rintro e w1 ⟨rfl, b⟩
  have S1 := Lib.hid (S0.out.go b)
  clear S0 b
  rcases hok : formB p s with _ | _
  · have HR := Lib.hid (fmtSc_bad hok)
    clear hok
    go_wp2
    go_ret
    exact ⟨by rw [HR.out] <;> rfl, S1.out.1⟩
  have HR := Lib.hid (fmtSc_yes hok)
  have HF := Lib.hid (form_of hok)
  have h6 := HF.out.n6
  have H1 := Lib.hid HF.out.h1
  have H2 := Lib.hid HF.out.h2
  rw [H1.out, H2.out] at HQ S1 ⊢
  obtain ⟨q0, q1, qf⟩ := (S1.out.bk 0 rfl).c2
  obtain ⟨i0, hi0, hz0, hz1, hz2⟩ := info_parts infoString
  clear hok
  go_wp2_with (at_make; refine wpList_make_full _ rfl _ _ 54 rfl w1.heap.size 9 i0 (.string ⟨#[]⟩) 1 Tryz.underlying54 hi0 hz0 hz1 .i64 .i64 _ _ p.acts.length rfl rfl rfl rfl (by rw [hz2]; omega) (by unfold maxLen; omega) (Nat.le_refl _) ?_; intro w2 hown2 hgrow2; have hml := own_len hown2; have S2 := Lib.hid (S1.out.newI hown2 ((Below.refl _ _).grown hgrow2 (Nat.le_refl _) (by simp))); clear q0 q1 qf hown2 hgrow2 S1; obtain ⟨q0, q1, qf⟩ := (S2.out.bk 1 rfl).c2)
  clear q0 q1 qf
  generalize hms : (madeCells (Value.string ⟨#[]⟩).cells (p.acts.length * 1)).toList = ms at S2 hml
  have HML := Lib.hid hml
  clear hms hml
  generalize w1.heap.size = g at S2 ⊢
  go_loopw [19] (fun i wr => ∃ k : Nat, k ≤ p.acts.length ∧ i = .int .i64 k ∧ Sn w wr [⟨flat 9 (mix (wV p s) ms k), .slice (some ⟨g, 0, none⟩) p.acts.length p.acts.length, [g]⟩, boxI (w.heap.size + 1) 39 [.slice E1 p.acts.length f1, .slice E2 p.acts.length f2], boxI w.heap.size 37 [.int .i64 p.dl, .slice A1 p.acts.length c1, .slice A2 p.lks.length c2, .slice A3 p.ress.length c3, .slice A4 p.stk.length c4]]) (fun i _ => p.acts.length - (intOf i).toNat)
  case atStart => exact ⟨0, Nat.zero_le _, rfl, by rw [mix_zero]; exact S2.out⟩
  case round =>
    obtain ⟨k, hkl, rfl, hS⟩ := hrel
    have S3 := Lib.hid hS
    clear hS S2
    by_cases hlt : k < p.acts.length
    · have hlt' : (k : Int) < (p.acts.length : Int) := by omega
      have k0 : (0 : Int) ≤ (k : Int) := by omega
      obtain ⟨b1, o1, rfl, hb1, hc1⟩ := G1.out k hlt
      obtain ⟨M, cm, x0, x1, x2, rm⟩ := hc1 k hlt
      obtain ⟨b8, o8, rfl, hb8, hc8⟩ := X1.out k (by rw [H1.out]; exact hlt)
      obtain ⟨b9, o9, rfl, hb9, hc9⟩ := X2.out k (by rw [H2.out]; exact hlt)
      have y8 := (S3.out.1.cell (p := ⟨b8, o8 + k, none⟩) hb8).trans (hc8 k (by rw [H1.out]; exact hlt))
      have y9 := hc9 k (by rw [H2.out]; exact hlt)
      rw [← stA_at] at y8
      rw [← moA_at] at y9
      rw [← nmA_at hlt] at x0
      have hwd := Lib.hid (show wV p s k = .string (nmA p k ++ ⟨#[64]⟩ ++ fmtB (stA s k) ++ ⟨#[47]⟩ ++ fmtB (moA s k)) from rfl)
      have hnm := HF.out.nm hlt
      have hst := HF.out.st k hlt
      obtain ⟨j, hj, hmo, hmd⟩ := HF.out.mo k hlt
      have hm3 := (aok_modes ((pok_acts HF.out.ok).2 _ (List.getElem_mem hlt))).1
      have hmw : 0 ≤ moA s k ∧ moA s k ≤ 3 := by omega
      have hs1 := fmtB_size (stA s k)
      have hs2 := fmtB_size (moA s k)
      have MS := Lib.hid (mix_set (wV p s) ms (j := k) (by rw [HML.out]; exact hlt))
      have ML := Lib.hid (mix_len (wV p s) ms (j := k) (by rw [HML.out]; exact hkl))
      generalize stA s k = st at y8 hwd hst hs1
      generalize moA s k = mo at y9 hwd hmw hs2 hmo
      generalize nmA p k = nm at x0 hwd hnm
      generalize hxs : mix (wV p s) ms k = xs at S3 MS ML
      clear hc1 x1 x2 rm hc8 hc9 hmo hm3 hmd hj hxs
      go_wp2_with fail
      clear y8
      obtain ⟨p0, p1, p2, p3, p4, pf⟩ := (S3.out.bk 2 rfl).c5
      obtain ⟨q0, q1, qf⟩ := (S3.out.bk 1 rfl).c2
      have hl1 := (S3.out.bk 1 rfl).lt
      have hl2 := (S3.out.bk 2 rfl).lt
      have hgw := (Tr.own_lt _ _ _ (S3.out.own 0 rfl).1 g (by simp)).2
      have hgb := (Tr.own_lt _ _ _ (S3.out.own 0 rfl).1 g (by simp)).1
      have hn1 : w.heap.size + 1 ∉ [g] := fun e => S3.out.2.apart (i := 0) (j := 1) rfl rfl (by omega) g (by simp) (by simpa [boxI] using (List.mem_singleton.1 e).symm)
      have hn2 : w.heap.size ∉ [g] := fun e => S3.out.2.apart (i := 0) (j := 2) rfl rfl (by omega) g (by simp) (by simpa [boxI] using (List.mem_singleton.1 e).symm)
      have hsz := S3.out.1.size
      have z0 := (S3.out.1.cell (p := ⟨b1, o1 + k * 3, none⟩) hb1).trans x0
      have z9 := (S3.out.1.cell (p := ⟨b9, o9 + k, none⟩) hb9).trans y9
      have S4 := Lib.hid S3.out.drew1
      have TBd := Lib.hid (HT.out.below S4.out.1 (Nat.le_refl _))
      clear x0 y9
      have CE := Lib.hid (fun (W : World) (h : Wr [g] wr.drew W) => show Hid (Wr [g] wr.drew W) ∧ W.cell? ⟨w.heap.size, 1, none⟩ = some (.slice (some ⟨b1, o1, none⟩) p.acts.length c1) ∧ W.cell? ⟨b1, o1 + k * 3, none⟩ = some (.string nm) ∧ W.cell? ⟨w.heap.size + 1, 1, none⟩ = some (.slice (some ⟨b9, o9, none⟩) p.acts.length f2) ∧ W.cell? ⟨b9, o9 + k, none⟩ = some (.int .i64 mo) from ⟨Lib.hid h, (wr_cell h (p := ⟨w.heap.size, 1, none⟩) hl2 hn2).trans (by exact by simpa using p1), (wr_cell h (p := ⟨b1, o1 + k * 3, none⟩) (by show b1 < _; simp; omega) (by show b1 ∉ _; simp only [List.mem_singleton]; omega)).trans (by exact by simpa using z0), (wr_cell h (p := ⟨w.heap.size + 1, 1, none⟩) hl1 hn1).trans (by exact by simpa using q1), (wr_cell h (p := ⟨b9, o9 + k, none⟩) (by show b9 < _; simp; omega) (by show b9 ∉ _; simp only [List.mem_singleton]; omega)).trans (by exact by simpa using z9)⟩)
      have INIT := Lib.hid (CE.out _ (Wr.refl _ _))
      have KW := Lib.hid (fun (W2 W : World) (hb : Wr [g] W W2) (h : Hid (Wr [g] wr.drew W) ∧ W.cell? ⟨w.heap.size, 1, none⟩ = some (.slice (some ⟨b1, o1, none⟩) p.acts.length c1) ∧ W.cell? ⟨b1, o1 + k * 3, none⟩ = some (.string nm) ∧ W.cell? ⟨w.heap.size + 1, 1, none⟩ = some (.slice (some ⟨b9, o9, none⟩) p.acts.length f2) ∧ W.cell? ⟨b9, o9 + k, none⟩ = some (.int .i64 mo)) => CE.out W2 (h.1.out.trans hb))
      clear z0 z9 p0 p1 p2 p3 p4 pf q0 q1 qf hn1 hn2 S3
      refine wpAnyZ_start 19 (fun W => Hid (Wr [g] wr.drew W) ∧ W.cell? ⟨w.heap.size, 1, none⟩ = some (.slice (some ⟨b1, o1, none⟩) p.acts.length c1) ∧ W.cell? ⟨b1, o1 + k * 3, none⟩ = some (.string nm) ∧ W.cell? ⟨w.heap.size + 1, 1, none⟩ = some (.slice (some ⟨b9, o9, none⟩) p.acts.length f2) ∧ W.cell? ⟨b9, o9 + k, none⟩ = some (.int .i64 mo)) (by kernel_rfl) INIT.out (fun hHeld => ?_)
      clear CE INIT
      refine wpAnyZ_take (i := 0) (v := ?_) rfl (by kernel_rfl) (by kernel_rfl) (by kernel_rfl) (fun _ _ _ h => h) (Or.inl ⟨by rfl, ?_⟩) (by assumption) ?_
      rotate_left
      · (intro W hSw; (try dsimp only at hSw); go_simp <;> with_reducible rfl)
      (try simp only [Act.put])
      refine wpAnyZ_take (i := 1) (v := ?_) rfl (by kernel_rfl) (by kernel_rfl) (by kernel_rfl) (fun _ _ _ h => h) (Or.inl ⟨by rfl, ?_⟩) (by assumption) ?_
      rotate_left
      · (intro W hSw; (try dsimp only at hSw); go_simp <;> with_reducible rfl)
      (try simp only [Act.put])
      refine wpAnyZ_take (i := 2) (v := ?_) rfl (by kernel_rfl) (by kernel_rfl) (by kernel_rfl) (fun _ _ _ h => h) (Or.inl ⟨by rfl, ?_⟩) (by assumption) ?_
      rotate_left
      · (intro W hSw; (try dsimp only at hSw); go_simp <;> with_reducible rfl)
      (try simp only [Act.put])
      refine wpAnyZ_take (i := 3) (v := ?_) rfl (by kernel_rfl) (by kernel_rfl) (by kernel_rfl) (fun _ _ _ h => h) (Or.inl ⟨by rfl, ?_⟩) (by assumption) ?_
      rotate_left
      · (intro W hSw; (try dsimp only at hSw); go_simp <;> with_reducible rfl)
      (try simp only [Act.put])
      refine wpAnyZ_take (i := 4) (v := ?_) rfl (by kernel_rfl) (by kernel_rfl) (by kernel_rfl) (fun _ _ _ h => h) (Or.inl ⟨by rfl, ?_⟩) (by assumption) ?_
      rotate_left
      · (intro W hSw; (try dsimp only at hSw); go_simp <;> with_reducible rfl)
      (try simp only [Act.put])
      refine wpAnyZ_take (i := 5) (v := ?_) rfl (by kernel_rfl) (by kernel_rfl) (by kernel_rfl) (fun _ _ _ h => h) (Or.inl ⟨by rfl, ?_⟩) (by assumption) ?_
      rotate_left
      · (intro W hSw; (try dsimp only at hSw); go_simp <;> with_reducible rfl)
      (try simp only [Act.put])
      refine wpAnyZ_take (i := 6) (v := ?_) rfl (by kernel_rfl) (by kernel_rfl) (by kernel_rfl) (fun _ _ _ h => h) (Or.inl ⟨by rfl, ?_⟩) (by assumption) ?_
      rotate_left
      · (intro W hSw; (try dsimp only at hSw); go_simp <;> with_reducible rfl)
      (try simp only [Act.put])
      refine wpAnyZ_take (i := 7) (v := ?_) rfl (by kernel_rfl) (by kernel_rfl) (by kernel_rfl) (fun _ _ _ h => h) (Or.inl ⟨by rfl, ?_⟩) (by assumption) ?_
      rotate_left
      · (intro W hSw; (try dsimp only at hSw); go_simp <;> with_reducible rfl)
      (try simp only [Act.put])
      refine wpAnyZ_take (i := 8) (v := ?_) rfl (by kernel_rfl) (by kernel_rfl) (by kernel_rfl) (fun _ _ _ h => h) (Or.inl ⟨by rfl, ?_⟩) (by assumption) ?_
      rotate_left
      · (intro W hSw; (try dsimp only at hSw); go_simp <;> with_reducible rfl)
      (try simp only [Act.put])
      refine wpAnyZ_take (i := 10) (v := ?_) rfl (by kernel_rfl) (by kernel_rfl) (by kernel_rfl) (fun _ _ _ h => h) (Or.inl ⟨by rfl, ?_⟩) (by assumption) ?_
      rotate_left
      · (intro W hSw; (try dsimp only at hSw); go_simp <;> with_reducible rfl)
      (try simp only [Act.put])
      refine wpAnyZ_take (i := 11) (v := ?_) rfl (by kernel_rfl) (by kernel_rfl) (by kernel_rfl) (fun _ _ _ h => h) (Or.inl ⟨by rfl, ?_⟩) (by assumption) ?_
      rotate_left
      · (intro W hSw; (try dsimp only at hSw); go_simp <;> with_reducible rfl)
      (try simp only [Act.put])
      refine wpAnyZ_take (i := 12) (v := ?_) rfl (by kernel_rfl) (by kernel_rfl) (by kernel_rfl) (fun _ _ _ h => h) (Or.inl ⟨by rfl, ?_⟩) (by assumption) ?_
      rotate_left
      · (intro W hSw; (try dsimp only at hSw); go_simp <;> with_reducible rfl)
      (try simp only [Act.put])
      refine wpAnyZ_take (i := 13) (v := ?_) rfl (by kernel_rfl) (by kernel_rfl) (by kernel_rfl) (fun _ _ _ h => h) (Or.inl ⟨by rfl, ?_⟩) (by assumption) ?_
      rotate_left
      · (intro W hSw; (try dsimp only at hSw); go_simp <;> with_reducible rfl)
      (try simp only [Act.put])
      refine wpAnyZ_take (i := 14) (v := ?_) rfl (by kernel_rfl) (by kernel_rfl) (by kernel_rfl) (fun _ _ _ h => h) (Or.inl ⟨by rfl, ?_⟩) (by assumption) ?_
      rotate_left
      · (intro W hSw; (try dsimp only at hSw); go_simp <;> with_reducible rfl)
      (try simp only [Act.put])
      refine wpAnyZ_one (i := 9) (by kernel_rfl) rfl (fun K hK => ?_)
      go_simp
      go_at_call 31
      refine (implFmt_any st _ (by omega) (by omega) TBd.out).mono ?_
      rintro e w9 ⟨rfl, bb5⟩
      (first | done | go_wp2_with fail)
      refine hK.out _ _ (KW.out _ _ (Wr.of_below bb5 (Nat.le_refl _)) hHeld) (fun hHeld9 => ?_)
      clear hK K
      have S5 := Lib.hid (S4.out.go bb5)
      have TB5 := Lib.hid (TBd.out.below bb5 (Nat.le_refl _))
      refine wpAnyZ_one (i := 15) (by kernel_rfl) rfl (fun K hK => ?_)
      go_simp
      go_at_call 31
      refine (implFmt_any mo _ (by omega) (by omega) TB5.out).mono ?_
      rintro e w15 ⟨rfl, bb6⟩
      (first | done | go_wp2_with fail)
      refine hK.out _ _ (KW.out _ _ (Wr.of_below bb6 (Nat.le_refl _)) hHeld9) (fun hHeld15 => ?_)
      clear hK K
      have S6 := Lib.hid (S5.out.go bb6)
      refine wpAnyZ_one (i := 16) (by kernel_rfl) rfl (fun K hK => ?_)
      go_simp
      refine hK.out _ _ (KW.out _ _ (Wr.of_below ((Below.refl _ _).alloc (Nat.le_refl _) _) (Nat.le_refl _)) hHeld15) (fun hHeld16 => ?_)
      clear hK K
      refine wpAnyZ_one (i := 17) (by kernel_rfl) rfl (fun K hK => ?_)
      go_simp
      go_at_call 30
      refine (joinFive_any nm ⟨#[64]⟩ (fmtB st) ⟨#[47]⟩ (fmtB mo) _ w15 (by omega) (by decide) (by omega) (by decide) (by omega)).mono ?_
      rintro e w17 ⟨rfl, bb7⟩
      (first | done | go_wp2_with fail)
      refine hK.out _ _ (KW.out _ _ (Wr.of_below bb7 (Nat.le_refl _)) hHeld15) (fun hHeld17 => ?_)
      clear hK K
      have S7 := Lib.hid (S6.out.go bb7)
      have CV := S7.out.cellV (ML.out.trans HML.out) (i := k) (by rw [ML.out, HML.out]; exact hlt)
      have hcv := CV.1
      have hfv := CV.2
      have S8 := S7.out.setV (ML.out.trans HML.out) k (wV p s k)
      rw [MS.out] at S8
      rw [hwd.out] at S8
      have S9 := Lib.hid S8
      generalize xs[k]'_ = z at hcv
      clear CV S8 bb5 bb6 bb7 TBd TB5 KW
      refine wpAnyZ_take (i := 18) (v := ?_) rfl (by kernel_rfl) (by kernel_rfl) (by kernel_rfl) (fun _ _ _ h => h) (Or.inl ⟨by rfl, ?_⟩) (by assumption) ?_
      rotate_left
      · (intro W hSw; (try dsimp only at hSw); go_simp <;> with_reducible rfl)
      (try simp only [Act.put])
      refine wpAnyZ_last (by kernel_rfl) (by kernel_rfl) rfl (fun K hK => ?_)
      go_simp
      refine hK.out _ _ ?_
      clear hK K
      generalize World.setCell w17 _ _ = w8 at S9 ⊢
      clear hHeld hHeld9 hHeld15 hHeld16 hHeld17 S4 S5 S6 S7 hcv hfv MS
      go_wp2
      go_roundw
      case rel => exact ⟨k + 1, by omega, by go_num, S9.out⟩
      case measure => simp [intOf]; omega
    · have hge : ¬ (k : Int) < (p.acts.length : Int) := by omega
      obtain rfl : k = p.acts.length := by omega
      rw [mix_full _ _ HML.out, wV_all] at S3
      have hto := words_tot HF.out p.acts.length (Nat.le_refl _)
      have hwl := wordsK_len p s p.acts.length
      go_wp2_with fail
      refine (joinAll_any (wordsK p s p.acts.length) ⟨#[32]⟩ _ _ (by exact rd_flat (S3.out.rd 0 rfl)) (by omega) (by omega) (by decide)).mono ?_
      rintro e w7 ⟨rfl, bb⟩
      have S4 := Lib.hid (S3.out.go bb)
      clear S3 bb
      have HR2 := Lib.hid (show fmtScB p s = joinB (wordsK p s p.acts.length) ⟨#[32]⟩ from HR.out)
      rw [← HR2.out]
      go_wp2
      go_ret
      exact ⟨rfl, S4.out.1⟩

set_option maxRecDepth 100000 in
set_option maxHeartbeats 8000000 in
theorem specFormatSchedule_any (p : Pj) (s : Sc) (v u : Value) (w : World) (hv : (trPj p).rd w v) (hk : (trPj p).ok) (hs : (trSc s).rd w u) :
    Calls Tryz.prog 7 #[v, u] w fun e w' => e = .returned (.string (fmtScB p s)) ∧ Below w.heap.size w w' := by
  have HK := Lib.hid hk
  clear hk
  have HV := Lib.hid hv
  obtain ⟨A1, c1, A2, c2, A3, c3, A4, c4, rfl, r1, r2, r3, r4⟩ := rdProject_t hv
  obtain ⟨hl2, B2, d2, he, g2⟩ := rdLinkS_t r2
  injection he with he _ he2
  subst he he2
  have G2 := Lib.hid g2
  obtain ⟨hl1, B1, d1, he, g1⟩ := rdActivityS_t r1
  injection he with he _ he2
  subst he he2
  have G1 := Lib.hid g1
  clear hv r1 r2 r3 r4 g1 g2
  have S0 := Lib.hid ((Sn.start w).box 37 [.int .i64 p.dl, .slice A1 p.acts.length c1, .slice A2 p.lks.length c2, .slice A3 p.ress.length c3, .slice A4 p.stk.length c4])
  clear S0
  have HQ := Lib.hid hs
  obtain ⟨E1, f1, E2, f2, rfl, q1, q2⟩ := rdSchedule_t hs
  obtain ⟨ht1, B8, d8, he, x1⟩ := rdI (rd_flat q1)
  injection he with he _ he2
  subst he he2
  have X1 := Lib.hid x1
  obtain ⟨ht2, B9, d9, he, x2⟩ := rdI (rd_flat q2)
  injection he with he _ he2
  subst he he2
  have X2 := Lib.hid x2
  clear hs q1 q2 x1 x2
  have S0 := Lib.hid (((Sn.start w).box 37 [.int .i64 p.dl, .slice A1 p.acts.length c1, .slice A2 p.lks.length c2, .slice A3 p.ress.length c3, .slice A4 p.stk.length c4]).box 39 [.slice E1 s.st.length f1, .slice E2 s.mo.length f2])
  simp only [World.size_alloc] at S0
  go_enter Tryz.func7, Tryz.ntmps7
  go_wp2_with fail
  refine (specForm_any p s _ _ _ (by exact S0.out.old HV.out) HK.out (by exact S0.out.old HQ.out)).mono ?_
  rintro e w1 ⟨rfl, b⟩
  have S1 := Lib.hid (S0.out.go b)
  clear S0 b
  rcases hok : formB p s with _ | _
  · have HR := Lib.hid (fmtSc_bad hok)
    clear hok
    go_wp2
    go_ret
    exact ⟨by rw [HR.out] <;> rfl, S1.out.1⟩
  have HR := Lib.hid (fmtSc_yes hok)
  have HF := Lib.hid (form_of hok)
  have h6 := HF.out.n6
  have H1 := Lib.hid HF.out.h1
  have H2 := Lib.hid HF.out.h2
  rw [H1.out, H2.out] at HQ S1 ⊢
  have S2 := Lib.hid (show Sn w _ (⟨flat 9 [], .slice (some ⟨w1.heap.size, 0, none⟩) 0 0, [w1.heap.size]⟩ :: _) from S1.out.emptyR (α := Nat) 9 1 (fun _ => []))
  clear S1
  obtain ⟨e0, e1, e2, e3, e4, ef⟩ := (S2.out.bk 2 rfl).c5
  obtain ⟨i0, hi0, hz0, hz1, hz2⟩ := info_parts infoString
  clear hok
  go_wp2
  clear e0 e1 e2 e3 e4 ef
  go_loopw [5, 16] (fun u i wr => ∃ (k : Nat) (F : List Nat), k ≤ p.acts.length ∧ i = .int .i64 k ∧ Sn w wr [⟨flat 9 ((wordsK p s k).map .string), u, F⟩, boxI (w.heap.size + 1) 39 [.slice E1 p.acts.length f1, .slice E2 p.acts.length f2], boxI w.heap.size 37 [.int .i64 p.dl, .slice A1 p.acts.length c1, .slice A2 p.lks.length c2, .slice A3 p.ress.length c3, .slice A4 p.stk.length c4]]) (fun _ i _ => p.acts.length - (intOf i).toNat)
  case atStart => exact ⟨0, _, Nat.zero_le _, rfl, S2.out⟩
  case round =>
    obtain ⟨k, F, hkl, rfl, hS⟩ := hrel
    have S3 := Lib.hid hS
    clear hS S2
    obtain ⟨_, U, cu, hu, _⟩ := rd_flat (S3.out.rd 0 rfl)
    rw [List.length_map, wordsK_len] at hu
    subst hu
    by_cases hlt : k < p.acts.length
    · have hlt' : (k : Int) < (p.acts.length : Int) := by omega
      have k0 : (0 : Int) ≤ (k : Int) := by omega
      obtain ⟨b1, o1, rfl, hb1, hc1⟩ := G1.out k hlt
      obtain ⟨M, cm, x0, x1, x2, rm⟩ := hc1 k hlt
      obtain ⟨b8, o8, rfl, hb8, hc8⟩ := X1.out k (by rw [H1.out]; exact hlt)
      obtain ⟨b9, o9, rfl, hb9, hc9⟩ := X2.out k (by rw [H2.out]; exact hlt)
      have y8 := hc8 k (by rw [H1.out]; exact hlt)
      have y9 := hc9 k (by rw [H2.out]; exact hlt)
      rw [← stA_at] at y8
      rw [← moA_at] at y9
      rw [← nmA_at hlt] at x0
      have WS := Lib.hid (show wordsK p s (k + 1) = wordsK p s k ++ [nmA p k ++ ⟨#[64]⟩ ++ fmtB (stA s k) ++ ⟨#[47]⟩ ++ fmtB (moA s k)] from wordsK_succ p s k)
      have hwl := Lib.hid (wordsK_len p s k)
      have hnm := HF.out.nm hlt
      have hst := HF.out.st k hlt
      obtain ⟨j, hj, hmo, hmd⟩ := HF.out.mo k hlt
      have hm3 := (aok_modes ((pok_acts HF.out.ok).2 _ (List.getElem_mem hlt))).1
      have hmw : 0 ≤ moA s k ∧ moA s k ≤ 3 := by omega
      have hs1 := fmtB_size (stA s k)
      have hs2 := fmtB_size (moA s k)
      have z0 := (S3.out.1.cell (p := ⟨b1, o1 + k * 3, none⟩) hb1).trans x0
      have z1 := (S3.out.1.cell (p := ⟨b1, o1 + k * 3 + 1, none⟩) hb1).trans x1
      have z2 := (S3.out.1.cell (p := ⟨b1, o1 + k * 3 + 2, none⟩) hb1).trans x2
      clear hc1 x0 x1 x2 rm hc8 hc9 hmo hm3 hmd hj
      generalize stA s k = st at y8 WS hst hs1
      generalize moA s k = mo at y9 WS hmw hs2
      generalize nmA p k = nm at z0 WS hnm
      generalize wordsK p s k = ws at S3 WS hwl
      generalize p.acts[k].fa = afa at z1
      generalize p.acts[k].ms.length = nms at z2
      have S4 := Lib.hid (S3.out.box 57 [.string nm, .int .i64 afa, .slice M nms cm])
      go_wp2_with fail
      clear z0 z1 z2
      generalize wr.heap.size = ga at S4 ⊢
      generalize World.alloc wr _ = wv at S4 ⊢
      obtain ⟨c0, c1', c2', cf⟩ := (S4.out.bk 0 rfl).c3
      obtain ⟨q0, q1, qf⟩ := (S4.out.bk 2 rfl).c2
      have hl0 := (S4.out.bk 0 rfl).lt
      have hl2 := (S4.out.bk 2 rfl).lt
      have FL := Tr.own_lt _ _ _ (S4.out.own 1 rfl).1
      have hn0 : ga ∉ F := fun e => S4.out.2.apart (i := 0) (j := 1) rfl rfl (by omega) ga (by simp [boxI]) e
      have hn2 : w.heap.size + 1 ∉ F := fun e => S4.out.2.apart (i := 1) (j := 2) rfl rfl (by omega) (w.heap.size + 1) e (by simp [boxI])
      have hn8 : b8 ∉ F := fun e => by have := (FL b8 e).1; omega
      have hn9 : b9 ∉ F := fun e => by have := (FL b9 e).1; omega
      have hsz := S4.out.1.size
      have z8 := (S4.out.1.cell (p := ⟨b8, o8 + k, none⟩) hb8).trans y8
      have z9 := (S4.out.1.cell (p := ⟨b9, o9 + k, none⟩) hb9).trans y9
      have S5 := Lib.hid S4.out.drew1
      have hq1 : ¬ 9223372036854775807 < nm.size + 1 := by omega
      have hq2 : ¬ 9223372036854775807 < nm.size + 1 + (fmtB st).size := by omega
      have hq3 : ¬ 9223372036854775807 < nm.size + 1 + (fmtB st).size + 1 := by omega
      have hq4 : ¬ 9223372036854775807 < nm.size + 1 + (fmtB st).size + 1 + (fmtB mo).size := by omega
      clear y8 y9
      have CE := Lib.hid (fun (W : World) (h : Wr F wv.drew W) => show Hid (Wr F wv.drew W) ∧ W.cell? ⟨ga, 0, none⟩ = some (.string nm) ∧ W.cell? ⟨w.heap.size + 1, 0, none⟩ = some (.slice (some ⟨b8, o8, none⟩) p.acts.length f1) ∧ W.cell? ⟨w.heap.size + 1, 1, none⟩ = some (.slice (some ⟨b9, o9, none⟩) p.acts.length f2) ∧ W.cell? ⟨b8, o8 + k, none⟩ = some (.int .i64 st) ∧ W.cell? ⟨b9, o9 + k, none⟩ = some (.int .i64 mo) from ⟨Lib.hid h, (wr_cell h (p := ⟨ga, 0, none⟩) hl0 hn0).trans (by exact by simpa using c0), (wr_cell h (p := ⟨w.heap.size + 1, 0, none⟩) hl2 hn2).trans (by exact by simpa using q0), (wr_cell h (p := ⟨w.heap.size + 1, 1, none⟩) hl2 hn2).trans (by exact by simpa using q1), (wr_cell h (p := ⟨b8, o8 + k, none⟩) (by show b8 < _; simp; omega) hn8).trans (by exact by simpa using z8), (wr_cell h (p := ⟨b9, o9 + k, none⟩) (by show b9 < _; simp; omega) hn9).trans (by exact by simpa using z9)⟩)
      have INIT := Lib.hid (CE.out _ (Wr.refl _ _))
      have KW := Lib.hid (fun (W2 W : World) (hb : Wr F W W2) (h : Hid (Wr F wv.drew W) ∧ W.cell? ⟨ga, 0, none⟩ = some (.string nm) ∧ W.cell? ⟨w.heap.size + 1, 0, none⟩ = some (.slice (some ⟨b8, o8, none⟩) p.acts.length f1) ∧ W.cell? ⟨w.heap.size + 1, 1, none⟩ = some (.slice (some ⟨b9, o9, none⟩) p.acts.length f2) ∧ W.cell? ⟨b8, o8 + k, none⟩ = some (.int .i64 st) ∧ W.cell? ⟨b9, o9 + k, none⟩ = some (.int .i64 mo)) => CE.out W2 (h.1.out.trans hb))
      clear z8 z9 c0 c1' c2' cf q0 q1 qf hn0 hn2 hn8 hn9 S3 S4 FL
      refine wpAnyZ_start 21 (fun W => Hid (Wr F wv.drew W) ∧ W.cell? ⟨ga, 0, none⟩ = some (.string nm) ∧ W.cell? ⟨w.heap.size + 1, 0, none⟩ = some (.slice (some ⟨b8, o8, none⟩) p.acts.length f1) ∧ W.cell? ⟨w.heap.size + 1, 1, none⟩ = some (.slice (some ⟨b9, o9, none⟩) p.acts.length f2) ∧ W.cell? ⟨b8, o8 + k, none⟩ = some (.int .i64 st) ∧ W.cell? ⟨b9, o9 + k, none⟩ = some (.int .i64 mo)) (by kernel_rfl) INIT.out (fun hHeld => ?_)
      clear CE INIT
      refine wpAnyZ_take (i := 0) (v := ?_) rfl (by kernel_rfl) (by kernel_rfl) (by kernel_rfl) (fun _ _ _ h => h) (Or.inl ⟨by rfl, ?_⟩) (by assumption) ?_
      rotate_left
      · (intro W hSw; (try dsimp only at hSw); go_simp <;> with_reducible rfl)
      (try simp only [Act.put])
      refine wpAnyZ_take (i := 1) (v := ?_) rfl (by kernel_rfl) (by kernel_rfl) (by kernel_rfl) (fun _ _ _ h => h) (Or.inl ⟨by rfl, ?_⟩) (by assumption) ?_
      rotate_left
      · (intro W hSw; (try dsimp only at hSw); go_simp <;> with_reducible rfl)
      (try simp only [Act.put])
      refine wpAnyZ_take (i := 2) (v := ?_) rfl (by kernel_rfl) (by kernel_rfl) (by kernel_rfl) (fun _ _ _ h => h) (Or.inl ⟨by rfl, ?_⟩) (by assumption) ?_
      rotate_left
      · (intro W hSw; (try dsimp only at hSw); go_simp <;> with_reducible rfl)
      (try simp only [Act.put])
      refine wpAnyZ_take (i := 3) (v := ?_) rfl (by kernel_rfl) (by kernel_rfl) (by kernel_rfl) (fun _ _ _ h => h) (Or.inl ⟨by rfl, ?_⟩) (by assumption) ?_
      rotate_left
      · (intro W hSw; (try dsimp only at hSw); go_simp <;> with_reducible rfl)
      (try simp only [Act.put])
      refine wpAnyZ_take (i := 4) (v := ?_) rfl (by kernel_rfl) (by kernel_rfl) (by kernel_rfl) (fun _ _ _ h => h) (Or.inl ⟨by rfl, ?_⟩) (by assumption) ?_
      rotate_left
      · (intro W hSw; (try dsimp only at hSw); go_simp <;> with_reducible rfl)
      (try simp only [Act.put])
      refine wpAnyZ_take (i := 5) (v := ?_) rfl (by kernel_rfl) (by kernel_rfl) (by kernel_rfl) (fun _ _ _ h => h) (Or.inl ⟨by rfl, ?_⟩) (by assumption) ?_
      rotate_left
      · (intro W hSw; (try dsimp only at hSw); go_simp <;> with_reducible rfl)
      (try simp only [Act.put])
      refine wpAnyZ_take (i := 6) (v := ?_) rfl (by kernel_rfl) (by kernel_rfl) (by kernel_rfl) (fun _ _ _ h => h) (Or.inl ⟨by rfl, ?_⟩) (by assumption) ?_
      rotate_left
      · (intro W hSw; (try dsimp only at hSw); go_simp <;> with_reducible rfl)
      (try simp only [Act.put])
      refine wpAnyZ_take (i := 7) (v := ?_) rfl (by kernel_rfl) (by kernel_rfl) (by kernel_rfl) (fun _ _ _ h => h) (Or.inl ⟨by rfl, ?_⟩) (by assumption) ?_
      rotate_left
      · (intro W hSw; (try dsimp only at hSw); go_simp <;> with_reducible rfl)
      (try simp only [Act.put])
      refine wpAnyZ_take (i := 8) (v := ?_) rfl (by kernel_rfl) (by kernel_rfl) (by kernel_rfl) (fun _ _ _ h => h) (Or.inl ⟨by rfl, ?_⟩) (by assumption) ?_
      rotate_left
      · (intro W hSw; (try dsimp only at hSw); go_simp <;> with_reducible rfl)
      (try simp only [Act.put])
      refine wpAnyZ_take (i := 12) (v := ?_) rfl (by kernel_rfl) (by kernel_rfl) (by kernel_rfl) (fun _ _ _ h => h) (Or.inl ⟨by rfl, ?_⟩) (by assumption) ?_
      rotate_left
      · (intro W hSw; (try dsimp only at hSw); go_simp <;> with_reducible rfl)
      (try simp only [Act.put])
      refine wpAnyZ_take (i := 13) (v := ?_) rfl (by kernel_rfl) (by kernel_rfl) (by kernel_rfl) (fun _ _ _ h => h) (Or.inl ⟨by rfl, ?_⟩) (by assumption) ?_
      rotate_left
      · (intro W hSw; (try dsimp only at hSw); go_simp <;> with_reducible rfl)
      (try simp only [Act.put])
      refine wpAnyZ_take (i := 14) (v := ?_) rfl (by kernel_rfl) (by kernel_rfl) (by kernel_rfl) (fun _ _ _ h => h) (Or.inl ⟨by rfl, ?_⟩) (by assumption) ?_
      rotate_left
      · (intro W hSw; (try dsimp only at hSw); go_simp <;> with_reducible rfl)
      (try simp only [Act.put])
      refine wpAnyZ_take (i := 15) (v := ?_) rfl (by kernel_rfl) (by kernel_rfl) (by kernel_rfl) (fun _ _ _ h => h) (Or.inl ⟨by rfl, ?_⟩) (by assumption) ?_
      rotate_left
      · (intro W hSw; (try dsimp only at hSw); go_simp <;> with_reducible rfl)
      (try simp only [Act.put])
      refine wpAnyZ_take (i := 16) (v := ?_) rfl (by kernel_rfl) (by kernel_rfl) (by kernel_rfl) (fun _ _ _ h => h) (Or.inl ⟨by rfl, ?_⟩) (by assumption) ?_
      rotate_left
      · (intro W hSw; (try dsimp only at hSw); go_simp <;> with_reducible rfl)
      (try simp only [Act.put])
      refine wpAnyZ_one (i := 9) (by kernel_rfl) rfl (fun K hK => ?_)
      go_simp
      go_at_call 23
      refine (specFmt_any st _ (by omega) (by omega)).mono ?_
      rintro e w9 ⟨rfl, bb5⟩
      (first | done | go_wp2_with fail)
      refine hK.out _ _ (KW.out _ _ (Wr.of_below bb5 (Nat.le_refl _)) hHeld) (fun hHeld9 => ?_)
      clear hK K
      have S6 := Lib.hid (S5.out.go bb5)
      refine wpAnyZ_take (i := 10) (v := ?_) rfl (by kernel_rfl) (by kernel_rfl) (by kernel_rfl) (fun _ _ _ h => h) (Or.inl ⟨by rfl, ?_⟩) (by assumption) ?_
      rotate_left
      · (intro W hSw; (try dsimp only at hSw); go_simp <;> with_reducible rfl)
      (try simp only [Act.put])
      refine wpAnyZ_take (i := 11) (v := ?_) rfl (by kernel_rfl) (by kernel_rfl) (by kernel_rfl) (fun _ _ _ h => h) (Or.inl ⟨by rfl, ?_⟩) (by assumption) ?_
      rotate_left
      · (intro W hSw; (try dsimp only at hSw); go_simp <;> with_reducible rfl)
      (try simp only [Act.put])
      refine wpAnyZ_one (i := 17) (by kernel_rfl) rfl (fun K hK => ?_)
      go_simp
      go_at_call 23
      refine (specFmt_any mo _ (by omega) (by omega)).mono ?_
      rintro e w17 ⟨rfl, bb6⟩
      (first | done | go_wp2_with fail)
      refine hK.out _ _ (KW.out _ _ (Wr.of_below bb6 (Nat.le_refl _)) hHeld9) (fun hHeld17 => ?_)
      clear hK K
      have S7 := Lib.hid (S6.out.go bb6)
      refine wpAnyZ_take (i := 18) (v := ?_) rfl (by kernel_rfl) (by kernel_rfl) (by kernel_rfl) (fun _ _ _ h => h) (Or.inl ⟨by rfl, ?_⟩) (by assumption) ?_
      rotate_left
      · (intro W hSw; (try dsimp only at hSw); go_simp <;> with_reducible rfl)
      (try simp only [Act.put])
      refine wpAnyZ_one (i := 19) (by kernel_rfl) rfl (fun K hK => ?_)
      go_simp
      refine hK.out _ _ (KW.out _ _ (Wr.of_below ((Below.refl _ _).alloc (Nat.le_refl _) _) (Nat.le_refl _)) hHeld17) (fun hHeld19 => ?_)
      clear hK K
      have OW := Lib.hid (own_flat (S7.out.own 1 rfl).1)
      have how := OW.out.1
      rw [List.length_map, hwl.out] at how
      have HOW := Lib.hid how
      have hFF := OW.out.2
      clear how OW
      refine wpAnyZ_one (i := 20) (by kernel_rfl) rfl (fun K hK => ?_)
      refine step_append_lies _ (by rfl) (.tmp 21) (.tmp 40) 54 (by rfl) w.heap.size 9 i0 (.string ⟨#[]⟩) 1 16 Tryz.underlying54 hi0 hz0 hz1 hz2 rfl (by decide) _ k (ws.map .string) (by rfl) (by exact HOW.out.alloc _) ⟨w17.heap.size, 0, none⟩ 1 1 [.string (nm ++ ⟨#[64]⟩ ++ fmtB st ++ ⟨#[47]⟩ ++ fmtB mo)] (by rfl) (by rfl) (by exact new_cell _ _ _) (by simp [Value.oneCell']) (by decide) (by unfold maxLen; omega) (by omega) (by have := S7.out.1.size; simp; omega) (w17.heap.size + 1) (by simp) ?_
      intro g' c' w4 hown4 hg4 hat4 hlt4
      have hg5 : (w17.alloc (.cells #[.string (nm ++ ⟨#[64]⟩ ++ fmtB st ++ ⟨#[47]⟩ ++ fmtB mo)] 9)).grownBy w4 (Value.slice U k cu).ownBlock := hg4
      have hat5 : (Value.slice (some ⟨g', 0, none⟩) (k + 1) c').ownBlock = (Value.slice U k cu).ownBlock ∨ (Value.slice (some ⟨g', 0, none⟩) (k + 1) c').ownBlock = some (w17.heap.size + 1) := by
        have h4 : (Value.slice U k cu).ownBlock = some g' ∨ g' = w17.heap.size + 1 := hat4
        rcases h4 with h4 | h4
        · exact .inl h4.symm
        · exact .inr (by subst h4; rfl)
      obtain ⟨F9, h9⟩ := (S7.out.pick 1 rfl).appV hown4 hg5 hat5
      have S9 := Lib.hid (show Sn w w4 (⟨flat 9 ((ws ++ [nm ++ ⟨#[64]⟩ ++ fmtB st ++ ⟨#[47]⟩ ++ fmtB mo]).map .string), .slice (some ⟨g', 0, none⟩) (k + 1) c', F9⟩ :: _) from by rw [List.map_append]; exact h9.drop 1)
      simp only [List.eraseIdx_cons_zero, List.eraseIdx_cons_succ] at S9
      rw [← WS.out] at S9
      refine hK.out _ _ (KW.out _ _ (by rw [hFF]; exact Wr.of_grown hg5) hHeld19) (fun hHeld20 => ?_)
      clear hK K hg4 hg5 hat4 hat5 h9 hown4 HOW
      refine wpAnyZ_last (by kernel_rfl) (by kernel_rfl) rfl (fun K hK => ?_)
      go_simp
      refine hK.out _ _ ?_
      clear hK K
      clear hHeld hHeld9 hHeld17 hHeld19 hHeld20 S5 S6 S7 KW
      go_wp2
      go_roundw
      case rel => exact ⟨k + 1, F9, by omega, by go_num, S9.out⟩
      case measure => simp [intOf]; omega
    · have hge : ¬ (k : Int) < (p.acts.length : Int) := by omega
      obtain rfl : k = p.acts.length := by omega
      have hto := words_tot HF.out p.acts.length (Nat.le_refl _)
      have hwl := wordsK_len p s p.acts.length
      have HRR := Lib.hid (show Rd wr (.slice U p.acts.length cu) ((wordsK p s p.acts.length).map .string) from rd_flat (S3.out.rd 0 rfl))
      have HR2 := Lib.hid (show fmtScB p s = joinB (wordsK p s p.acts.length) ⟨#[32]⟩ from HR.out)
      generalize wordsK p s p.acts.length = ws at S3 HRR HR2 hto hwl
      have h7 : ws.length ≤ 1048576 := by omega
      have h8 : tot ws ≤ 1073741824 := by omega
      clear hwl
      go_wp2_with fail
      refine (specJoin_any ws ⟨#[32]⟩ _ _ (by exact HRR.out) h8 h7 (by decide)).mono ?_
      rintro e w7 ⟨rfl, rfl⟩
      rw [← HR2.out]
      go_wp2
      go_ret
      exact ⟨rfl, S3.out.1⟩
end Go.Proofs.YtcoheknnkdmdiabGreatDoor
