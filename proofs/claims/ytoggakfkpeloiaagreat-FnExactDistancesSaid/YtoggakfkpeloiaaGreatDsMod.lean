/- DERIVED. The state's tables: rows of ints appended to a row, and a place of a table written. -/
import Derived.Test.YtoggakfkpeloiaaGreatLkD
import Derived.Test.YtoggakfkpeloiaaGreatDsTab
import Derived.Test.YtoggakfkpeloiaaGreatDats

section
namespace Go.Proofs.YtoggakfkpeloiaaGreat
open Go.RowKit
set_option linter.unusedVariables false

noncomputable def linkT (p : Pj) : Nat → Tb
  | 0 => tb0 p.acts.length
  | k + 1 => match p.lks[k]? with | some l => raiseT (linkT p k) l.fr.toNat l.to.toNat (gapA p l) | none => linkT p k
noncomputable def distT (p : Pj) : Tb := outT (linkT p p.lks.length) p.acts.length p.acts.length
/-- The shortest duration of an activity. -/
noncomputable def shortA (p : Pj) (i : Nat) : Int := if i < p.acts.length then selB ltB durV (msAt p (i : Int)) (rangeB ((msAt p (i : Int)).length : Int)) else 0
theorem shortA_at {p : Pj} {i : Nat} (h : i < p.acts.length) : shortA p i = selB ltB durV p.acts[i].ms (rangeB (p.acts[i].ms.length : Int)) := by rw [shortA, if_pos h, msAt_yes h]
/-- There are distances. -/
noncomputable def okD (p : Pj) : Bool := pokB p && decide (posB p = [])
theorem okD_pok {p : Pj} (h : okD p = true) : pokB p = true := by simp only [okD, Bool.and_eq_true] at h; exact h.1
theorem okD_pos {p : Pj} (h : okD p = true) : posB p = [] := by simp only [okD, Bool.and_eq_true, decide_eq_true_eq] at h; exact h.2
theorem okD_bad {p : Pj} (h : pokB p = false) : okD p = false := by simp [okD, h]
theorem okD_ring {p : Pj} (h : posB p ≠ []) : okD p = false := by simp [okD, h]
theorem okD_yes {p : Pj} (h : pokB p = true) (h2 : posB p = []) : okD p = true := by simp [okD, h, h2]

theorem linkT_next {p : Pj} {k : Nat} (h : k < p.lks.length) {a b : Nat} (ha : p.lks[k].fr = (a : Int)) (hb : p.lks[k].to = (b : Int)) : linkT p (k + 1) = raiseT (linkT p k) a b (gapA p p.lks[k]) := by
  rw [linkT, List.getElem?_eq_getElem h]
  simp [ha, hb]

section
variable {α : Type} {xs : List α} {S S' : List Int} {val : α → Option Int} {pref : Int → Int → Bool}
theorem bestD_upto (ho : Prefers pref) (h : ¬ Lacks xs S val) : ∀ k, k ≤ xs.length → ∃ f n, IsBest pref (Vals xs S val k) f n
  | 0, _ => ⟨false, 0, .inl ⟨rfl, rfl, fun x hx => (vals_zero x).1 hx⟩⟩
  | k + 1, hk => by
    obtain ⟨f, n, ih⟩ := bestD_upto ho h k (by omega)
    by_cases hs : hasB S (k : Int) = true
    · obtain ⟨x0, hv⟩ : ∃ x0, val xs[k] = some x0 := by
        cases hv : val xs[k] with
        | none => exact absurd (lacks_at (by omega) hs hv) h
        | some x0 => exact ⟨x0, rfl⟩
      have hQ := vals_add (xs := xs) (S := S) (val := val) (by omega) hs hv
      cases f with
      | false => exact ⟨true, x0, ih.take0 ho hQ⟩
      | true =>
        cases hp : pref x0 n with
        | false => exact ⟨true, n, ih.keep hQ hp⟩
        | true => exact ⟨true, x0, ih.take1 ho hQ hp⟩
    · exact ⟨f, n, ih.same (vals_skip (by simpa using hs))⟩
theorem selD_is (ho : Prefers pref) (h : ¬ Lacks xs S val) : ∃ f, IsBest pref (Vals xs S val xs.length) f (selB pref val xs S) := by
  obtain ⟨f, n, hb⟩ := bestD_upto ho h xs.length (Nat.le_refl _)
  rw [sel_vals ho h hb]
  exact ⟨f, hb⟩
end
theorem selD_in {xs : List Md} {S : List Int} {r s : Int} (h : ∀ m ∈ xs, mokB m r s = true) : 0 ≤ selB ltB durV xs S ∧ selB ltB durV xs S ≤ 12 := by
  by_cases hl : Lacks xs S durV
  · rw [sel_lacks hl]; omega
  · obtain ⟨f, hb⟩ := selD_is prefers_lt hl
    rcases hb with ⟨_, h0, _⟩ | ⟨_, ⟨i, hi, _, _, hv⟩, _⟩
    · rw [h0]; omega
    · have hm := h _ (List.getElem_mem hi)
      simp only [mokB, Bool.and_eq_true] at hm
      have hd := inB_iff.1 hm.1
      rw [durV] at hv
      injection hv with hv
      omega
theorem short_in {p : Pj} {i : Nat} (hok : pokB p = true) (h : i < p.acts.length) : 0 ≤ shortA p i ∧ shortA p i ≤ 12 := by
  rw [shortA_at h]
  exact selD_in (aok_modes ((pok_acts hok).2 _ (List.getElem_mem h))).2.1
theorem gapA_in {p : Pj} {l : Lk} (hok : pokB p = true) (h : l ∈ p.lks) : -60 ≤ gapA p l ∧ gapA p l ≤ 72 := by
  obtain ⟨⟨f1, f2⟩, _, _, g1, g2⟩ := (pok_lks hok).2 l h
  obtain ⟨n, hn⟩ : ∃ n : Nat, l.fr = (n : Int) := ⟨l.fr.toNat, by omega⟩
  have hlt : n < p.acts.length := by omega
  have hs := selD_in (S := rangeB ((msAt p l.fr).length : Int)) (aok_modes ((pok_acts hok).2 _ (List.getElem_mem hlt))).2.1
  rw [gapA, gapB]
  split
  · rw [hn, msAt_yes hlt] at hs ⊢
    rw [wr_id (by omega) (by omega)]; omega
  · omega
theorem linkT_in {p : Pj} (hok : pokB p = true) : ∀ k, Bd (linkT p k) p.acts.length 72
  | 0 => fun a b ha hb => by rw [linkT, tb0, if_pos ⟨ha, hb⟩]; split <;> omega
  | k + 1 => by
    have ih := linkT_in hok k
    rw [linkT]
    split
    · next l hl =>
      have hg := gapA_in hok (List.mem_of_getElem? hl)
      intro a b ha hb
      have h1 := ih a b ha hb
      refine ⟨Int.le_trans h1.1 (raiseT_ge _ _ _ _ _ _), ?_⟩
      by_cases hq : a = l.fr.toNat ∧ b = l.to.toNat
      · obtain ⟨rfl, rfl⟩ := hq; rw [raiseT_at]; omega
      · rw [raiseT_other hq]; exact h1.2
    · exact ih
theorem distT_in {p : Pj} (hok : pokB p = true) : Bd (distT p) p.acts.length 3359232 := by
  have h6 := (pok_acts hok).1
  exact ((linkT_in hok _).out (by omega) _ (Nat.le_refl _)).up (by
    have : p.acts.length = 0 ∨ p.acts.length = 1 ∨ p.acts.length = 2 ∨ p.acts.length = 3 ∨ p.acts.length = 4 ∨ p.acts.length = 5 ∨ p.acts.length = 6 := by omega
    rcases this with h | h | h | h | h | h | h <;> rw [h] <;> decide)
theorem linkT_ge (p : Pj) (a b : Nat) : ∀ k, tb0 p.acts.length a b ≤ linkT p k a b
  | 0 => Int.le_refl _
  | k + 1 => by
    have ih := linkT_ge p a b k
    rw [linkT]
    cases h : p.lks[k]? with
    | none => exact ih
    | some l => exact Int.le_trans ih (raiseT_ge _ _ _ _ _ _)
theorem distT_self (p : Pj) (a : Nat) : 0 ≤ distT p a a := by
  have h := Int.le_trans (linkT_ge p a a p.lks.length) (outT_ge (linkT p p.lks.length) p.acts.length a a p.acts.length)
  have h2 : tb0 p.acts.length a a = 0 := by unfold tb0; split <;> simp
  rw [h2] at h
  exact h

-- The answers.
noncomputable def earlyL (p : Pj) : List Int := if okD p = true then (List.range p.acts.length).map (earlyT (distT p) p.acts.length) else []
noncomputable def distL (p : Pj) : List (List Int) := if okD p = true then tabL p.acts.length (distT p) else []
noncomputable def boundB (p : Pj) : Int := if okD p = true then boundT (distT p) (shortA p) p.acts.length else 0
def critK (P : Nat → Bool) (k : Nat) : List Int := ((List.range k).filter P).map (fun i : Nat => (i : Int))
theorem critK_yes {P : Nat → Bool} {k : Nat} (h : P k = true) : critK P (k + 1) = critK P k ++ [(k : Int)] := by simp [critK, List.range_succ, List.filter_append, h]
theorem critK_no {P : Nat → Bool} {k : Nat} (h : P k = false) : critK P (k + 1) = critK P k := by simp [critK, List.range_succ, List.filter_append, h]
theorem critK_len (P : Nat → Bool) (k : Nat) : (critK P k).length ≤ k := by
  have := List.length_filter_le P (List.range k)
  simpa [critK] using this
noncomputable def critP (p : Pj) (a : Nat) : Bool := decide (earlyT (distT p) p.acts.length a = lateT (distT p) (shortA p) p.acts.length (boundT (distT p) (shortA p) p.acts.length) a)
noncomputable def critL (p : Pj) : List Int := if okD p = true then critK (critP p) p.acts.length else []
theorem crit_yes {p : Pj} (h : okD p = true) : critL p = critK (critP p) p.acts.length := by rw [critL, if_pos h]
theorem crit_no {p : Pj} (h : okD p = false) : critL p = [] := by rw [critL, h]; rfl
noncomputable def tailB (p : Pj) (a : Int) : Int := if okD p = true ∧ 0 ≤ a ∧ a < (p.acts.length : Int) then tailT (distT p) (shortA p) p.acts.length a.toNat else 0
end Go.Proofs.YtoggakfkpeloiaaGreat
end

section
namespace Go.Proofs.YtoggakfkpeloiaaGreat
open Go.RowKit
set_option linter.unusedVariables false

theorem rowsD_raw {α : Type} {w : World} {B : Nat} {e : TypeId} {s : Nat} {f : α → List Tr} {xs : List α} {v : Value} {F : List Nat} (h : (rows e s f xs).own w B v F) : ∃ vs G, w.ownsRow B e s v xs.length vs ∧ ownL w B (xs.flatMap f) vs G ∧ F = v.ownBlock.toList ++ G := h
theorem rowsD_app {α : Type} {w w' : World} {B : Nat} {e : TypeId} {s : Nat} {f : α → List Tr} {xs : List α} {x : α} {v v' : Value} {vs us : List Value} {G H : List Nat} {n : Nat} (hn : n = (xs ++ [x]).length)
    (o : w'.ownsRow B e s v' n (vs ++ us)) (h1 : ownL w B (xs.flatMap f) vs G) (h2 : ownL w B (f x) us H) (hN : (v.ownBlock.toList ++ G).Nodup) (hH : H.Nodup) (hd : ∀ k ∈ v.ownBlock.toList ++ G, k ∉ H) (hg : w.grownBy w' v.ownBlock) (hv : v'.ownBlock = v.ownBlock ∨ v'.ownBlock = some w.heap.size) :
    ∃ F', (rows e s f (xs ++ [x])).own w' B v' F' ∧ F'.Nodup ∧ (∀ k ∈ F', k ∈ v.ownBlock.toList ++ G ∨ k ∈ H ∨ k = w.heap.size) := by
  have l1 := ownL_lt _ _ _ h1
  have l2 := ownL_lt _ _ _ h2
  obtain ⟨n1, n2, n3⟩ := List.nodup_append.1 hN
  have k1 := ownL_keep _ _ _ h1 (w' := w') (fun k hk => hg.block k (l1 k hk).2 (fun e => n3 k (mem_own.2 e.symm) k hk rfl))
  have k2 := ownL_keep _ _ _ h2 (w' := w') (fun k hk => hg.block k (l2 k hk).2 (fun e => hd k (List.mem_append.2 (.inl (mem_own.2 e.symm))) hk))
  have happ : ∀ {ts us : List Tr} {ps qs : List Value} {P Q : List Nat}, ownL w' B ts ps P → ownL w' B us qs Q → ownL w' B (ts ++ us) (ps ++ qs) (P ++ Q) := by
    intro ts
    induction ts with
    | nil => intro us ps qs P Q hp hq; rw [hp.1, hp.2]; exact hq
    | cons t ts ih =>
      rintro us ps qs P Q ⟨p, ps', P1, P2, rfl, g1, g2, rfl⟩ hq
      exact ⟨p, ps' ++ qs, P1, P2 ++ Q, rfl, g1, ih g2 hq, by simp⟩
  refine ⟨v'.ownBlock.toList ++ (G ++ H), ⟨vs ++ us, G ++ H, hn ▸ o, by rw [List.flatMap_append]; simpa using happ k1 k2, rfl⟩, ?_, fun k hk => ?_⟩
  · have nGH : (G ++ H).Nodup := List.nodup_append.2 ⟨n2, hH, fun a ha b hb e => hd a (List.mem_append.2 (.inr ha)) (e ▸ hb)⟩
    rcases hv with hv | hv
    · rw [hv]
      refine List.nodup_append.2 ⟨n1, nGH, fun a ha b hb e => ?_⟩
      rcases List.mem_append.1 hb with hb | hb
      · exact n3 a ha b hb e
      · exact hd a (List.mem_append.2 (.inl ha)) (e ▸ hb)
    · rw [hv]
      simp only [Option.toList, List.singleton_append, List.nodup_cons]
      refine ⟨fun e => ?_, nGH⟩
      rcases List.mem_append.1 e with e | e
      · have := (l1 _ e).2; omega
      · have := (l2 _ e).2; omega
  · rcases List.mem_append.1 hk with hk | hk
    · rcases hv with hv | hv
      · rw [hv] at hk; exact .inl (List.mem_append.2 (.inl hk))
      · rw [hv] at hk; simp at hk; exact .inr (.inr hk)
    · rcases List.mem_append.1 hk with hk | hk
      · exact .inl (List.mem_append.2 (.inr hk))
      · exact .inr (.inl hk)


section
variable {w0 W W' : World} {L : List Item}
theorem Sn.merge2 {a d : Item} (h : Sn w0 W (a :: d :: L)) : Sn w0 W (⟨.agg [d.t, a.t], .agg ⟨[d.v, a.v]⟩, d.F ++ (a.F ++ [])⟩ :: L) := by
  obtain ⟨oa, na, pa, od, nd, pd, rest⟩ := h.2
  refine ⟨h.1, ⟨_, rfl, d.v, _, d.F, _, rfl, od, ⟨a.v, _, a.F, _, rfl, oa, ⟨rfl, rfl⟩, rfl⟩, rfl⟩, ?_, fun s hs k hk => ?_, rest⟩
  · exact List.nodup_append.2 ⟨nd, by simpa using na, fun p hp q hq e => pa d (by simp) q (by simpa using hq) (e ▸ hp)⟩
  · rcases List.mem_append.1 hk with hk | hk
    · exact pd s hs k hk
    · exact pa s (by simp [hs]) k (by simpa using hk)
theorem Sn.wrap {t : Tr} {v : Value} {F : List Nat} (h : Sn w0 W (⟨t, v, F⟩ :: L)) : Sn w0 W (⟨.agg [t], .agg ⟨[v]⟩, F ++ []⟩ :: L) := by
  obtain ⟨oa, na, pa, rest⟩ := h.2
  exact ⟨h.1, ⟨_, rfl, v, _, F, _, rfl, oa, ⟨rfl, rfl⟩, rfl⟩, by simpa using na, fun s hs k hk => pa s hs k (by simpa using hk), rest⟩
/-- An element, the newest tree, appended to the row behind it. -/
theorem Sn.appG {α : Type} {e : TypeId} {s : Nat} {f : α → List Tr} {xs : List α} {x : α} {v v' : Value} {F EF G : List Nat} {us vs : List Value} {w8 : World} {o : Obj} {n : Nat} (hn : n = xs.length + 1)
    (h : Sn w0 W (⟨.agg (f x), .agg ⟨us⟩, EF⟩ :: ⟨rows e s f xs, v, F⟩ :: L)) (ol : ownL W w0.heap.size (xs.flatMap f) vs G) (hF : F = v.ownBlock.toList ++ G)
    (hown : w8.ownsRow w0.heap.size e s v' n (vs ++ us)) (hg : (W.alloc o).grownBy w8 v.ownBlock) (hat : v'.ownBlock = v.ownBlock ∨ v'.ownBlock = some (W.heap.size + 1)) :
    ∃ F', Sn w0 w8 (⟨rows e s f (xs ++ [x]), v', F'⟩ :: L) := by
  have hal := (Below.refl W.heap.size W).alloc (Nat.le_refl _) o
  have h1 := h.merge2.go hal
  obtain ⟨vs', hvs, oe⟩ := (h.own 0 rfl).1
  have hvs' : us = vs' := by injection hvs with hvs; injection hvs
  subst hvs'
  have ap := h.2.apart (i := 0) (j := 1) rfl rfl (by omega)
  have lol := ownL_lt _ _ _ ol
  have loe := ownL_lt _ _ _ oe
  obtain ⟨F', h2, h3, h4⟩ := rowsD_app (e := e) (f := f) (xs := xs) (x := x) (n := n) (by simp [hn]) hown (ownL_keep _ _ _ ol (fun k hk => hal.block k (lol k hk).2)) (ownL_keep _ _ _ oe (fun k hk => hal.block k (loe k hk).2)) (hF ▸ (h.own 1 rfl).2) (h.own 0 rfl).2 (fun p hp hq => ap p hq (by rw [← hF] at hp; exact hp)) hg (by rw [World.size_alloc]; exact hat)
  refine ⟨F', h1.turn h2 h3 (fun p hp => ?_) ((Wr.of_grown hg).sub (fun p hp => ?_))⟩
  · rcases h4 p hp with h5 | h5 | h5
    · left; rw [← hF] at h5; exact List.mem_append.2 (.inl h5)
    · left; show p ∈ F ++ (EF ++ []); rw [List.append_nil]; exact List.mem_append.2 (.inr h5)
    · right; omega
  · show p ∈ F ++ (EF ++ [])
    rw [hF]
    exact List.mem_append.2 (.inl (List.mem_append.2 (.inl hp)))

theorem flatI_get {D : List (List Int)} {i : Nat} (hi : i < D.length) : (D.flatMap cellsI1)[i]? = some (trI D[i]) := by
  have := flatMap_get (f := cellsI1) (s := 1) cellsI1_len D i hi 0 (by omega)
  rw [Nat.mul_one, Nat.add_zero] at this
  exact this
theorem flatI_set {D : List (List Int)} {i : Nat} (hi : i < D.length) (r : List Int) : (D.flatMap cellsI1).set i (trI r) = (D.set i r).flatMap cellsI1 := by
  have := flatMap_set (f := cellsI1) (s := 1) cellsI1_len D i hi 0 (by omega) (trI r) r rfl
  simpa using this
/-- A table among the state's trees: where its places lie, and what writing one makes of it. -/
theorem Sn.tab {n : Nat} {T : Tb} {A : Option Addr} {c : Nat} {F : List Nat} (h : Sn w0 W (⟨trSu (tabL n T), .slice A n c, F⟩ :: L)) (hn : 0 < n) :
    ∃ g, A = some ⟨g, 0, none⟩ ∧ g < W.heap.size ∧ ∀ i, i < n → ∃ b cb, W.cell? ⟨g, i, none⟩ = some (.slice (some ⟨b, 0, none⟩) n cb) ∧ b < W.heap.size ∧ w0.heap.size ≤ b ∧ b ≠ g ∧
      ∀ k, k < n → W.cell? ⟨b, k, none⟩ = some (.int .i64 (T i k)) ∧ W.frozen? ⟨b, k, none⟩ = false ∧
        ∀ y, ∃ F', Sn w0 (W.setCell ⟨b, k, none⟩ (.int .i64 y)) (⟨trSu (tabL n (upT T i k y)), .slice A n c, F'⟩ :: L) := by
  have ho := (h.own 0 rfl).1
  have hnd := (h.own 0 rfl).2
  have hlen := tabL_len n T
  obtain ⟨g, rfl⟩ : ∃ g, A = some ⟨g, 0, none⟩ := by
    obtain ⟨vs, G, ⟨_, hr⟩, _⟩ := ho
    rcases hr with ⟨he, _⟩ | ⟨g, cap, cur, he, _⟩
    · injection he; omega
    · injection he with he; exact ⟨g, he⟩
  have ho' : (Tr.row 25 1 n ((tabL n T).flatMap cellsI1)).own W w0.heap.size (.slice (some ⟨g, 0, none⟩) n c) F := by
    have e : trSu (tabL n T) = Tr.row 25 1 n ((tabL n T).flatMap cellsI1) := by rw [trSu, rows, hlen]
    rw [← e]; exact ho
  have hra : RowAt W w0.heap.size 25 1 n g c ((tabL n T).flatMap cellsI1) F := ⟨ho', hnd⟩
  refine ⟨g, rfl, hra.lt.2, fun i hi => ?_⟩
  have hti : ((tabL n T).flatMap cellsI1)[i]? = some (trI (rowL n T i)) := by
    rw [flatI_get (by rw [hlen]; exact hi), tabL_at]
  obtain ⟨x, H, hx, _, hox, hnH, hsH⟩ := hra.cell hti
  obtain ⟨hr, hHx⟩ := own_flat hox
  have hrl : (rowL n T i).length = n := rowL_len n T i
  rw [List.length_map, hrl] at hr
  obtain ⟨b, cb, rfl⟩ : ∃ b cb, x = .slice (some ⟨b, 0, none⟩) n cb := by
    rcases hr.2 with ⟨_, he⟩ | ⟨b, cap, cur, he, _⟩
    · omega
    · exact ⟨b, cap, he⟩
  have hHb : H = [b] := by rw [hHx]; rfl
  have hbl := (Tr.own_lt _ _ _ hox b (by rw [hHb]; simp))
  refine ⟨b, cb, hx, hbl.2, hbl.1, (hsH b (by rw [hHb]; simp)).2, fun k hk => ⟨?_, hr.frozenAt k, fun y => ?_⟩⟩
  · rw [hr.cellAt k (by omega), List.getElem?_map, List.getElem?_eq_getElem (by rw [hrl]; exact hk), rowL_at]; rfl
  · obtain ⟨x2, H2, hx2, ho2, hn2, hs2, back⟩ := hra.turn (w' := W.setCell ⟨b, k, none⟩ (.int .i64 y)) hti
    have hxe : x2 = .slice (some ⟨b, 0, none⟩) n cb := by rw [hx] at hx2; injection hx2 with hx2; exact hx2.symm
    subst hxe
    have hH2 : H2 = [b] := (own_flat ho2).2
    have hst := (hr.stored k (.int .i64 y)).1
    rw [← List.map_set] at hst
    have hl2 : ((rowL n T i).set k y).length = n := by rw [List.length_set, hrl]
    have hf := flat_own (e := 3) (by rw [List.length_map, hl2]; exact hst : (W.setCell ⟨b, k, none⟩ (.int .i64 y)).ownsRow w0.heap.size 3 1 (.slice (some ⟨b, 0, none⟩) n cb) (((rowL n T i).set k y).map (Value.int .i64)).length (((rowL n T i).set k y).map (Value.int .i64)))
    obtain ⟨F', r, rs⟩ := back (trI ((rowL n T i).set k y)) [b] hf.1 hf.2 (by rw [hH2]; simp) (by rw [hH2]; exact Wr.setCell W ⟨b, k, none⟩ (by simp) _)
    have hbF : b ∈ F := (hsH b (by rw [hHb]; simp)).1
    refine ⟨F', h.turn (t' := trSu (tabL n (upT T i k y))) ?_ r.2 (fun p hp => .inl (rs p hp)) (Wr.setCell W ⟨b, k, none⟩ hbF _)⟩
    have e : trSu (tabL n (upT T i k y)) = Tr.row 25 1 n (((tabL n T).flatMap cellsI1).set i (trI ((rowL n T i).set k y))) := by
      rw [trSu, rows, tabL_len, tabL_up hi, flatI_set (by rw [hlen]; exact hi)]
    rw [e]; exact r.1
theorem Sn.put2 {n : Nat} {T : Tb} {g c i k b cb : Nat} {F : List Nat} (h : Sn w0 W (⟨trSu (tabL n T), .slice (some ⟨g, 0, none⟩) n c, F⟩ :: L)) (hi : i < n) (hk : k < n) (hc : W.cell? ⟨g, i, none⟩ = some (.slice (some ⟨b, 0, none⟩) n cb)) (y : Int) :
    ∃ F', Sn w0 (W.setCell ⟨b, k, none⟩ (.int .i64 y)) (⟨trSu (tabL n (upT T i k y)), .slice (some ⟨g, 0, none⟩) n c, F'⟩ :: L) := by
  obtain ⟨g2, he, _, hrow⟩ := h.tab (by omega)
  obtain rfl : g = g2 := by injection he with he; injection he
  obtain ⟨b2, cb2, hc2, _, _, _, hin⟩ := hrow i hi
  rw [hc] at hc2
  obtain rfl : b = b2 := by injection hc2 with hc2; injection hc2 with hc2; injection hc2 with hc2; injection hc2
  exact (hin k hk).2.2 y
end
end Go.Proofs.YtoggakfkpeloiaaGreat
end
