/- DERIVED. Literals as text: mathematics: both readers find the one literal whose text it is. No dump. -/
import Derived.Test.YtgbpomakomddjabGreatDoorScLt
import Derived.Test.YtgbpomakomddjabGreatDoorNmQ
import Derived.Lib.IndexMore
namespace Go.Proofs.YtgbpomakomddjabGreatDoor
open Go.RowKit
set_option linter.unusedVariables false

noncomputable def fmtLt (p : Pj) (l : Lt) : ByteArray := if litOkB p l = true then nmA p l.ac.toNat ++ ltSg l.ki ++ fmtB l.va else ⟨#[]⟩
theorem fmtLt_no {p : Pj} {l : Lt} (h : litOkB p l = false) : fmtLt p l = ⟨#[]⟩ := by rw [fmtLt, h]; simp
theorem fmtLt_yes {p : Pj} {l : Lt} (h : litOkB p l = true) : fmtLt p l = nmA p l.ac.toNat ++ ltSg l.ki ++ fmtB l.va := by rw [fmtLt, if_pos h]
theorem ltVal_ki {l : Lt} {n : Int} (h : ltVal l n = true) : 1 ≤ l.ki ∧ l.ki ≤ 4 := by
  unfold ltVal at h
  by_cases h1 : l.ki = 1
  · omega
  by_cases h2 : l.ki = 2
  · omega
  by_cases h3 : l.ki = 3
  · omega
  by_cases h4 : l.ki = 4
  · omega
  simp [h1, h2, h3, h4] at h
theorem ltVal_va {l : Lt} {n : Int} (h : ltVal l n = true) (hn : n ≤ 100000) : -100000 ≤ l.va ∧ l.va ≤ 100000 := by
  unfold ltVal at h
  by_cases h1 : l.ki = 1
  · rw [if_pos h1] at h; have := inB_iff.1 h; omega
  rw [if_neg h1] at h
  by_cases h2 : l.ki = 2
  · rw [if_pos h2] at h; have := inB_iff.1 h; omega
  rw [if_neg h2] at h
  by_cases h3 : l.ki = 3
  · rw [if_pos h3] at h; have := inB_iff.1 h; omega
  rw [if_neg h3] at h
  by_cases h4 : l.ki = 4
  · rw [if_pos h4] at h; have := inB_iff.1 h; omega
  rw [if_neg h4] at h
  cases h
/-- What a literal that is there gives. -/
theorem lit_parts {p : Pj} {l : Lt} (h : litOkB p l = true) : (∃ n : Nat, n < p.acts.length ∧ l.ac = (n : Int)) ∧ (1 ≤ l.ki ∧ l.ki ≤ 4) ∧ (-100000 ≤ l.va ∧ l.va ≤ 100000) ∧ nmB (nmA p l.ac.toNat) = true ∧ plcB p.acts (nmA p l.ac.toNat) = l.ac := by
  obtain ⟨hp, n, hn, e, hv⟩ := lit_ok h
  have hm := (aok_modes ((pok_acts hp).2 _ (List.getElem_mem hn))).1
  have hg := nmA_good hp hn
  refine ⟨⟨n, hn, e⟩, ltVal_ki hv, ltVal_va hv (by omega), ?_⟩
  rw [e, Int.toNat_natCast]
  exact hg

theorem split_szs (s b : ByteArray) : ∀ y ∈ splitB s b, y.size ≤ s.size := fun y hy => by
  unfold splitB at hy
  simp only [List.mem_append, List.mem_singleton] at hy
  rcases hy with hy | rfl
  · exact spl_sizes s _ _ y hy
  · simp only [ByteArray.size_extract]; omega
-- a cut
theorem cut_app {x sep y : List UInt8} {c : UInt8} {tl : List UInt8} (hs : sep = c :: tl) (hx : ∀ b ∈ x, b ≠ c) : Lib.cut (x ++ (sep ++ y)) sep = (x, y, true) := by
  have ho : Lib.occAt (x ++ (sep ++ y)) sep x.length = true := by
    unfold Lib.occAt
    rw [List.drop_left, List.isPrefixOf_iff_prefix]
    exact ⟨y, rfl⟩
  have hn : ∀ j, j < x.length → Lib.occAt (x ++ (sep ++ y)) sep j = false := fun j hj => by
    unfold Lib.occAt
    rw [List.drop_append_of_le_length (by omega), hs, List.drop_eq_getElem_cons hj]
    have hne := hx _ (List.getElem_mem hj)
    show (c == x[j] && _) = false
    rw [beq_false_of_ne (Ne.symm hne)]; rfl
  have hi := Lib.index_first (by simp) ho hn
  unfold Lib.cut
  rw [hi, if_pos (by omega)]
  simp
theorem cut_miss {s sep : List UInt8} (h : (Lib.cut s sep).2.2 = false) : (Lib.cut s sep).2.1 = [] := by
  unfold Lib.cut at h ⊢
  split at h
  · cases h
  · next hn => rw [if_neg hn]
theorem cut_hit {s sep : List UInt8} (h : (Lib.cut s sep).2.2 = true) : s = (Lib.cut s sep).1 ++ (sep ++ (Lib.cut s sep).2.1) := by
  unfold Lib.cut at h ⊢
  by_cases h0 : 0 ≤ Lib.index s sep
  · rw [if_pos h0]
    rcases Lib.index_spec s sep with ⟨e, _⟩ | ⟨i, e, hi, ho, _⟩
    · omega
    · rw [e]
      unfold Lib.occAt at ho
      rw [List.isPrefixOf_iff_prefix] at ho
      obtain ⟨t, ht⟩ := ho
      have h2 : s.drop (i + sep.length) = t := by
        rw [← List.drop_drop, ← ht, List.drop_left]
      show s = s.take i ++ (sep ++ s.drop (i + sep.length))
      rw [h2, ht, List.take_append_drop]
  · rw [if_neg h0] at h; cases h

-- the program's guess
def cutA (s : ByteArray) (k : Int) : ByteArray := ⟨(Lib.cut s.data.toList (ltSg k).data.toList).1.toArray⟩
def cutB (s : ByteArray) (k : Int) : ByteArray := ⟨(Lib.cut s.data.toList (ltSg k).data.toList).2.1.toArray⟩
def cutF (s : ByteArray) (k : Int) : Bool := (Lib.cut s.data.toList (ltSg k).data.toList).2.2
theorem lst_mk (l : List UInt8) : lst ⟨l.toArray⟩ = l := by simp [lst]
theorem lst_cutA (s : ByteArray) (k : Int) : lst (cutA s k) = (Lib.cut (lst s) (lst (ltSg k))).1 := lst_mk _
theorem lst_cutB (s : ByteArray) (k : Int) : lst (cutB s k) = (Lib.cut (lst s) (lst (ltSg k))).2.1 := lst_mk _
noncomputable def gLt (p : Pj) (s : ByteArray) (k : Int) : Lt := ⟨k, plcB p.acts (cutA s k), (parseB (cutB s k)).1⟩
noncomputable def accLt (p : Pj) (s : ByteArray) (k : Int) : Bool := (parseB (cutB s k)).2 && litOkB p (gLt p s k)
noncomputable def okLt (p : Pj) (s : ByteArray) : Bool := accLt p s 1 || (accLt p s 2 || (accLt p s 3 || accLt p s 4))
noncomputable def resLt (p : Pj) (s : ByteArray) : Lt := if accLt p s 1 = true then gLt p s 1 else if accLt p s 2 = true then gLt p s 2 else if accLt p s 3 = true then gLt p s 3 else if accLt p s 4 = true then gLt p s 4 else litNone
theorem resLt_no {p : Pj} {s : ByteArray} (h : ∀ j : Nat, 1 ≤ j → j < 5 → accLt p s (j : Int) = false) : okLt p s = false ∧ resLt p s = litNone := by
  have h1 : accLt p s 1 = false := h 1 (by omega) (by omega)
  have h2 : accLt p s 2 = false := h 2 (by omega) (by omega)
  have h3 : accLt p s 3 = false := h 3 (by omega) (by omega)
  have h4 : accLt p s 4 = false := h 4 (by omega) (by omega)
  unfold okLt resLt
  rw [h1, h2, h3, h4]
  exact ⟨rfl, rfl⟩
theorem resLt_at {p : Pj} {s : ByteArray} {k : Nat} (h1 : 1 ≤ k) (h4 : k < 5) (h : ∀ j : Nat, 1 ≤ j → j < k → accLt p s (j : Int) = false) (hk : accLt p s (k : Int) = true) : okLt p s = true ∧ resLt p s = gLt p s (k : Int) := by
  have e : k = 1 ∨ k = 2 ∨ k = 3 ∨ k = 4 := by omega
  unfold okLt resLt
  rcases e with rfl | rfl | rfl | rfl
  · have a1 : accLt p s 1 = true := hk
    rw [a1]; exact ⟨rfl, rfl⟩
  · have a1 : accLt p s 1 = false := h 1 (by omega) (by omega)
    have a2 : accLt p s 2 = true := hk
    rw [a1, a2]; exact ⟨rfl, rfl⟩
  · have a1 : accLt p s 1 = false := h 1 (by omega) (by omega)
    have a2 : accLt p s 2 = false := h 2 (by omega) (by omega)
    have a3 : accLt p s 3 = true := hk
    rw [a1, a2, a3]; exact ⟨rfl, rfl⟩
  · have a1 : accLt p s 1 = false := h 1 (by omega) (by omega)
    have a2 : accLt p s 2 = false := h 2 (by omega) (by omega)
    have a3 : accLt p s 3 = false := h 3 (by omega) (by omega)
    have a4 : accLt p s 4 = true := hk
    rw [a1, a2, a3, a4]; exact ⟨rfl, rfl⟩

-- the model's guess
def sgS : ByteArray := ⟨#[60, 62, 61, 33]⟩
def wdF (s : ByteArray) : ByteArray := (splitB s sgS).getD 0 ⟨#[]⟩
def wdL (s : ByteArray) : ByteArray := (splitB s sgS).getD ((splitB s sgS).length - 1) ⟨#[]⟩
noncomputable def mLt (p : Pj) (s : ByteArray) (k : Int) : Lt := ⟨k, plcB p.acts (wdF s), (parseB (wdL s)).1⟩
noncomputable def accM (p : Pj) (s : ByteArray) (k : Int) : Bool := decide (fmtLt p (mLt p s k) = s) && !decide (s = ⟨#[]⟩)

theorem parse_back {s : ByteArray} (h : (parseB s).2 = true) : fmtB (parseB s).1 = s := by
  unfold parseB at h ⊢
  split
  · next hc => exact hc.2.2
  · next hn => rw [if_neg hn] at h; cases h
theorem plc_back {al : List Ac} {s : ByteArray} {n : Nat} (h : plcB al s = (n : Int)) : ∃ hn : n < al.length, al[n].nm = s := by
  unfold plcB ixB at h
  split at h
  · next i hi =>
    obtain rfl : i = n := by omega
    rw [List.findIdx?_eq_some_iff_getElem] at hi
    obtain ⟨hn, e, _⟩ := hi
    exact ⟨hn, by simpa using e⟩
  · omega
theorem sg_list {k : Int} (h : 1 ≤ k ∧ k ≤ 4) : (k = 1 ∧ lst (ltSg k) = [62, 61]) ∨ (k = 2 ∧ lst (ltSg k) = [60, 61]) ∨ (k = 3 ∧ lst (ltSg k) = [61]) ∨ (k = 4 ∧ lst (ltSg k) = [33, 61]) := by
  have e : k = 1 ∨ k = 2 ∨ k = 3 ∨ k = 4 := by omega
  rcases e with rfl | rfl | rfl | rfl
  · exact .inl ⟨rfl, rfl⟩
  · exact .inr (.inl ⟨rfl, rfl⟩)
  · exact .inr (.inr (.inl ⟨rfl, rfl⟩))
  · exact .inr (.inr (.inr ⟨rfl, rfl⟩))
theorem nm_noSg {x : ByteArray} (h : nmB x = true) : ∀ b ∈ lst x, b ≠ 60 ∧ b ≠ 61 ∧ b ≠ 62 ∧ b ≠ 33 := fun b hb => by
  have := nm_all h b hb
  unfold nameC at this
  refine ⟨fun e => ?_, fun e => ?_, fun e => ?_, fun e => ?_⟩
  all_goals
    subst e
    revert this
    decide
theorem num_noSg {n : Int} (h : -100000 ≤ n ∧ n ≤ 100000) : ∀ b ∈ lst (fmtB n), b ≠ 60 ∧ b ≠ 61 ∧ b ≠ 62 ∧ b ≠ 33 := fun b hb => by
  have := fmt_num h.1 h.2 b hb
  unfold numC at this
  refine ⟨fun e => ?_, fun e => ?_, fun e => ?_, fun e => ?_⟩
  all_goals
    subst e
    revert this
    decide
/-- The text of a literal that is there: how each reader cuts it. -/
theorem text_cut {p : Pj} {l : Lt} (h : litOkB p l = true) : cutA (fmtLt p l) l.ki = nmA p l.ac.toNat ∧ cutB (fmtLt p l) l.ki = fmtB l.va := by
  obtain ⟨_, hk, hv, hn, _⟩ := lit_parts h
  have hx := nm_noSg hn
  have hl : lst (fmtLt p l) = lst (nmA p l.ac.toNat) ++ (lst (ltSg l.ki) ++ lst (fmtB l.va)) := by rw [fmtLt_yes h, lst_app, lst_app, List.append_assoc]
  have hc : Lib.cut (lst (fmtLt p l)) (lst (ltSg l.ki)) = (lst (nmA p l.ac.toNat), lst (fmtB l.va), true) := by
    rw [hl]
    rcases sg_list hk with ⟨_, e⟩ | ⟨_, e⟩ | ⟨_, e⟩ | ⟨_, e⟩
    · exact cut_app e fun b hb => (hx b hb).2.2.1
    · exact cut_app e fun b hb => (hx b hb).1
    · exact cut_app e fun b hb => (hx b hb).2.1
    · exact cut_app e fun b hb => (hx b hb).2.2.2
  exact ⟨lst_inj (by rw [lst_cutA, hc]), lst_inj (by rw [lst_cutB, hc])⟩
theorem inSg {c : UInt8} (h : c ≠ 60 ∧ c ≠ 61 ∧ c ≠ 62 ∧ c ≠ 33) : inS sgS c = false := inS_no (by
  show c ∉ [60, 62, 61, 33]
  simp only [List.mem_cons, List.not_mem_nil, or_false, not_or]
  exact ⟨h.1, h.2.2.1, h.2.1, h.2.2.2⟩)
theorem text_split {p : Pj} {l : Lt} (h : litOkB p l = true) : wdF (fmtLt p l) = nmA p l.ac.toNat ∧ wdL (fmtLt p l) = fmtB l.va := by
  obtain ⟨_, hk, hv, hn, _⟩ := lit_parts h
  have hx : ∀ c ∈ lst (nmA p l.ac.toNat), inS sgS c = false := fun c hc => inSg (nm_noSg hn c hc)
  have hy : ∀ c ∈ lst (fmtB l.va), inS sgS c = false := fun c hc => inSg (num_noSg hv c hc)
  have hl : lst (fmtLt p l) = lst (nmA p l.ac.toNat) ++ (lst (ltSg l.ki) ++ lst (fmtB l.va)) := by rw [fmtLt_yes h, lst_app, lst_app, List.append_assoc]
  have two : ∀ c d : UInt8, inS sgS c = true → inS sgS d = true → lst (ltSg l.ki) = [c, d] → splitB (fmtLt p l) sgS = [nmA p l.ac.toNat, ⟨#[]⟩, fmtB l.va] := fun c d hc hd e => split_eq (by
    rw [hl, e]
    show sL (inS sgS) (lst (nmA p l.ac.toNat) ++ c :: (d :: lst (fmtB l.va))) = _
    rw [sL_app _ c hc _ _ hx, sL_ch hd, sL_none _ _ hy]; rfl)
  have one : ∀ c : UInt8, inS sgS c = true → lst (ltSg l.ki) = [c] → splitB (fmtLt p l) sgS = [nmA p l.ac.toNat, fmtB l.va] := fun c hc e => split_eq (by
    rw [hl, e]
    show sL (inS sgS) (lst (nmA p l.ac.toNat) ++ c :: lst (fmtB l.va)) = _
    rw [sL_app _ c hc _ _ hx, sL_none _ _ hy]; rfl)
  unfold wdF wdL
  rcases sg_list hk with ⟨_, e⟩ | ⟨_, e⟩ | ⟨_, e⟩ | ⟨_, e⟩
  · rw [two 62 61 (by decide) (by decide) e]; exact ⟨rfl, rfl⟩
  · rw [two 60 61 (by decide) (by decide) e]; exact ⟨rfl, rfl⟩
  · rw [one 61 (by decide) e]; exact ⟨rfl, rfl⟩
  · rw [two 33 61 (by decide) (by decide) e]; exact ⟨rfl, rfl⟩
theorem fmtLt_ne {p : Pj} {l : Lt} (h : litOkB p l = true) : fmtLt p l ≠ ⟨#[]⟩ := fun e => by
  obtain ⟨_, hk, hv, hn, _⟩ := lit_parts h
  have h2 := congrArg ByteArray.size e
  rw [fmtLt_yes h, size_app, size_app] at h2
  have h0 : (⟨#[]⟩ : ByteArray).size = 0 := rfl
  simp only [nmB, Bool.and_eq_true, decide_eq_true_eq] at hn
  omega
/-- Both guesses at the text of a literal are that literal. -/
theorem text_back {p : Pj} {l : Lt} (h : litOkB p l = true) : gLt p (fmtLt p l) l.ki = l ∧ accLt p (fmtLt p l) l.ki = true ∧ mLt p (fmtLt p l) l.ki = l ∧ accM p (fmtLt p l) l.ki = true := by
  obtain ⟨_, hk, hv, hn, hp⟩ := lit_parts h
  obtain ⟨c1, c2⟩ := text_cut h
  obtain ⟨d1, d2⟩ := text_split h
  have hpf := parse_fmt hv.1 hv.2
  have g : gLt p (fmtLt p l) l.ki = l := by unfold gLt; rw [c1, c2, hpf, hp]
  have m : mLt p (fmtLt p l) l.ki = l := by unfold mLt; rw [d1, d2, hpf, hp]
  refine ⟨g, ?_, m, ?_⟩
  · unfold accLt
    rw [g, c2, hpf, h]; rfl
  · unfold accM
    rw [m]
    simp [fmtLt_ne h]
theorem acc_text {p : Pj} {s : ByteArray} {k : Int} (h : accLt p s k = true) : litOkB p (gLt p s k) = true ∧ fmtLt p (gLt p s k) = s := by
  unfold accLt at h
  rw [Bool.and_eq_true] at h
  obtain ⟨h1, h2⟩ := h
  refine ⟨h2, ?_⟩
  obtain ⟨⟨n, hn, e⟩, hk, hv, _, _⟩ := lit_parts h2
  obtain ⟨_, hnm⟩ := plc_back (show plcB p.acts (cutA s k) = (n : Int) from e)
  rw [fmtLt_yes h2]
  have e1 : nmA p (gLt p s k).ac.toNat = cutA s k := by rw [e, Int.toNat_natCast, nmA_at hn, hnm]
  have e2 : fmtB (gLt p s k).va = cutB s k := parse_back h1
  rw [e1, e2]
  have hf : (Lib.cut (lst s) (lst (ltSg k))).2.2 = true := by
    rcases hf : (Lib.cut (lst s) (lst (ltSg k))).2.2 with _ | _
    · have hb : cutB s k = ⟨#[]⟩ := lst_inj (by rw [lst_cutB, cut_miss hf]; rfl)
      rw [hb, par_none rfl] at h1
      cases h1
    · rfl
  have := cut_hit hf
  refine lst_inj ?_
  rw [lst_app, lst_app, lst_cutA, lst_cutB, List.append_assoc]
  exact this.symm
theorem agreeLt (p : Pj) (s : ByteArray) (k : Int) : accM p s k = accLt p s k ∧ (accM p s k = true → mLt p s k = gLt p s k) := by
  rcases ha : accLt p s k with _ | _
  · rcases hm : accM p s k with _ | _
    · exact ⟨rfl, fun h => by cases h⟩
    · exfalso
      unfold accM at hm
      simp only [Bool.and_eq_true, decide_eq_true_eq, Bool.not_eq_true', decide_eq_false_iff_not] at hm
      obtain ⟨h1, h2⟩ := hm
      have hok : litOkB p (mLt p s k) = true := by
        rcases ho : litOkB p (mLt p s k) with _ | _
        · rw [fmtLt_no ho] at h1; exact absurd h1.symm h2
        · rfl
      have := (text_back hok).2.1
      rw [h1] at this
      rw [show (mLt p s k).ki = k from rfl, ha] at this
      cases this
  · obtain ⟨hok, ht⟩ := acc_text ha
    obtain ⟨_, _, m, am⟩ := text_back hok
    rw [ht] at m am
    rw [show (gLt p s k).ki = k from rfl] at m am
    exact ⟨am, fun _ => m⟩
end Go.Proofs.YtgbpomakomddjabGreatDoor
