/- DERIVED. Schedules read from text: mathematics. No dump. -/
import Derived.Test.YtaglfdkeomjpdabGreatDoorScT
import Derived.Test.YtaglfdkeomjpdabGreatDoorSpL
import Derived.Test.YtaglfdkeomjpdabGreatDoorTxtMaths
import Derived.Test.YtaglfdkeomjpdabGreatDoorModTxt
namespace Go.Proofs.YtaglfdkeomjpdabGreatDoor
open Go.RowKit
set_option linter.unusedVariables false

def sep2 : ByteArray := ⟨#[64, 47]⟩
def pt (y : ByteArray) (i : Nat) : ByteArray := (splitB y sep2).getD i ⟨#[]⟩
def stP (y : ByteArray) : Int := (parseB (pt y 1)).1
def moP (y : ByteArray) : Int := (parseB (pt y 2)).1
def wordOk (y : ByteArray) : Bool := decide ((splitB y sep2).length = 3) && ((parseB (pt y 1)).2 && (parseB (pt y 2)).2)
def prsS (x : ByteArray) : Sc := ⟨(splitB x spS).map stP, (splitB x spS).map moP⟩
noncomputable def okPS (p : Pj) (x : ByteArray) : Bool := decide (fmtScB p (prsS x) ≠ ⟨#[]⟩) && decide (fmtScB p (prsS x) = x)
noncomputable def resPS (p : Pj) (x : ByteArray) : Sc := if okPS p x = true then prsS x else ⟨[], []⟩
theorem resPS_no {p : Pj} {x : ByteArray} (h : okPS p x = false) : resPS p x = ⟨[], []⟩ := by rw [resPS, h]; simp
theorem resPS_yes {p : Pj} {x : ByteArray} (h : okPS p x = true) : resPS p x = prsS x := by rw [resPS, if_pos h]
theorem split_size (s b : ByteArray) : ∀ y ∈ splitB s b, y.size ≤ s.size := fun y hy => by
  unfold splitB at hy
  simp only [List.mem_append, List.mem_singleton] at hy
  rcases hy with hy | rfl
  · exact spl_sizes s _ _ y hy
  · simp only [ByteArray.size_extract]; omega
theorem pt_size (y : ByteArray) (i : Nat) : (pt y i).size ≤ y.size := by
  unfold pt
  rw [List.getD]
  rcases h : (splitB y sep2)[i]? with _ | x
  · show 0 ≤ _; omega
  · exact split_size y sep2 x (List.mem_of_getElem? h)
theorem pt_at {y : ByteArray} {i : Nat} (h : i < (splitB y sep2).length) : (splitB y sep2)[i] = pt y i := by simp [pt, List.getD, List.getElem?_eq_getElem h]
theorem nm_all {s : ByteArray} (h : nmB s = true) : allB nameC s := allB_byt fun k hk => by
  simp only [nmB, Bool.and_eq_true, decide_eq_true_eq] at h
  have h2 := h.2.2 k hk
  refine Classical.byContradiction fun hn => ?_
  unfold nameC at hn
  rcases (by omega : (s[k].toNat : Int) < 48 ∨ (57 < (s[k].toNat : Int) ∧ (s[k].toNat : Int) < 97) ∨ 122 < (s[k].toNat : Int)) with e | e | e
  · rw [nmAt_less e] at h2; cases h2
  · rw [nmAt_mid e.1 e.2] at h2; cases h2
  · rw [nmAt_high e] at h2; cases h2
theorem Form.nmc {p : Pj} {s : Sc} (h : Form p s) {a : Nat} (ha : a < p.acts.length) : allB nameC (nmA p a) := by
  rw [nmA_at ha]
  have h2 := (pok_acts h.ok).2 _ (List.getElem_mem ha)
  simp only [aokB, Bool.and_eq_true] at h2
  exact nm_all h2.2.1
theorem Form.nums {p : Pj} {s : Sc} (h : Form p s) {a : Nat} (ha : a < p.acts.length) : (0 ≤ stA s a ∧ stA s a ≤ 60) ∧ (0 ≤ moA s a ∧ moA s a ≤ 3) := by
  obtain ⟨j, hj, e, _⟩ := h.mo a ha
  have := (aok_modes ((pok_acts h.ok).2 _ (List.getElem_mem ha))).1
  exact ⟨h.st a ha, by omega⟩
theorem sep2_mem (c : UInt8) : inS sep2 c = true ↔ c = 64 ∨ c = 47 := by
  unfold inS
  rw [List.contains_iff_mem]
  show c ∈ [64, 47] ↔ _
  simp
theorem sep2_no {c : UInt8} (h1 : c ≠ 64) (h2 : c ≠ 47) : inS sep2 c = false := by
  rw [← Bool.not_eq_true, sep2_mem]
  rintro (h | h)
  · exact h1 h
  · exact h2 h
theorem word_split {p : Pj} {s : Sc} (h : Form p s) {a : Nat} (ha : a < p.acts.length) : splitB (wordA p s a) sep2 = [nmA p a, fmtB (stA s a), fmtB (moA s a)] := by
  obtain ⟨h1, h2⟩ := h.nums ha
  have n1 := h.nmc ha
  have n2 := fmt_num (n := stA s a) (by omega) (by omega)
  have n3 := fmt_num (n := moA s a) (by omega) (by omega)
  have c1 : ∀ c ∈ lst (nmA p a), inS sep2 c = false := fun c hc => by
    have := n1 c hc
    unfold nameC at this
    exact sep2_no (by rintro rfl; revert this; decide) (by rintro rfl; revert this; decide)
  have c2 : ∀ c ∈ lst (fmtB (stA s a)), inS sep2 c = false := fun c hc => by
    have := n2 c hc
    unfold numC at this
    exact sep2_no (by rintro rfl; revert this; decide) (by rintro rfl; revert this; decide)
  have c3 : ∀ c ∈ lst (fmtB (moA s a)), inS sep2 c = false := fun c hc => by
    have := n3 c hc
    unfold numC at this
    exact sep2_no (by rintro rfl; revert this; decide) (by rintro rfl; revert this; decide)
  apply split_eq
  have e : lst (wordA p s a) = lst (nmA p a) ++ (64 : UInt8) :: (lst (fmtB (stA s a)) ++ (47 : UInt8) :: lst (fmtB (moA s a))) := by
    simp only [wordA, lst_app]
    show lst (nmA p a) ++ [64] ++ lst (fmtB (stA s a)) ++ [47] ++ lst (fmtB (moA s a)) = _
    simp
  rw [e, sL_app _ _ ((sep2_mem 64).2 (.inl rfl)) _ _ c1, sL_app _ _ ((sep2_mem 47).2 (.inr rfl)) _ _ c2, sL_none _ _ c3]
  rfl
theorem word_ok {p : Pj} {s : Sc} (h : Form p s) {a : Nat} (ha : a < p.acts.length) : wordOk (wordA p s a) = true := by
  obtain ⟨h1, h2⟩ := h.nums ha
  have e := word_split h ha
  have e1 : pt (wordA p s a) 1 = fmtB (stA s a) := by rw [pt, e]; rfl
  have e2 : pt (wordA p s a) 2 = fmtB (moA s a) := by rw [pt, e]; rfl
  rw [wordOk, e1, e2, e, parse_fmt (by omega) (by omega), parse_fmt (by omega) (by omega)]
  rfl
theorem words_split {p : Pj} {s : Sc} (h : Form p s) : splitB (joinB (wordsK p s p.acts.length) spS) spS = wordsK p s p.acts.length := by
  have hne : wordsK p s p.acts.length ≠ [] := fun e => by
    have h1 := wordsK_len p s p.acts.length
    have h2 := h.n1
    rw [e] at h1
    simp at h1
    omega
  refine split_join_c (c := 32) (by decide) _ (fun x hx => ?_) hne
  simp only [wordsK, List.mem_map, List.mem_range] at hx
  obtain ⟨a, ha, rfl⟩ := hx
  obtain ⟨h1, h2⟩ := h.nums ha
  have hQ : allB (fun c => c.toNat ≠ 32) (wordA p s a) := by
    refine allB_app (allB_app (allB_app (allB_app ((h.nmc ha).weak fun c hc => ?_) ?_) ((fmt_num (by omega) (by omega)).weak fun c hc => ?_)) ?_) ((fmt_num (by omega) (by omega)).weak fun c hc => ?_)
    · unfold nameC at hc; omega
    · intro c hc
      have hc : c ∈ [(64 : UInt8)] := hc
      simp at hc
      subst hc
      decide
    · unfold numC at hc; omega
    · intro c hc
      have hc : c ∈ [(47 : UInt8)] := hc
      simp at hc
      subst hc
      decide
    · unfold numC at hc; omega
  exact allB_ne (d := 32) hQ (fun e => e rfl) (by decide)
/-- What a text that is read gives: as many words as activities, each of three good parts. -/
theorem okPS_words {p : Pj} {x : ByteArray} (h : okPS p x = true) : (splitB x spS).length = p.acts.length ∧ ∀ y ∈ splitB x spS, wordOk y = true := by
  simp only [okPS, Bool.and_eq_true, decide_eq_true_eq] at h
  rcases hf : formB p (prsS x) with _ | _
  · exact absurd (fmtSc_bad hf) h.1
  · have f := form_of hf
    have e := h.2
    rw [fmtSc_yes hf] at e
    have w := words_split f
    rw [e] at w
    refine ⟨by rw [w, wordsK_len], fun y hy => ?_⟩
    rw [w] at hy
    simp only [wordsK, List.mem_map, List.mem_range] at hy
    obtain ⟨a, ha, rfl⟩ := hy
    exact word_ok f ha
theorem okPS_len {p : Pj} {x : ByteArray} (h : (splitB x spS).length ≠ p.acts.length) : okPS p x = false := by
  rcases e : okPS p x with _ | _
  · rfl
  · exact absurd (okPS_words e).1 h
theorem okPS_word {p : Pj} {x : ByteArray} {k : Nat} (hk : k < (splitB x spS).length) (h : wordOk (splitB x spS)[k] = false) : okPS p x = false := by
  rcases e : okPS p x with _ | _
  · rfl
  · rw [(okPS_words e).2 _ (List.getElem_mem hk)] at h; cases h
theorem split_empty (b : ByteArray) : splitB ⟨#[]⟩ b = [⟨#[]⟩] := split_eq (by show sL _ [] = _; rfl)
/-- If every word is good, the text is not empty: so one comparison decides. -/
theorem okPS_cmp {p : Pj} {x : ByteArray} (h : ∀ k, (hk : k < (splitB x spS).length) → wordOk (splitB x spS)[k] = true) : okPS p x = decide (fmtScB p (prsS x) = x) := by
  have hx : x ≠ ⟨#[]⟩ := by
    rintro rfl
    have h1 := h 0 (by rw [split_empty]; decide)
    have e : (splitB (⟨#[]⟩ : ByteArray) spS)[0]'(by rw [split_empty]; decide) = ⟨#[]⟩ := by simp [split_empty]
    rw [e, wordOk, split_empty] at h1
    simp at h1
  rw [okPS, Bool.eq_iff_iff]
  simp only [Bool.and_eq_true, decide_eq_true_eq]
  exact ⟨fun h => h.2, fun h => ⟨by rw [h]; exact hx, h⟩⟩
theorem wordOk_len {y : ByteArray} (h : (splitB y sep2).length ≠ 3) : wordOk y = false := by simp [wordOk, h]
theorem wordOk_p1 {y : ByteArray} (h : (parseB (pt y 1)).2 = false) : wordOk y = false := by simp [wordOk, h]
theorem wordOk_p2 {y : ByteArray} (h : (parseB (pt y 2)).2 = false) : wordOk y = false := by simp [wordOk, h]
theorem wordOk_yes {y : ByteArray} (h : (splitB y sep2).length = 3) (h1 : (parseB (pt y 1)).2 = true) (h2 : (parseB (pt y 2)).2 = true) : wordOk y = true := by simp [wordOk, h, h1, h2]
theorem prsS_len (x : ByteArray) : (prsS x).st.length = (splitB x spS).length ∧ (prsS x).mo.length = (splitB x spS).length := by simp [prsS]
end Go.Proofs.YtaglfdkeomjpdabGreatDoor
