/- DERIVED. Modes and their text: what is formatted is parsed again, and what is parsed was formatted so. No contract. -/
import Derived.Test.YtlcmnmobfhajdabGreatDoorStpTxt
import Derived.Test.YtlcmnmobfhajdabGreatDoorMaths
namespace Go.Proofs.YtlcmnmobfhajdabGreatDoor

def slash : ByteArray := ⟨#[47]⟩
theorem slash_sep : slash = sepS 47 := rfl
theorem join3 (x y z b : ByteArray) : joinB [x, y, z] b = x ++ b ++ y ++ b ++ z := by
  rw [show [x, y, z] = [x, y] ++ [z] from rfl, join_snoc _ _ _ (by simp), show [x, y] = [x] ++ [y] from rfl, join_snoc _ _ _ (by simp), join_one]
/-- The text of a mode: a duration and two lists. -/
def fmtMd (d : Int) (u c : List Int) : ByteArray := if inB d 1 12 = true ∧ fmtsB u ≠ ⟨#[]⟩ ∧ fmtsB c ≠ ⟨#[]⟩ then joinB [fmtB d, fmtsB u, fmtsB c] slash else ⟨#[]⟩
theorem fmtMd_no {d : Int} {u c : List Int} (h : inB d 1 12 = false ∨ fmtsB u = ⟨#[]⟩ ∨ fmtsB c = ⟨#[]⟩) : fmtMd d u c = ⟨#[]⟩ := by
  unfold fmtMd
  rw [if_neg]
  rintro ⟨h1, h2, h3⟩
  rcases h with h | h | h
  · rw [h] at h1; cases h1
  · exact h2 h
  · exact h3 h
theorem fmtMd_yes {d : Int} {u c : List Int} (h1 : inB d 1 12 = true) (h2 : fmtsB u ≠ ⟨#[]⟩) (h3 : fmtsB c ≠ ⟨#[]⟩) : fmtMd d u c = joinB [fmtB d, fmtsB u, fmtsB c] slash := if_pos ⟨h1, h2, h3⟩
theorem fmts_size (l : List Int) : (fmtsB l).size ≤ 8 * l.length + 1 := by
  unfold fmtsB
  split
  · show 1 ≤ _; omega
  · split
    · show 0 ≤ _; omega
    · have h1 := jn_size (l.map fmtB) ⟨#[44]⟩ _ (Nat.le_refl _)
      have h2 := fmts_tot l
      have h3 : (⟨#[44]⟩ : ByteArray).size = 1 := rfl
      rw [List.take_length, List.length_map, h3] at h1
      unfold joinB
      rw [List.length_map]
      omega

/-- A list of numbers that is parsed was formatted so. -/
theorem parses_back {s : ByteArray} (h : (parsesB s).2 = true) : fmtsB (parsesB s).1 = s := by
  unfold parsesB at h ⊢
  by_cases hd : s = ⟨#[45]⟩
  · rw [if_pos hd, hd]; exact fmts_nil
  · rw [if_neg hd] at h ⊢
    by_cases hp : ∀ p, p ∈ partsB s → (parseB p).2 = true
    · rw [if_pos hp]
      have hl := (splitB_len s ⟨#[44]⟩).1
      have e : ((partsB s).map parN).map fmtB = partsB s := by
        rw [List.map_map]
        conv => rhs; rw [← List.map_id (partsB s)]
        exact List.map_congr_left fun p hq => parse_back (hp p hq)
      rw [fmts_ok (by rw [List.length_map]; exact hl)]
      · rw [e]; exact join_split s
      · intro j hj
        rw [List.getElem_map]
        rw [List.length_map] at hj
        have hq := hp _ (List.getElem_mem hj)
        rw [show fmtB (parN (partsB s)[j]) = (partsB s)[j] from parse_back hq]
        intro e0
        rw [e0, parse_empty] at hq
        cases hq
    · rw [if_neg hp] at h; cases h
theorem parses_some {s : ByteArray} (h : (parsesB s).2 = true) : s ≠ ⟨#[]⟩ := by
  intro e
  subst e
  unfold parsesB at h
  rw [if_neg (by intro e; have := congrArg ByteArray.size e; cases this)] at h
  rw [if_neg] at h
  · cases h
  · intro hp
    have hl := (splitB_len ⟨#[]⟩ ⟨#[44]⟩).1
    obtain ⟨p, hp1⟩ : ∃ p, p ∈ partsB ⟨#[]⟩ := List.exists_mem_of_length_pos hl
    have h2 := hp p hp1
    have h3 : p.size ≤ 0 := parts_size ⟨#[]⟩ p hp1
    have h4 : p = ⟨#[]⟩ := lst_inj (List.eq_nil_of_length_eq_zero (by rw [lst_len]; omega))
    rw [h4, parse_empty] at h2
    cases h2

/-- The three parts of a mode's text. -/
def part3 (s : ByteArray) (i : Nat) : ByteArray := (splitB s slash).getD i ⟨#[]⟩
def mdOk (s : ByteArray) : Bool := decide ((splitB s slash).length = 3) && ((parseB (part3 s 0)).2 && (inB (parseB (part3 s 0)).1 1 12 && ((parsesB (part3 s 1)).2 && (parsesB (part3 s 2)).2)))
theorem split3 {s : ByteArray} (h : (splitB s slash).length = 3) : splitB s slash = [part3 s 0, part3 s 1, part3 s 2] := by
  unfold part3
  match hs : splitB s slash, h with
  | [x, y, z], _ => rfl
theorem mode_back {s : ByteArray} (hl : (splitB s slash).length = 3) (h0 : (parseB (part3 s 0)).2 = true) (hd : inB (parseB (part3 s 0)).1 1 12 = true) (h1 : (parsesB (part3 s 1)).2 = true) (h2 : (parsesB (part3 s 2)).2 = true) :
    fmtMd (parseB (part3 s 0)).1 (parsesB (part3 s 1)).1 (parsesB (part3 s 2)).1 = s := by
  rw [fmtMd_yes hd (by rw [parses_back h1]; exact parses_some h1) (by rw [parses_back h2]; exact parses_some h2), parse_back h0, parses_back h1, parses_back h2, ← split3 hl, slash_sep]
  exact join_split_c (by decide) s
theorem mode_no {s : ByteArray} (hl : (splitB s slash).length = 3) (hd : inB (parseB (part3 s 0)).1 1 12 = false) (u c : List Int) : fmtMd (parseB (part3 s 0)).1 u c ≠ s := by
  rw [fmtMd_no (.inl hd)]
  intro e
  have := (splitB_len s slash).2
  rw [hl, ← e] at this
  have hz : (⟨#[]⟩ : ByteArray).size = 0 := rfl
  omega
theorem part3_at {s : ByteArray} (hl : (splitB s slash).length = 3) {i : Nat} (hi : i < 3) : (splitB s slash)[i]'(by omega) = part3 s i := by
  unfold part3
  rw [List.getD, List.getElem?_eq_getElem (by omega)]
  rfl
theorem part3_size (s : ByteArray) (i : Nat) : (part3 s i).size ≤ s.size := by
  unfold part3
  rw [List.getD]
  rcases h : (splitB s slash)[i]? with _ | x
  · show 0 ≤ _; omega
  · have hx := List.mem_of_getElem? h
    unfold splitB at hx
    simp only [List.mem_append, List.mem_singleton] at hx
    show x.size ≤ _
    rcases hx with hx | rfl
    · exact spl_sizes s _ _ x hx
    · rw [ByteArray.size_extract]; omega
end Go.Proofs.YtlcmnmobfhajdabGreatDoor
