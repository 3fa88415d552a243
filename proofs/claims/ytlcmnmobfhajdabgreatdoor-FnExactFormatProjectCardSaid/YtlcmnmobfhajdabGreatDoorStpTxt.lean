/- DERIVED. Capacity steps and their text: what is formatted is parsed again, and what is parsed was formatted so. No contract. -/
import Derived.Test.YtlcmnmobfhajdabGreatDoorTxtMaths
import Derived.Test.YtlcmnmobfhajdabGreatDoorMaths
namespace Go.Proofs.YtlcmnmobfhajdabGreatDoor

def colon : ByteArray := ⟨#[58]⟩
theorem colon_sep : colon = sepS 58 := rfl
theorem comma_sep : comma = sepS 44 := rfl
/-- One step's text. -/
def fmtStep (p : Pr) : ByteArray := fmtB p.1 ++ colon ++ fmtB p.2
noncomputable def fmtSteps (xs : List Pr) : ByteArray := if okP xs then joinB (xs.map fmtStep) comma else ⟨#[]⟩
theorem fmtStep_size (p : Pr) : (fmtStep p).size ≤ 15 := by
  unfold fmtStep
  rw [size_app, size_app]
  have h1 := fmtB_size p.1
  have h2 := fmtB_size p.2
  have h3 : colon.size = 1 := rfl
  omega
theorem fmtStep_join (p : Pr) : joinB [fmtB p.1, fmtB p.2] colon = fmtStep p := by
  rw [show [fmtB p.1, fmtB p.2] = [fmtB p.1] ++ [fmtB p.2] from rfl, join_snoc _ _ _ (by simp), join_one]; rfl
theorem fmt_no58 (n : Int) : ∀ k, byt (fmtB n) k ≠ 58 := by
  intro k h
  by_cases hn : -100000 ≤ n ∧ n ≤ 100000
  · by_cases hk : k < (fmtB n).size
    · rcases (fmt_digits hn.1 hn.2).1 k hk with ⟨rfl, h2⟩ | h2
      · unfold negS at h2
        have := of_decide_eq_true h2
        omega
      · omega
    · rw [byt_out (by omega)] at h; omega
  · rw [fmtB_out (by omega)] at h
    rw [byt_out (by show 0 ≤ k; omega)] at h
    omega
theorem fmt_no44 (n : Int) : ∀ k, byt (fmtB n) k ≠ 44 := by
  intro k h
  by_cases hn : -100000 ≤ n ∧ n ≤ 100000
  · exact (fmt_digits hn.1 hn.2).2.2.2 k h
  · rw [fmtB_out (by omega), byt_out (by show 0 ≤ k; omega)] at h
    omega
theorem byt_app {x y : ByteArray} {k : Nat} : byt (x ++ y) k = if k < x.size then byt x k else byt y (k - x.size) := by
  by_cases h : k < x.size
  · rw [if_pos h, byt_l h]
  · rw [if_neg h]
    have := byt_r (x := x) (y := y) (k := k - x.size)
    rwa [show x.size + (k - x.size) = k from by omega] at this
theorem byt_colon (k : Nat) : byt colon k = 58 ∨ byt colon k = 0 := by
  by_cases h : k = 0
  · subst h; exact .inl rfl
  · exact .inr (byt_out (by show 1 ≤ k; omega))
theorem fmtStep_no44 (p : Pr) : ∀ k, byt (fmtStep p) k ≠ 44 := by
  intro k
  unfold fmtStep
  rw [byt_app, byt_app]
  split
  · split
    · exact fmt_no44 _ _
    · rcases byt_colon (k - (fmtB p.1).size) with h | h <;> rw [h] <;> omega
  · exact fmt_no44 _ _
theorem fmtStep_split (p : Pr) : splitB (fmtStep p) colon = [fmtB p.1, fmtB p.2] := by
  rw [← fmtStep_join, colon_sep]
  refine split_join_c (c := 58) (by decide) _ (fun x hx k => ?_) (by simp)
  simp only [List.mem_cons, List.mem_nil_iff, or_false] at hx
  rcases hx with rfl | rfl
  · exact fmt_no58 _ k
  · exact fmt_no58 _ k

/-- The parts of a text at ','; the parts of a step's text at ':', with an empty one behind. -/
def stepParts (s : ByteArray) : List ByteArray := splitB s comma
def ends (x : ByteArray) : List ByteArray := splitB x colon ++ [⟨#[]⟩]
def stN (x : ByteArray) : Pr := ((parseB ((ends x).getD 0 ⟨#[]⟩)).1, (parseB ((ends x).getD 1 ⟨#[]⟩)).1)
def stOk (x : ByteArray) : Bool := (parseB ((ends x).getD 0 ⟨#[]⟩)).2 && (parseB ((ends x).getD 1 ⟨#[]⟩)).2
def stTwo (x : ByteArray) : Bool := decide ((splitB x colon).length = 2)
open Classical in
/-- What ParseSteps answers. -/
noncomputable def parSteps (s : ByteArray) : List Pr × Bool :=
  if (∀ x ∈ stepParts s, stOk x = true) ∧ fmtSteps ((stepParts s).map stN) = s then ((stepParts s).map stN, true) else ([], false)
open Classical in
noncomputable def parStepsI (s : ByteArray) : List Pr × Bool :=
  if (∀ x ∈ stepParts s, stTwo x = true ∧ stOk x = true) ∧ okP ((stepParts s).map stN) = true then ((stepParts s).map stN, true) else ([], false)

theorem parse_back {s : ByteArray} (h : (parseB s).2 = true) : fmtB (parseB s).1 = s := by
  unfold parseB at h ⊢
  split at h
  · rename_i hh
    rw [if_pos hh]
    exact hh.2.2
  · cases h
theorem parse_empty : (parseB ⟨#[]⟩).2 = false := by rw [par_none rfl]
theorem parts_nonempty (s b : ByteArray) : splitB s b ≠ [] := by have := (splitB_len s b).1; intro e; rw [e] at this; simp at this
theorem step_back {x : ByteArray} (h1 : stTwo x = true) (h2 : stOk x = true) : fmtStep (stN x) = x := by
  unfold stTwo at h1
  have hl := of_decide_eq_true h1
  unfold stOk at h2
  rw [Bool.and_eq_true] at h2
  obtain ⟨a, b, hab⟩ : ∃ a b, splitB x colon = [a, b] := by
    match hs : splitB x colon, hl with
    | [a, b], _ => exact ⟨a, b, rfl⟩
  have e0 : (ends x).getD 0 ⟨#[]⟩ = a := by simp [ends, hab]
  have e1 : (ends x).getD 1 ⟨#[]⟩ = b := by simp [ends, hab]
  rw [e0, e1] at h2
  unfold fmtStep stN
  rw [e0, e1]
  show fmtB (parseB a).1 ++ colon ++ fmtB (parseB b).1 = x
  rw [parse_back h2.1, parse_back h2.2]
  have hj := join_split_c (c := 58) (by decide) x
  rw [← colon_sep, hab, show [a, b] = [a] ++ [b] from rfl, join_snoc _ _ _ (by simp), join_one] at hj
  exact hj
theorem stOk_empty : stOk ⟨#[]⟩ = false := by
  unfold stOk
  have : splitB (⟨#[]⟩ : ByteArray) colon = [⟨#[]⟩] := by
    rw [colon_sep]
    exact split_one_c (c := 58) (by decide) (fun k => by rw [byt_out (by show 0 ≤ k; omega)]; decide)
  simp [ends, this, parse_empty]
theorem step_fmt {p : Pr} (h1 : -100000 ≤ p.1 ∧ p.1 ≤ 100000) (h2 : -100000 ≤ p.2 ∧ p.2 ≤ 100000) : stN (fmtStep p) = p ∧ stOk (fmtStep p) = true ∧ stTwo (fmtStep p) = true := by
  unfold stN stOk stTwo ends
  rw [fmtStep_split]
  simp [parse_fmt h1.1 h1.2, parse_fmt h2.1 h2.2]
/-- Both readings of ParseSteps agree. -/
theorem par_agree (s : ByteArray) : parStepsI s = parSteps s := by
  unfold parStepsI parSteps
  by_cases hall : ∀ x ∈ stepParts s, stOk x = true
  · by_cases htwo : ∀ x ∈ stepParts s, stTwo x = true
    · by_cases hok : okP ((stepParts s).map stN) = true
      · have hfs : fmtSteps ((stepParts s).map stN) = s := by
          unfold fmtSteps
          rw [if_pos hok, List.map_map]
          have : (stepParts s).map (fmtStep ∘ stN) = stepParts s := by
            conv => rhs; rw [← List.map_id (stepParts s)]
            exact List.map_congr_left fun x hx => step_back (htwo x hx) (hall x hx)
          rw [this]
          exact join_split s
        rw [if_pos ⟨fun x hx => ⟨htwo x hx, hall x hx⟩, hok⟩, if_pos ⟨hall, hfs⟩]
      · rw [if_neg (fun h => hok h.2), if_neg]
        intro h
        have he := h.2
        unfold fmtSteps at he
        rw [if_neg hok] at he
        have hs : stepParts s = [⟨#[]⟩] := by
          rw [← he]
          exact split_one (fun k => by rw [byt_out (by show 0 ≤ k; omega)]; decide)
        have := hall ⟨#[]⟩ (by rw [hs]; simp)
        rw [stOk_empty] at this
        cases this
    · rw [if_neg (fun h => htwo fun x hx => (h.1 x hx).1), if_neg]
      intro h
      refine htwo fun x hx => ?_
      have he := h.2
      by_cases hok : okP ((stepParts s).map stN) = true
      · unfold fmtSteps at he
        rw [if_pos hok] at he
        have hp : stepParts s = ((stepParts s).map stN).map fmtStep := by
          conv => lhs; rw [stepParts, ← he]
          refine split_join _ (fun y hy k => ?_) ?_
          · obtain ⟨q, _, rfl⟩ := List.mem_map.1 hy
            exact fmtStep_no44 q k
          · intro e
            have := parts_nonempty s comma
            simp only [List.map_eq_nil_iff] at e
            exact this e
        rw [hp] at hx
        obtain ⟨q, _, rfl⟩ := List.mem_map.1 hx
        unfold stTwo
        rw [fmtStep_split]
        simp
      · unfold fmtSteps at he
        rw [if_neg hok] at he
        have hs : stepParts s = [⟨#[]⟩] := by
          rw [← he]
          exact split_one (fun k => by rw [byt_out (by show 0 ≤ k; omega)]; decide)
        have := hall ⟨#[]⟩ (by rw [hs]; simp)
        rw [stOk_empty] at this
        cases this
  · rw [if_neg (fun h => hall fun x hx => (h.1 x hx).2), if_neg (fun h => hall h.1)]
theorem par_fmtSteps {xs : List Pr} (h : okS xs) : parSteps (fmtSteps xs) = (xs, true) := by
  have hok := okP_iff.2 h
  have hr : ∀ p ∈ xs, stN (fmtStep p) = p ∧ stOk (fmtStep p) = true ∧ stTwo (fmtStep p) = true := fun p hp => by
    have := (okS_iff.1 h).2.2.2.2 p hp
    exact step_fmt (by omega) (by omega)
  have hp : stepParts (fmtSteps xs) = xs.map fmtStep := by
    unfold fmtSteps stepParts
    rw [if_pos hok]
    refine split_join _ (fun y hy k => ?_) ?_
    · obtain ⟨q, _, rfl⟩ := List.mem_map.1 hy
      exact fmtStep_no44 q k
    · intro e
      have := h.1
      simp only [List.map_eq_nil_iff] at e
      rw [e] at this; simp at this
  have hm : (stepParts (fmtSteps xs)).map stN = xs := by
    rw [hp, List.map_map]
    conv => rhs; rw [← List.map_id xs]
    exact List.map_congr_left fun p hpm => (hr p hpm).1
  have hcond : (∀ x ∈ stepParts (fmtSteps xs), stOk x = true) ∧ fmtSteps ((stepParts (fmtSteps xs)).map stN) = fmtSteps xs := by
    refine ⟨fun x hx => ?_, by rw [hm]⟩
    rw [hp] at hx
    obtain ⟨q, hq, rfl⟩ := List.mem_map.1 hx
    exact (hr q hq).2.1
  unfold parSteps
  rw [if_pos hcond, hm]
theorem parSteps_len (s : ByteArray) : (parSteps s).1.length ≤ s.size + 1 := by
  unfold parSteps
  split
  · simp; exact (splitB_len s comma).2
  · simp
theorem fmtSteps_tot : ∀ xs : List Pr, tot (xs.map fmtStep) ≤ 15 * xs.length
  | [] => by simp [tot]
  | p :: l => by
    have := fmtSteps_tot l
    have := fmtStep_size p
    simp [tot] at *
    omega
end Go.Proofs.YtlcmnmobfhajdabGreatDoor
