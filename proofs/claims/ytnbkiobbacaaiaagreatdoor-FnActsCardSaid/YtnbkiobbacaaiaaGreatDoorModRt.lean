/- DERIVED. A valid mode's text is parsed to the mode again. No contract. -/
import Derived.Test.YtnbkiobbacaaiaaGreatDoorModP
import Derived.Test.YtnbkiobbacaaiaaGreatDoorStpTxt
namespace Go.Proofs.YtnbkiobbacaaiaaGreatDoor

theorem fmt_no47 (n : Int) : ∀ k, byt (fmtB n) k ≠ 47 := by
  intro k h
  by_cases hn : -100000 ≤ n ∧ n ≤ 100000
  · by_cases hk : k < (fmtB n).size
    · rcases (fmt_digits hn.1 hn.2).1 k hk with ⟨rfl, h2⟩ | h2
      · unfold negS at h2
        have := of_decide_eq_true h2
        omega
      · omega
    · rw [byt_out (by omega)] at h; omega
  · rw [fmtB_out (by omega)] at h
    rw [byt_out (by show 0 ≤ k; omega)] at h
    omega
theorem byt_one (c : UInt8) (k : Nat) : byt ⟨#[c]⟩ k = c.toNat ∨ byt ⟨#[c]⟩ k = 0 := by
  by_cases h : k = 0
  · subst h; exact .inl rfl
  · exact .inr (byt_out (by show 1 ≤ k; omega))
theorem join_no47 : ∀ (n : Nat) (ys : List ByteArray) (y : ByteArray), ys.length = n → (∀ x ∈ ys ++ [y], ∀ k, byt x k ≠ 47) → ∀ k, byt (joinB (ys ++ [y]) comma) k ≠ 47
  | 0, ys, y, hn, h => by
    obtain rfl := List.eq_nil_of_length_eq_zero hn
    rw [List.nil_append] at h ⊢
    rw [join_one]
    exact h y (by simp)
  | n + 1, ys, y, hn, h => by
    have h0 : ys ≠ [] := by intro e; subst e; simp at hn
    obtain ⟨zs, z, rfl⟩ : ∃ zs z, ys = zs ++ [z] := ⟨ys.dropLast, ys.getLast h0, (List.dropLast_concat_getLast h0).symm⟩
    have ih := join_no47 n zs z (by simpa using hn) (fun x hx => h x (List.mem_append_left _ hx))
    intro k
    rw [join_snoc _ _ _ h0, byt_app, byt_app]
    split
    · split
      · exact ih _
      · rcases byt_one 44 (k - (joinB (zs ++ [z]) comma).size) with e | e
        · intro h; rw [show byt comma _ = _ from e] at h; exact absurd h (by decide)
        · intro h; rw [show byt comma _ = _ from e] at h; exact absurd h (by decide)
    · exact h y (by simp) _
theorem fmts_no47 (l : List Int) : ∀ k, byt (fmtsB l) k ≠ 47 := by
  intro k
  unfold fmtsB
  split
  · rcases byt_one 45 k with e | e <;> rw [e] <;> decide
  · split
    · rw [byt_out (by show 0 ≤ k; omega)]; decide
    · rename_i h0 _
      obtain ⟨ys, y, e⟩ : ∃ ys y, l.map fmtB = ys ++ [y] := ⟨(l.map fmtB).dropLast, (l.map fmtB).getLast (by simpa using h0), (List.dropLast_concat_getLast _).symm⟩
      rw [e]
      exact join_no47 _ ys y rfl (fun x hx => by
        rw [← e] at hx
        obtain ⟨n, _, rfl⟩ := List.mem_map.1 hx
        exact fmt_no47 n) k
/-- What is written of a mode in range is read as that mode. -/
theorem mode_rt {d : Int} {u c : List Int} (hd : inB d 1 12 = true) (hd2 : 1 ≤ d ∧ d ≤ 12) (hu : ∀ n ∈ u, -100000 ≤ n ∧ n ≤ 100000) (hc : ∀ n ∈ c, -100000 ≤ n ∧ n ≤ 100000) :
    mdOk (fmtMd d u c) = true ∧ parMd (fmtMd d u c) = ⟨d, u, c⟩ := by
  have hs : splitB (fmtMd d u c) slash = [fmtB d, fmtsB u, fmtsB c] := by
    rw [fmtMd_yes hd (parses_some (by rw [parses_fmts hu])) (parses_some (by rw [parses_fmts hc])), slash_sep]
    refine split_join_c (c := 47) (by decide) _ (fun x hx k => ?_) (by simp)
    simp only [List.mem_cons, List.mem_nil_iff, or_false] at hx
    rcases hx with rfl | rfl | rfl
    · exact fmt_no47 _ k
    · exact fmts_no47 _ k
    · exact fmts_no47 _ k
  have p0 : part3 (fmtMd d u c) 0 = fmtB d := by unfold part3; rw [hs]; rfl
  have p1 : part3 (fmtMd d u c) 1 = fmtsB u := by unfold part3; rw [hs]; rfl
  have p2 : part3 (fmtMd d u c) 2 = fmtsB c := by unfold part3; rw [hs]; rfl
  have ok : mdOk (fmtMd d u c) = true := by
    unfold mdOk
    rw [p0, p1, p2, hs, parse_fmt (by omega) (by omega), parses_fmts hu, parses_fmts hc]
    simp [hd]
  exact ⟨ok, by rw [par_yes_md ok, p0, p1, p2, parse_fmt (by omega) (by omega), parses_fmts hu, parses_fmts hc]⟩
end Go.Proofs.YtnbkiobbacaaiaaGreatDoor
