/- DERIVED. What is split at a byte is joined again, and what is joined is split again, whatever the byte. No contract. -/
import Derived.Test.YtlnbkhfjbpnbfaaDoorWordsMath
namespace Go.Proofs.YtlnbkhfjbpnbfaaDoor

def sepS (c : UInt8) : ByteArray := ⟨#[c]⟩
theorem hit_sep_c {c : UInt8} (hc : 0 < c.toNat) {s : ByteArray} {k : Nat} : hitB s (sepS c) k = true ↔ byt s k = c.toNat := by
  unfold hitB sepS
  rw [decide_eq_true_iff]
  constructor
  · rintro ⟨j, hj, hk, e⟩
    have hj' : j < 1 := hj
    obtain rfl : j = 0 := by omega
    rw [byt_at hk, e]
    rfl
  · intro h
    have hk : k < s.size := by
      by_cases hk : k < s.size
      · exact hk
      · rw [byt_out (by omega)] at h; omega
    refine ⟨0, (by show 0 < 1; omega), hk, ?_⟩
    rw [byt_at hk] at h
    apply UInt8.toNat_inj.1
    rw [h]
    rfl
theorem join_spl_c {c : UInt8} (hc : 0 < c.toNat) (s : ByteArray) : ∀ k, k ≤ s.size → joinB ((spl s (sepS c) k).1 ++ [s.extract (spl s (sepS c) k).2 k]) (sepS c) = s.extract 0 k
  | 0, _ => by
    rw [spl, List.nil_append, join_one]
  | k + 1, hk => by
    have ih := join_spl_c hc s k (by omega)
    have hle := (spl_le s (sepS c) k).1
    rcases hh : hitB s (sepS c) k with _ | _
    · rw [spl_miss hh, ext_succ (by omega) hle, join_grow, ih, ext_succ (by omega) (Nat.zero_le _)]
    · rw [spl_hit hh]
      have he : s.extract (k + 1) (k + 1) = ⟨#[]⟩ := lst_inj (by rw [lst_ext, List.drop_of_length_le (by simp; omega)]; rfl)
      simp only [he]
      rw [join_snoc _ _ _ (by simp), ih, app_empty, ext_succ (by omega) (Nat.zero_le _)]
      congr 1
      have h44 := (hit_sep_c hc).1 hh
      rw [byt_at (by omega)] at h44
      have : s[k] = c := UInt8.toNat_inj.1 h44
      rw [this]
      rfl
theorem join_split_c {c : UInt8} (hc : 0 < c.toNat) (s : ByteArray) : joinB (splitB s (sepS c)) (sepS c) = s := by
  unfold splitB
  rw [join_spl_c hc s s.size (Nat.le_refl _)]
  exact lst_inj (by rw [lst_ext, ← lst_len]; simp)

theorem spl_pre_c {c : UInt8} (hc : 0 < c.toNat) (s t : ByteArray) : ∀ k, k ≤ s.size → spl (s ++ t) (sepS c) k = spl s (sepS c) k
  | 0, _ => rfl
  | k + 1, h => by
    have ih := spl_pre_c hc s t k (by omega)
    have hle := (spl_le s (sepS c) k).1
    have hb : hitB (s ++ t) (sepS c) k = hitB s (sepS c) k := by
      rw [Bool.eq_iff_iff, hit_sep_c hc, hit_sep_c hc, byt_l (by omega)]
    rw [spl, spl, ih, hb]
    have he : (s ++ t).extract (spl s (sepS c) k).2 k = s.extract (spl s (sepS c) k).2 k := by
      apply lst_inj
      rw [lst_ext, lst_ext, lst_app, List.take_append_of_le_length (by rw [lst_len]; omega)]
    rw [he]
theorem spl_none_c {c : UInt8} (hc : 0 < c.toNat) (s : ByteArray) (m : Nat) : ∀ d, (∀ j, m ≤ j → j < m + d → byt s j ≠ c.toNat) → spl s (sepS c) (m + d) = spl s (sepS c) m
  | 0, _ => rfl
  | d + 1, h => by
    have hm : hitB s (sepS c) (m + d) = false := by
      rcases hh : hitB s (sepS c) (m + d) with _ | _
      · rfl
      · exact absurd ((hit_sep_c hc).1 hh) (h _ (by omega) (by omega))
    rw [← Nat.add_assoc, spl_miss hm, spl_none_c hc s m d (fun j h1 h2 => h j h1 (by omega))]
theorem split_one_c {c : UInt8} (hc : 0 < c.toNat) {x : ByteArray} (h : ∀ k, byt x k ≠ c.toNat) : splitB x (sepS c) = [x] := by
  have := spl_none_c hc x 0 x.size (fun j _ _ => h j)
  rw [Nat.zero_add] at this
  unfold splitB
  rw [this, spl]
  simp only [List.nil_append]
  congr 1
  exact lst_inj (by rw [lst_ext, ← lst_len]; simp)
theorem split_snoc_c {c : UInt8} (hc : 0 < c.toNat) (s x : ByteArray) (h : ∀ k, byt x k ≠ c.toNat) : splitB (s ++ (sepS c) ++ x) (sepS c) = splitB s (sepS c) ++ [x] := by
  have hcs : (sepS c).size = 1 := rfl
  have hsz : (s ++ (sepS c) ++ x).size = (s.size + 1) + x.size := by rw [size_app, size_app, hcs]
  have h1 : spl (s ++ (sepS c) ++ x) (sepS c) s.size = spl s (sepS c) s.size := by rw [← ass]; exact spl_pre_c hc _ _ _ (Nat.le_refl _)
  have hat : byt (s ++ (sepS c) ++ x) s.size = c.toNat := by
    rw [← ass]
    have := byt_r (x := s) (y := (sepS c) ++ x) (k := 0)
    rw [Nat.add_zero] at this
    rw [this, byt_l (by show 0 < 1; omega)]
    rfl
  have h2 := spl_hit ((hit_sep_c hc).2 hat)
  have h3 := spl_none_c hc (s ++ (sepS c) ++ x) (s.size + 1) x.size (fun j hj1 hj2 => by
    obtain ⟨i, rfl⟩ : ∃ i, j = (s ++ (sepS c)).size + i := ⟨j - (s.size + 1), by rw [size_app, hcs]; omega⟩
    rw [byt_r]; exact h i)
  unfold splitB
  rw [hsz, h3, h2, h1]
  have e1 : (s ++ (sepS c) ++ x).extract (spl s (sepS c) s.size).2 s.size = s.extract (spl s (sepS c) s.size).2 s.size := by
    apply lst_inj
    rw [lst_ext, lst_ext, lst_app, lst_app, List.append_assoc, List.take_append_of_le_length (by rw [lst_len]; omega)]
  have e2 : (s ++ (sepS c) ++ x).extract (s.size + 1) (s.size + 1 + x.size) = x := by
    apply lst_inj
    rw [lst_ext, lst_app, List.take_of_length_le (by rw [List.length_append, lst_app, List.length_append, lst_len, lst_len, lst_len, hcs]; omega), List.drop_append_of_le_length (by rw [lst_app, List.length_append, lst_len, lst_len, hcs]; omega), List.drop_of_length_le (by rw [lst_app, List.length_append, lst_len, lst_len, hcs]; omega)]
    rfl
  simp only [e1, e2]
theorem split_join_snoc_c {c : UInt8} (hc : 0 < c.toNat) : ∀ (n : Nat) (ys : List ByteArray) (y : ByteArray), ys.length = n → (∀ x ∈ ys ++ [y], ∀ k, byt x k ≠ c.toNat) → splitB (joinB (ys ++ [y]) (sepS c)) (sepS c) = ys ++ [y]
  | 0, ys, y, hn, h => by
    obtain rfl := List.eq_nil_of_length_eq_zero hn
    rw [List.nil_append] at h ⊢
    rw [join_one, split_one_c hc (h y (by simp))]
  | n + 1, ys, y, hn, h => by
    have h0 : ys ≠ [] := by intro e; subst e; simp at hn
    obtain ⟨zs, z, rfl⟩ : ∃ zs z, ys = zs ++ [z] := ⟨ys.dropLast, ys.getLast h0, (List.dropLast_concat_getLast h0).symm⟩
    rw [join_snoc _ _ _ h0, split_snoc_c hc _ _ (h y (by simp)), split_join_snoc_c hc n zs z (by simpa using hn) (fun x hx => h x (List.mem_append_left _ hx))]
theorem split_join_c {c : UInt8} (hc : 0 < c.toNat) (xs : List ByteArray) (h : ∀ x ∈ xs, ∀ k, byt x k ≠ c.toNat) (h0 : xs ≠ []) : splitB (joinB xs (sepS c)) (sepS c) = xs := by
  obtain ⟨ys, y, rfl⟩ : ∃ ys y, xs = ys ++ [y] := ⟨xs.dropLast, xs.getLast h0, (List.dropLast_concat_getLast h0).symm⟩
  exact split_join_snoc_c hc _ ys y rfl h

end Go.Proofs.YtlnbkhfjbpnbfaaDoor
