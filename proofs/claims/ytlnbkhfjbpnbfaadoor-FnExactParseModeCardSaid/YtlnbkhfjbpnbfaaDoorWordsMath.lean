/- DERIVED. Numbers and lists of them are parsed as they were formatted; what is split is joined again. No contract. -/
import Derived.Test.YtlnbkhfjbpnbfaaDoorParMath
import Derived.Test.YtlnbkhfjbpnbfaaDoorParsMath
import Derived.Test.YtlnbkhfjbpnbfaaDoorFmtsMath
import Derived.Test.YtlnbkhfjbpnbfaaDoorJoin
namespace Go.Proofs.YtlnbkhfjbpnbfaaDoor

def lst (s : ByteArray) : List UInt8 := s.data.toList
theorem lst_app (x y : ByteArray) : lst (x ++ y) = lst x ++ lst y := by simp only [lst, ByteArray.data_append, Array.toList_append]
theorem lst_len (x : ByteArray) : (lst x).length = x.size := Array.length_toList
theorem lst_inj {x y : ByteArray} (h : lst x = lst y) : x = y := ByteArray.ext (Array.toList_inj.1 h)
theorem size_app (x y : ByteArray) : (x ++ y).size = x.size + y.size := by rw [← lst_len, lst_app, List.length_append, lst_len, lst_len]
theorem byt_lst (s : ByteArray) (k : Nat) : byt s k = ((lst s).getD k 0).toNat := by
  unfold byt
  by_cases h : k < s.size
  · rw [dif_pos h]
    have h' : k < (lst s).length := by rw [lst_len]; exact h
    rw [List.getD_eq_getElem?_getD, List.getElem?_eq_getElem h']
    rfl
  · rw [dif_neg h]
    have h' : (lst s).length ≤ k := by rw [lst_len]; omega
    simp [List.getD, List.getElem?_eq_none h']
theorem getD_l {α : Type} {x y : List α} {k : Nat} (d : α) (h : k < x.length) : (x ++ y).getD k d = x.getD k d := by
  rw [List.getD_eq_getElem?_getD, List.getD_eq_getElem?_getD, List.getElem?_append_left h]
theorem getD_r {α : Type} {x y : List α} {k : Nat} (d : α) (h : x.length ≤ k) : (x ++ y).getD k d = y.getD (k - x.length) d := by
  rw [List.getD_eq_getElem?_getD, List.getD_eq_getElem?_getD, List.getElem?_append_right h]
theorem byt_l {x y : ByteArray} {k : Nat} (h : k < x.size) : byt (x ++ y) k = byt x k := by
  rw [byt_lst, byt_lst, lst_app, getD_l _ (by rw [lst_len]; exact h)]
theorem byt_r {x y : ByteArray} {k : Nat} : byt (x ++ y) (x.size + k) = byt y k := by
  rw [byt_lst, byt_lst, lst_app, getD_r _ (by rw [lst_len]; omega), lst_len]
  congr 2
  omega
theorem byt_out {s : ByteArray} {k : Nat} (h : s.size ≤ k) : byt s k = 0 := by unfold byt; rw [dif_neg (by omega)]
theorem dg1_byt {d : Nat} (h : d ≤ 9) : byt (dg1 (d : Int)) 0 = 48 + d := by
  rw [dg1_eq, byt_lst]
  simp [lst]
  omega
theorem negS_l {x y : ByteArray} (h : 0 < x.size) : negS (x ++ y) = negS x := by unfold negS; rw [byt_l h]
theorem dv_l {x y : ByteArray} : ∀ k, k ≤ x.size → dv (x ++ y) k = dv x k
  | 0, _ => rfl
  | k + 1, h => by
    rw [dv, dv, dv_l k (by omega), negS_l (by omega), byt_l (by omega)]

theorem dc_split {k : Nat} (h : 9 < k) : dc k = dc (k / 10) ++ dg1 ((k % 10 : Nat) : Int) := by
  have := dc_big h ⟨#[]⟩
  rw [app_empty, app_empty] at this
  exact this
theorem dc_one {k : Nat} (h : k ≤ 9) : dc k = dg1 (k : Int) := by
  have := dc_small h ⟨#[]⟩
  rwa [app_empty, app_empty] at this
theorem dc_pos : ∀ (f k : Nat), k < f → 1 ≤ (dc k).size
  | 0, k, h => by omega
  | f + 1, k, h => by
    by_cases h9 : k ≤ 9
    · rw [dc_one h9, dg1_size]; omega
    · rw [dc_split (by omega), size_app, dg1_size]; omega
/-- The digits of k behind a sign or nothing: each a digit, their value k. -/
theorem dc_ok (p : ByteArray) (hp : p = ⟨#[]⟩ ∨ p = ⟨#[45]⟩) : ∀ (f k : Nat), k < f → (∀ j, j < (dc k).size → 48 ≤ byt (dc k) j ∧ byt (dc k) j ≤ 57) ∧ dv (p ++ dc k) (p ++ dc k).size = k
  | 0, k, h => by omega
  | f + 1, k, h => by
    by_cases h9 : k ≤ 9
    · rw [dc_one h9]
      refine ⟨fun j hj => ?_, ?_⟩
      · rw [dg1_size] at hj
        obtain rfl : j = 0 := by omega
        rw [dg1_byt h9]; omega
      · rcases hp with rfl | rfl
        · have hs : ((⟨#[]⟩ : ByteArray) ++ dg1 (k : Int)).size = 0 + 1 := by rw [size_app, dg1_size]; rfl
          rw [hs, dv, empty_append, if_neg, dg1_byt h9]
          · simp [dv]
          · unfold negS; rw [dg1_byt h9]; simp; omega
        · have hs : ((⟨#[45]⟩ : ByteArray) ++ dg1 (k : Int)).size = 1 + 1 := by rw [size_app, dg1_size]; rfl
          have hb : byt ((⟨#[45]⟩ : ByteArray) ++ dg1 (k : Int)) 1 = 48 + k := by
            have := byt_r (x := (⟨#[45]⟩ : ByteArray)) (y := dg1 (k : Int)) (k := 0)
            rw [dg1_byt h9] at this
            exact this
          have hn : negS ((⟨#[45]⟩ : ByteArray) ++ dg1 (k : Int)) = true := by
            rw [negS_l (by decide)]; decide
          rw [hs, dv, if_neg (by omega), dv_sign hn, hb]
          omega
    · have hsp := dc_split (k := k) (by omega)
      obtain ⟨ih1, ih2⟩ := dc_ok p hp f (k / 10) (by omega)
      have hpos := dc_pos f (k / 10) (by omega)
      have hd : k % 10 ≤ 9 := by omega
      rw [hsp]
      refine ⟨fun j hj => ?_, ?_⟩
      · rw [size_app, dg1_size] at hj
        by_cases hj2 : j < (dc (k / 10)).size
        · rw [byt_l hj2]; exact ih1 j hj2
        · obtain rfl : j = (dc (k / 10)).size + 0 := by omega
          rw [byt_r, dg1_byt hd]; omega
      · have hassoc : p ++ (dc (k / 10) ++ dg1 ((k % 10 : Nat) : Int)) = (p ++ dc (k / 10)) ++ dg1 ((k % 10 : Nat) : Int) := lst_inj (by simp only [lst_app, List.append_assoc])
        have hs : ((p ++ dc (k / 10)) ++ dg1 ((k % 10 : Nat) : Int)).size = (p ++ dc (k / 10)).size + 1 := by rw [size_app _ (dg1 _), dg1_size]
        have hsz : 0 < (p ++ dc (k / 10)).size := by rw [size_app]; omega
        rw [hassoc, hs, dv, dv_l _ (Nat.le_refl _), ih2]
        have hb : byt ((p ++ dc (k / 10)) ++ dg1 ((k % 10 : Nat) : Int)) (p ++ dc (k / 10)).size = 48 + k % 10 := by
          have := byt_r (x := p ++ dc (k / 10)) (y := dg1 ((k % 10 : Nat) : Int)) (k := 0)
          rw [dg1_byt hd] at this
          exact this
        rw [hb, if_neg (by omega)]
        omega
theorem fmt_digits {n : Int} (h1 : -100000 ≤ n) (h2 : n ≤ 100000) : (∀ k, k < (fmtB n).size → dOk (fmtB n) k) ∧ valS (fmtB n) = n ∧ ((fmtB n).size = 1 → byt (fmtB n) 0 ≠ 45) ∧ ∀ k, byt (fmtB n) k ≠ 44 := by
  by_cases h0 : 0 ≤ n
  · obtain ⟨k, rfl⟩ : ∃ k : Nat, n = k := ⟨n.toNat, by omega⟩
    rw [fmtB_pos (by omega)]
    obtain ⟨hd, hv⟩ := dc_ok ⟨#[]⟩ (.inl rfl) (k + 1) k (by omega)
    rw [empty_append] at hv
    have hp := dc_pos (k + 1) k (by omega)
    have hneg : negS (dc k) = false := by unfold negS; have := hd 0 (by omega); simp; omega
    refine ⟨fun j hj => .inr (hd j hj), ?_, ?_, ?_⟩
    · unfold valS; rw [hneg, if_neg (by simp), hv]
    · intro _; have := hd 0 (by omega); omega
    · intro j
      by_cases hj : j < (dc k).size
      · have := hd j hj; omega
      · rw [byt_out (by omega)]; omega
  · obtain ⟨k, rfl, hk0⟩ : ∃ k : Nat, n = -(k : Int) ∧ 0 < k := ⟨(-n).toNat, by omega, by omega⟩
    rw [fmtB_neg hk0 (by omega)]
    obtain ⟨hd, hv⟩ := dc_ok ⟨#[45]⟩ (.inr rfl) (k + 1) k (by omega)
    have hp := dc_pos (k + 1) k (by omega)
    have hneg : negS ((⟨#[45]⟩ : ByteArray) ++ dc k) = true := by rw [negS_l (by decide)]; decide
    have hat : ∀ j, 0 < j → byt ((⟨#[45]⟩ : ByteArray) ++ dc k) j = byt (dc k) (j - 1) := fun j hj => by
      have := byt_r (x := (⟨#[45]⟩ : ByteArray)) (y := dc k) (k := j - 1)
      rw [← this]
      congr 1
      show j = 1 + (j - 1)
      omega
    have hsz : ((⟨#[45]⟩ : ByteArray) ++ dc k).size = 1 + (dc k).size := by rw [size_app]; rfl
    refine ⟨fun j hj => ?_, ?_, ?_, ?_⟩
    · by_cases hj0 : j = 0
      · exact .inl ⟨hj0, hneg⟩
      · refine .inr ?_
        rw [hat j (by omega)]
        exact hd (j - 1) (by omega)
    · unfold valS; rw [hneg, if_pos rfl, hv]
    · intro h; omega
    · intro j
      by_cases hj0 : j = 0
      · subst hj0; rw [byt_l (by decide)]; decide
      · rw [hat j (by omega)]
        by_cases hj : j - 1 < (dc k).size
        · have := hd (j - 1) hj; omega
        · rw [byt_out (by omega)]; omega
theorem parse_fmt {n : Int} (h1 : -100000 ≤ n) (h2 : n ≤ 100000) : parseB (fmtB n) = (n, true) := by
  obtain ⟨h3, h4, _, _⟩ := fmt_digits h1 h2
  rw [par_yes h3 (by have := fmtB_some h1 h2; omega) (by rw [h4]), h4]

/-! ### split and join at one byte -/
theorem jn_pre (xs ys : List ByteArray) (b : ByteArray) : ∀ k, k ≤ xs.length → jn (xs ++ ys) b k = jn xs b k
  | 0, _ => rfl
  | k + 1, h => by
    rw [jn, jn, jn_pre xs ys b k (by omega), getD_l _ (by omega)]
theorem join_snoc (xs : List ByteArray) (x b : ByteArray) (h : xs ≠ []) : joinB (xs ++ [x]) b = joinB xs b ++ b ++ x := by
  have h0 : 0 < xs.length := List.length_pos_iff.2 h
  unfold joinB
  rw [List.length_append, List.length_singleton, jn, if_neg (by omega), jn_pre _ _ _ _ (Nat.le_refl _), getD_r _ (Nat.le_refl _)]
  simp
theorem join_one (x b : ByteArray) : joinB [x] b = x := by
  unfold joinB
  rw [List.length_singleton, jn, if_pos rfl, jn]
  exact empty_append x
theorem ass (x y z : ByteArray) : x ++ (y ++ z) = (x ++ y) ++ z := lst_inj (by simp only [lst_app, List.append_assoc])
theorem join_grow (xs : List ByteArray) (x y b : ByteArray) : joinB (xs ++ [x ++ y]) b = joinB (xs ++ [x]) b ++ y := by
  by_cases h : xs = []
  · subst h; rw [List.nil_append, List.nil_append, join_one, join_one]
  · rw [join_snoc _ _ _ h, join_snoc _ _ _ h, ass]
def comma : ByteArray := ⟨#[44]⟩
theorem lst_ext (s : ByteArray) (i j : Nat) : lst (s.extract i j) = ((lst s).take j).drop i := by
  simp [lst, ByteArray.data_extract, Array.toList_extract, List.drop_take]
theorem ext_succ {s : ByteArray} {i k : Nat} (h : k < s.size) (hi : i ≤ k) : s.extract i (k + 1) = s.extract i k ++ ⟨#[s[k]]⟩ := by
  apply lst_inj
  have h' : k < (lst s).length := by rw [lst_len]; exact h
  rw [lst_app, lst_ext, lst_ext, List.take_succ_eq_append_getElem h', List.drop_append_of_le_length (by simp; omega)]
  rfl
theorem hit_comma {s : ByteArray} {k : Nat} : hitB s comma k = true ↔ byt s k = 44 := by
  unfold hitB comma
  rw [decide_eq_true_iff]
  constructor
  · rintro ⟨j, hj, hk, e⟩
    have hj' : j < 1 := hj
    obtain rfl : j = 0 := by omega
    rw [byt_at hk, e]
    rfl
  · intro h
    have hk : k < s.size := by
      by_cases hk : k < s.size
      · exact hk
      · rw [byt_out (by omega)] at h; cases h
    refine ⟨0, (by show 0 < 1; omega), hk, ?_⟩
    rw [byt_at hk] at h
    apply UInt8.toNat_inj.1
    rw [h]
    rfl
theorem join_spl (s : ByteArray) : ∀ k, k ≤ s.size → joinB ((spl s comma k).1 ++ [s.extract (spl s comma k).2 k]) comma = s.extract 0 k
  | 0, _ => by
    rw [spl, List.nil_append, join_one]
  | k + 1, hk => by
    have ih := join_spl s k (by omega)
    have hle := (spl_le s comma k).1
    rcases hh : hitB s comma k with _ | _
    · rw [spl_miss hh, ext_succ (by omega) hle, join_grow, ih, ext_succ (by omega) (Nat.zero_le _)]
    · rw [spl_hit hh]
      have he : s.extract (k + 1) (k + 1) = ⟨#[]⟩ := lst_inj (by rw [lst_ext, List.drop_of_length_le (by simp; omega)]; rfl)
      simp only [he]
      rw [join_snoc _ _ _ (by simp), ih, app_empty, ext_succ (by omega) (Nat.zero_le _)]
      congr 1
      have h44 := hit_comma.1 hh
      rw [byt_at (by omega)] at h44
      have : s[k] = 44 := UInt8.toNat_inj.1 (by rw [h44]; rfl)
      rw [this]
      rfl
theorem join_split (s : ByteArray) : joinB (splitB s comma) comma = s := by
  unfold splitB
  rw [join_spl s s.size (Nat.le_refl _)]
  exact lst_inj (by rw [lst_ext, ← lst_len]; simp)

theorem spl_pre (s t : ByteArray) : ∀ k, k ≤ s.size → spl (s ++ t) comma k = spl s comma k
  | 0, _ => rfl
  | k + 1, h => by
    have ih := spl_pre s t k (by omega)
    have hle := (spl_le s comma k).1
    have hb : hitB (s ++ t) comma k = hitB s comma k := by
      rw [Bool.eq_iff_iff, hit_comma, hit_comma, byt_l (by omega)]
    rw [spl, spl, ih, hb]
    have he : (s ++ t).extract (spl s comma k).2 k = s.extract (spl s comma k).2 k := by
      apply lst_inj
      rw [lst_ext, lst_ext, lst_app, List.take_append_of_le_length (by rw [lst_len]; omega)]
    rw [he]
theorem spl_none (s : ByteArray) (m : Nat) : ∀ d, (∀ j, m ≤ j → j < m + d → byt s j ≠ 44) → spl s comma (m + d) = spl s comma m
  | 0, _ => rfl
  | d + 1, h => by
    have hm : hitB s comma (m + d) = false := by
      rcases hh : hitB s comma (m + d) with _ | _
      · rfl
      · exact absurd (hit_comma.1 hh) (h _ (by omega) (by omega))
    rw [← Nat.add_assoc, spl_miss hm, spl_none s m d (fun j h1 h2 => h j h1 (by omega))]
theorem split_one {x : ByteArray} (h : ∀ k, byt x k ≠ 44) : splitB x comma = [x] := by
  have := spl_none x 0 x.size (fun j _ _ => h j)
  rw [Nat.zero_add] at this
  unfold splitB
  rw [this, spl]
  simp only [List.nil_append]
  congr 1
  exact lst_inj (by rw [lst_ext, ← lst_len]; simp)
theorem split_snoc (s x : ByteArray) (h : ∀ k, byt x k ≠ 44) : splitB (s ++ comma ++ x) comma = splitB s comma ++ [x] := by
  have hc : comma.size = 1 := rfl
  have hsz : (s ++ comma ++ x).size = (s.size + 1) + x.size := by rw [size_app, size_app, hc]
  have h1 : spl (s ++ comma ++ x) comma s.size = spl s comma s.size := by rw [← ass]; exact spl_pre _ _ _ (Nat.le_refl _)
  have hat : byt (s ++ comma ++ x) s.size = 44 := by
    rw [← ass]
    have := byt_r (x := s) (y := comma ++ x) (k := 0)
    rw [Nat.add_zero] at this
    rw [this, byt_l (by decide)]
    decide
  have h2 := spl_hit (hit_comma.2 hat)
  have h3 := spl_none (s ++ comma ++ x) (s.size + 1) x.size (fun j hj1 hj2 => by
    obtain ⟨i, rfl⟩ : ∃ i, j = (s ++ comma).size + i := ⟨j - (s.size + 1), by rw [size_app, hc]; omega⟩
    rw [byt_r]; exact h i)
  unfold splitB
  rw [hsz, h3, h2, h1]
  have e1 : (s ++ comma ++ x).extract (spl s comma s.size).2 s.size = s.extract (spl s comma s.size).2 s.size := by
    apply lst_inj
    rw [lst_ext, lst_ext, lst_app, lst_app, List.append_assoc, List.take_append_of_le_length (by rw [lst_len]; omega)]
  have e2 : (s ++ comma ++ x).extract (s.size + 1) (s.size + 1 + x.size) = x := by
    apply lst_inj
    rw [lst_ext, lst_app, List.take_of_length_le (by rw [List.length_append, lst_app, List.length_append, lst_len, lst_len, lst_len, hc]; omega), List.drop_append_of_le_length (by rw [lst_app, List.length_append, lst_len, lst_len, hc]; omega), List.drop_of_length_le (by rw [lst_app, List.length_append, lst_len, lst_len, hc]; omega)]
    rfl
  simp only [e1, e2]
theorem split_join_snoc : ∀ (n : Nat) (ys : List ByteArray) (y : ByteArray), ys.length = n → (∀ x ∈ ys ++ [y], ∀ k, byt x k ≠ 44) → splitB (joinB (ys ++ [y]) comma) comma = ys ++ [y]
  | 0, ys, y, hn, h => by
    obtain rfl := List.eq_nil_of_length_eq_zero hn
    rw [List.nil_append] at h ⊢
    rw [join_one, split_one (h y (by simp))]
  | n + 1, ys, y, hn, h => by
    have h0 : ys ≠ [] := by intro e; subst e; simp at hn
    obtain ⟨zs, z, rfl⟩ : ∃ zs z, ys = zs ++ [z] := ⟨ys.dropLast, ys.getLast h0, (List.dropLast_concat_getLast h0).symm⟩
    rw [join_snoc _ _ _ h0, split_snoc _ _ (h y (by simp)), split_join_snoc n zs z (by simpa using hn) (fun x hx => h x (List.mem_append_left _ hx))]
theorem split_join (xs : List ByteArray) (h : ∀ x ∈ xs, ∀ k, byt x k ≠ 44) (h0 : xs ≠ []) : splitB (joinB xs comma) comma = xs := by
  obtain ⟨ys, y, rfl⟩ : ∃ ys y, xs = ys ++ [y] := ⟨xs.dropLast, xs.getLast h0, (List.dropLast_concat_getLast h0).symm⟩
  exact split_join_snoc _ ys y rfl h

theorem parses_fmts {l : List Int} (h : ∀ n ∈ l, -100000 ≤ n ∧ n ≤ 100000) : parsesB (fmtsB l) = (l, true) := by
  by_cases h0 : l = []
  · subst h0; rw [fmts_nil, pars_dash]
  have hf : fmtsB l = joinB (l.map fmtB) comma := fmts_ok (List.length_pos_iff.2 h0) fun j hj e => by
    have := fmtB_some (h l[j] (List.getElem_mem hj)).1 (h l[j] (List.getElem_mem hj)).2
    rw [e] at this
    exact absurd this (by decide)
  have hparts : partsB (fmtsB l) = l.map fmtB := by
    rw [hf]
    exact split_join _ (fun x hx => by
      obtain ⟨n, hn, rfl⟩ := List.mem_map.1 hx
      exact (fmt_digits (h n hn).1 (h n hn).2).2.2.2) (by simpa using h0)
  have hne : fmtsB l ≠ ⟨#[45]⟩ := by
    intro e
    rw [e] at hparts
    have h1 : partsB (⟨#[45]⟩ : ByteArray) = [⟨#[45]⟩] := split_one (fun k => by
      by_cases hk : k = 0
      · subst hk; decide
      · rw [byt_out (by show 1 ≤ k; omega)]; omega)
    rw [h1] at hparts
    obtain ⟨n, rest, rfl⟩ : ∃ n rest, l = n :: rest := by cases l with
      | nil => exact absurd rfl h0
      | cons a b => exact ⟨a, b, rfl⟩
    simp only [List.map_cons, List.cons.injEq] at hparts
    have h3 := (fmt_digits (h n (by simp)).1 (h n (by simp)).2).2.2.1
    rw [← hparts.1] at h3
    exact absurd rfl (h3 rfl)
  rw [pars_ok hne (by
    rw [hparts]
    intro j hj
    have hj' : j < l.length := by simpa using hj
    rw [List.getElem_map, parse_fmt (h _ (List.getElem_mem hj')).1 (h _ (List.getElem_mem hj')).2]), hparts]
  congr 1
  rw [List.map_map]
  conv => rhs; rw [← List.map_id l]
  exact List.map_congr_left fun n hn => by
    show parN (fmtB n) = n
    unfold parN
    rw [parse_fmt (h n hn).1 (h n hn).2]
end Go.Proofs.YtlnbkhfjbpnbfaaDoor
