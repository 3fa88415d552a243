/- DERIVED. PLAIN LEMMAS: reducing a capacity changes it exactly in the interval. No contract. -/
import Derived.Test.YthcbndbfgpeokaaDoorStpMath
namespace Go.Proofs.YthcbndbfgpeokaaDoor

theorem foldl_all (t : Int) : ∀ (l : List Pr) (n : Int), (∀ p ∈ l, p.1 ≤ t) → l.foldl (fun n s => if s.1 ≤ t then s.2 else n) n = (endC (some n) l).getD 0
  | [], _, _ => rfl
  | p :: l, n, h => by
    rw [List.foldl_cons, if_pos (h p (by simp)), foldl_all t l p.2 (fun q hq => h q (by simp [hq])), endC_cons]
theorem endC_ne (v v' : Option Int) {l : List Pr} (h : l ≠ []) : endC v l = endC v' l := by
  cases l with
  | nil => exact absurd rfl h
  | cons p l => rw [endC_cons, endC_cons]
theorem atP_all {l : List Pr} {t : Int} (h : ∀ p ∈ l, p.1 ≤ t) (h0 : l ≠ []) : endC none l = some (atP l t) := by
  unfold atP
  rw [foldl_all t l 0 h]
  have hne : endC none l = endC (some 0) l := endC_ne _ _ h0
  rw [hne]
  cases l with
  | nil => exact absurd rfl h0
  | cons p l =>
    rw [endC_cons]
    unfold endC
    cases l.getLast? <;> rfl
/-- Merging changes no capacity at any time. -/
theorem atP_low (t : Int) : ∀ (n : Nat) (l : List Pr), l.length = n → l.Pairwise (fun p q => p.1 < q.1) → atP (lowP l) t = atP l t
  | 0, l, hn, _ => by
    obtain rfl := List.eq_nil_of_length_eq_zero hn
    rfl
  | n + 1, l, hn, hp => by
    have h0 : l ≠ [] := by intro e; subst e; simp at hn
    obtain ⟨m, p, rfl⟩ : ∃ m p, l = m ++ [p] := ⟨l.dropLast, l.getLast h0, (List.dropLast_concat_getLast h0).symm⟩
    have hm : m.length = n := by simpa using hn
    rw [List.pairwise_append] at hp
    have ih := atP_low t n m hm hp.1
    rw [lowP_snoc, atP_snoc]
    by_cases he : endC none m = some p.2
    · rw [if_pos he, List.append_nil, ih]
      by_cases ht : p.1 ≤ t
      · rw [if_pos ht]
        have hm0 : m ≠ [] := by intro e; subst e; cases he
        have := atP_all (l := m) (t := t) (fun q hq => by have := hp.2.2 q hq p (by simp); omega) hm0
        rw [he] at this
        exact (Option.some.inj this).symm
      · rw [if_neg ht]
    · rw [if_neg he, atP_snoc, ih]
theorem atP_tab (f : Int → Int) (t : Int) (h0 : 0 ≤ t) : ∀ k : Nat, t < k → atP (tabP f 0 k) t = f t
  | 0, h => by omega
  | k + 1, h => by
    rw [tabP_snoc, atP_snoc, Int.zero_add]
    by_cases e : (k : Int) ≤ t
    · rw [if_pos e, show (k : Int) = t from by omega]
    · rw [if_neg e]
      exact atP_tab f t h0 k (by omega)
theorem atP_red (xs : List Pr) (x y n t : Int) (h0 : 0 ≤ t) (h1 : t ≤ 60) : atP (redP xs x y n) t = lessT xs x y n t := by
  rw [redP, atP_low t 61 _ (tabP_len _ _ _) (tabP_asc _ _ _)]
  exact atP_tab _ t h0 61 (by omega)

/-- A kept time is the first, or one at which the capacity changes. -/
theorem keep_tab (f : Int → Int) : ∀ (n : Nat) (a : Int) (v : Option Int), ∀ p ∈ keepP v (tabP f a n), a ≤ p.1 ∧ (p.1 = a ∨ f p.1 ≠ f (p.1 - 1))
  | 0, _, _, p, hp => by simp [tabP, keepP] at hp
  | n + 1, a, v, p, hp => by
    rw [tabP, keepP] at hp
    have step : p ∈ keepP (some (f a)) (tabP f (a + 1) n) → a ≤ p.1 ∧ (p.1 = a ∨ f p.1 ≠ f (p.1 - 1)) := fun hq => by
      have ih := keep_tab f n (a + 1) (some (f a)) p hq
      refine ⟨by omega, .inr ?_⟩
      rcases ih.2 with e | e
      · cases n with
        | zero => simp [tabP, keepP] at hq
        | succ n =>
          rw [tabP, keepP] at hq
          intro he
          rw [e, show a + 1 - 1 = a from by omega] at he
          rw [he, if_pos rfl] at hq
          have hlo : ∀ q ∈ keepP (some (f a)) (tabP f (a + 1 + 1) n), a + 1 + 1 ≤ q.1 := fun q hq' => (tabP_mem.1 ((keepP_sub _ _).subset hq')).1
          have := hlo p hq
          omega
      · exact e
    split at hp
    · rename_i hv
      rw [hv] at hp
      exact step hp
    · rcases List.mem_cons.1 hp with rfl | hp
      · exact ⟨Int.le_refl _, .inl rfl⟩
      · exact step hp
theorem at_change {xs : List Pr} {t : Int} (h : ∀ p ∈ xs, p.1 ≠ t) : atP xs t = atP xs (t - 1) := by
  unfold atP
  generalize (0 : Int) = n
  induction xs generalizing n with
  | nil => rfl
  | cons p l ih =>
    have hp := h p (by simp)
    rw [List.foldl_cons, List.foldl_cons]
    rw [show (if p.1 ≤ t then p.2 else n) = (if p.1 ≤ t - 1 then p.2 else n) from by
      by_cases h1 : p.1 ≤ t
      · rw [if_pos h1, if_pos (by omega)]
      · rw [if_neg h1, if_neg (by omega)]]
    exact ih (fun q hq => h q (by simp [hq])) _
theorem less_change {xs : List Pr} {x y n t : Int} (h : ∀ p ∈ xs, p.1 ≠ t) (hx : t ≠ x) (hy : t ≠ y) : lessT xs x y n t = lessT xs x y n (t - 1) := by
  unfold lessT
  rw [at_change h]
  by_cases hc : x ≤ t ∧ t < y
  · rw [if_pos hc, if_pos (by omega)]
  · rw [if_neg hc, if_neg (by omega)]
/-- A list without repetition is no longer than one that holds all of it. -/
theorem nodup_le : ∀ (l m : List Int), l.Nodup → (∀ a ∈ l, a ∈ m) → l.length ≤ m.length
  | [], _, _, _ => Nat.zero_le _
  | a :: l, m, hn, h => by
    rw [List.nodup_cons] at hn
    have ha := h a (by simp)
    have := nodup_le l (m.erase a) hn.2 (fun b hb => by
      have hba : b ≠ a := fun e => hn.1 (e ▸ hb)
      exact (List.mem_erase_of_ne hba).2 (h b (by simp [hb])))
    rw [List.length_erase_of_mem ha] at this
    have hm : 0 < m.length := List.length_pos_of_mem ha
    simp; omega
theorem red_len {xs : List Pr} (h : okS xs) (x y n : Int) : (redP xs x y n).length ≤ xs.length + 2 := by
  have hnd : ((redP xs x y n).map (·.1)).Nodup := by
    have hp : (redP xs x y n).Pairwise (fun p q => p.1 < q.1) := (tabP_asc _ _ _).sublist (keepP_sub _ none)
    rw [List.Nodup, List.pairwise_map]
    exact hp.imp fun h => by omega
  have hsub : ∀ a ∈ (redP xs x y n).map (·.1), a ∈ x :: y :: xs.map (·.1) := by
    intro a ha
    obtain ⟨p, hp, rfl⟩ := List.mem_map.1 ha
    have hk := keep_tab (lessT xs x y n) 61 0 none p hp
    by_cases hx : p.1 = x
    · rw [hx]; simp
    by_cases hy : p.1 = y
    · rw [hy]; simp
    refine List.mem_cons_of_mem _ (List.mem_cons_of_mem _ ?_)
    rcases hk.2 with e | e
    · have h0 := h.2.2.1
      have h1 := h.1
      cases xs with
      | nil => simp at h1
      | cons q l => rw [e]; simp at h0; simp [h0]
    · by_cases hm : ∃ q ∈ xs, q.1 = p.1
      · obtain ⟨q, hq, e'⟩ := hm
        rw [← e']
        exact List.mem_map_of_mem hq
      · exact absurd (less_change (fun q hq e' => hm ⟨q, hq, e'⟩) hx hy) e
  have := nodup_le _ _ hnd hsub
  simpa using this

theorem min_attained (f : Int → Int) (x : Int) (hf : ∀ t, f t ≤ 20) : ∀ k : Nat, 0 < k → ∃ i : Nat, i < k ∧ foldT (fun n c => min n c) f 20 x k = f (x + i)
  | 0, h => by omega
  | 1, _ => ⟨0, by omega, by rw [foldT_succ]; simp [foldT, tabP]; have := hf x; omega⟩
  | k + 2, _ => by
    obtain ⟨i, hi, he⟩ := min_attained f x hf (k + 1) (by omega)
    rw [foldT_succ, he]
    by_cases h : f (x + i) ≤ f (x + ((k + 1 : Nat) : Int))
    · exact ⟨i, by omega, by omega⟩
    · exact ⟨k + 1, by omega, by omega⟩
theorem fold_min_le (f : Int → Int) (x : Int) : ∀ (k i : Nat), i < k → foldT (fun n c => min n c) f 20 x k ≤ f (x + i)
  | 0, _, h => by omega
  | k + 1, i, h => by
    rw [foldT_succ]
    by_cases e : i = k
    · subst e; omega
    · have := fold_min_le f x k i (by omega); omega
theorem fold_min_ge (f : Int → Int) (x : Int) (hf : ∀ t, 0 ≤ f t) : ∀ k : Nat, 0 ≤ foldT (fun n c => min n c) f 20 x k
  | 0 => by simp [foldT, tabP]
  | k + 1 => by rw [foldT_succ]; have := fold_min_ge f x hf k; have := hf (x + k); omega
theorem fold_sum_less (f g : Int → Int) (n : Int) (x : Int) : ∀ k : Nat, (∀ i : Nat, i < k → g (x + i) = f (x + i) - n) → foldT (fun n c => n + c) g 0 x k = foldT (fun n c => n + c) f 0 x k - n * k
  | 0, _ => by simp [foldT, tabP]
  | k + 1, h => by
    rw [foldT_succ, foldT_succ, fold_sum_less f g n x k (fun i hi => h i (by omega)), h k (by omega), Int.natCast_succ, Int.mul_add]
    omega
theorem fold_congr {β : Type} (op : β → Int → β) (f g : Int → Int) (b : β) (x : Int) (k : Nat) (h : ∀ i : Nat, i < k → f (x + i) = g (x + i)) : foldT op f b x k = foldT op g b x k := by
  unfold foldT
  rw [tabP_congr f g k x (fun t h1 h2 => by
    have := h (t - x).toNat (by omega)
    rwa [show x + ((t - x).toNat : Int) = t from by omega] at this)]

/-- All that the law asks of drawn steps. -/
theorem steps_law {xs : List Pr} (h : okS xs) (h3 : xs.length ≤ 3) {x y : Int} (hx0 : 0 ≤ x) (hx9 : x < 9) (hxy : x < y) (hy : y ≤ x + 5) :
    spanB xs x y = true ∧ 0 ≤ leastB xs x y ∧ leastB xs x y ≤ 20 ∧
    reduceB xs x y (leastB xs x y) = true ∧ reduceB xs x y (leastB xs x y + 1) = false ∧ okP (reducedB xs x y (leastB xs x y)) = true ∧
    totalB (reducedB xs x y (leastB xs x y)) x y = totalB xs x y - leastB xs x y * (y - x) ∧ leastB (reducedB xs x y (leastB xs x y)) x y = 0 ∧
    (∀ t, 0 ≤ t → t ≤ 60 → capB (reducedB xs x y (leastB xs x y)) t = if x ≤ t ∧ t < y then capB xs t - leastB xs x y else capB xs t) ∧
    ∀ t, 0 ≤ t → t ≤ 60 → capB (mergeB xs) t = capB xs t := by
  have hsp : spanB xs x y = true := spanB_iff.2 ⟨h, by omega, by omega⟩
  have hl : leastB xs x y = minT xs x y := by rw [leastB, hsp]; rfl
  obtain ⟨hm0, hm1⟩ := minT_range h x y
  have hk8 : (redP xs x y (minT xs x y)).length ≤ 8 := by have := red_len h x y (minT xs x y); omega
  have hok : okS (redP xs x y (minT xs x y)) := (red_okS h x y _ hm0 (Int.le_refl _)).2 hk8
  have hred : reduceB xs x y (minT xs x y) = true := by
    rw [reduceB, hsp, decide_eq_false (by omega), hl, inB_yes ⟨hm0, Int.le_refl _⟩, okP_iff.2 hok]; rfl
  have hrd : reducedB xs x y (minT xs x y) = redP xs x y (minT xs x y) := by rw [reducedB, hred]; rfl
  have hsp2 : spanB (redP xs x y (minT xs x y)) x y = true := spanB_iff.2 ⟨hok, by omega, by omega⟩
  have hat : ∀ i : Nat, i < (y - x).toNat → atP (redP xs x y (minT xs x y)) (x + i) = atP xs (x + i) - minT xs x y := fun i hi => by
    rw [atP_red _ _ _ _ _ (by omega) (by omega), lessT, if_pos (by omega)]
  have hcap : ∀ {zs : List Pr} {t : Int}, okS zs → 0 ≤ t → t ≤ 60 → capB zs t = atP zs t := fun hz h0 h1 => by
    rw [capB, okP_iff.2 hz, inB_yes ⟨h0, h1⟩]; rfl
  rw [hl, hrd]
  refine ⟨hsp, hm0, hm1, hred, ?_, okP_iff.2 hok, ?_, ?_, ?_, ?_⟩
  · rw [reduceB, hl, inB_no (n := minT xs x y + 1) (by omega)]; simp
  · rw [totalB, hsp2, totalB, hsp]
    show sumT _ x y = sumT xs x y - _
    unfold sumT
    rw [fold_sum_less (atP xs) _ (minT xs x y) x _ hat, show ((y - x).toNat : Int) = y - x from by omega]
  · rw [leastB, hsp2]
    show minT _ x y = 0
    obtain ⟨i, hi, he⟩ := min_attained (atP xs) x (fun t => (atP_range h t).2) (y - x).toNat (by omega)
    have h1 := fold_min_le (atP (redP xs x y (minT xs x y))) x (y - x).toNat i hi
    have h2 := fold_min_ge (atP (redP xs x y (minT xs x y))) x (fun t => (atP_range hok t).1) (y - x).toNat
    have h3 := hat i hi
    have h4 : minT xs x y = atP xs (x + i) := he
    unfold minT at *
    omega
  · intro t h0 h1
    rw [hcap hok h0 h1, hcap h h0 h1, atP_red _ _ _ _ _ h0 h1, lessT]
  · intro t h0 h1
    have hmg : mergeB xs = lowP xs := by rw [mergeB, okP_iff.2 h]; rfl
    have hi := okS_iff.1 h
    have hlow : okS (lowP xs) := (okS_low hi.1 hi.2.2.1 hi.2.2.2.1 hi.2.2.2.2).2 (Nat.le_trans (lowP_len xs) h.2.1)
    rw [hmg, hcap hlow h0 h1, hcap h h0 h1, atP_low t _ xs rfl hi.2.2.2.1]
end Go.Proofs.YthcbndbfgpeokaaDoor
