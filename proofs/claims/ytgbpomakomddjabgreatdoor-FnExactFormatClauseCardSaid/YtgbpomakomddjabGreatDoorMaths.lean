/- DERIVED. PLAIN MATHEMATICS: the preferred value of the chosen modes. No dump. -/
import Derived.WalkKit
import Derived.Test.YtgbpomakomddjabGreatDoorCore
import Derived.Lib.SlicesCompact

section
namespace Go.Proofs.YtgbpomakomddjabGreatDoor
open Go.RowKit

/-! ### names -/
def lowB (c : Int) : Bool := decide (97 ≤ c) && decide (c ≤ 122)
def digB (c : Int) : Bool := decide (48 ≤ c) && decide (c ≤ 57)
/-- May byte c stand at place k of a name? -/
def nmAt (k : Nat) (c : Int) : Bool := lowB c || (decide (0 < k) && digB c)
def nmB (s : ByteArray) : Bool := decide (1 ≤ s.size) && (decide (s.size ≤ 8) && decide (∀ k, (h : k < s.size) → nmAt k s[k].toNat = true))

theorem nmAt_low {k : Nat} {c : Int} (h : 97 ≤ c) (h2 : c ≤ 122) : nmAt k c = true := by simp [nmAt, lowB, h, h2]
theorem nmAt_dig {k : Nat} {c : Int} (h0 : 0 < k) (h : 48 ≤ c) (h2 : c ≤ 57) : nmAt k c = true := by simp [nmAt, digB, h, h2, h0]
theorem nmAt_zero {c : Int} (h : c < 97 ∨ 122 < c) : nmAt 0 c = false := by simp [nmAt, lowB]; omega
theorem nmAt_high {k : Nat} {c : Int} (h : 122 < c) : nmAt k c = false := by simp [nmAt, lowB, digB]; omega
theorem nmAt_mid {k : Nat} {c : Int} (h : 57 < c) (h2 : c < 97) : nmAt k c = false := by simp [nmAt, lowB, digB]; omega
theorem nmAt_less {k : Nat} {c : Int} (h : c < 48) : nmAt k c = false := by simp [nmAt, lowB, digB]; omega
theorem nmB_at {s : ByteArray} {k : Nat} (h : k < s.size) (hn : nmAt k s[k].toNat = false) : nmB s = false := by
  unfold nmB
  have : ¬ ∀ k, (h : k < s.size) → nmAt k s[k].toNat = true := fun f => by rw [f k h] at hn; cases hn
  simp [this]
theorem nmB_all {s : ByteArray} (h1 : 1 ≤ s.size) (h8 : s.size ≤ 8) (h : ∀ j, (hj : j < s.size) → nmAt j s[j].toNat = true) : nmB s = true := by
  unfold nmB; simp [h1, h8]; exact h
theorem nmB_len {s : ByteArray} (h : s.size < 1 ∨ 8 < s.size) : nmB s = false := by
  unfold nmB; rcases h with h | h <;> simp <;> omega
theorem nmB_size {s : ByteArray} (h : ∀ j, (hj : j < s.size) → nmAt j s[j].toNat = true) : nmB s = (decide ((1 : Int) ≤ s.size) && decide ((s.size : Int) ≤ 8)) := by
  unfold nmB
  have e1 : decide ((1 : Int) ≤ s.size) = decide (1 ≤ s.size) := by rw [decide_eq_decide]; omega
  have e2 : decide ((s.size : Int) ≤ 8) = decide (s.size ≤ 8) := by rw [decide_eq_decide]; omega
  rw [e1, e2, decide_eq_true h]; simp
end Go.Proofs.YtgbpomakomddjabGreatDoor
end

section
namespace Go.Proofs.YtgbpomakomddjabGreatDoor

abbrev Pr := Int × Int

/-- The j-th step is in order. -/
def goodP (xs : List Pr) (j : Nat) : Prop := 0 ≤ (xs.getD j (0, 0)).1 ∧ (xs.getD j (0, 0)).1 ≤ 60 ∧ 0 ≤ (xs.getD j (0, 0)).2 ∧ (xs.getD j (0, 0)).2 ≤ 20 ∧ (0 < j → (xs.getD (j - 1) (0, 0)).1 < (xs.getD j (0, 0)).1)
def okS (xs : List Pr) : Prop := 1 ≤ xs.length ∧ xs.length ≤ 8 ∧ (xs.getD 0 (0, 0)).1 = 0 ∧ ∀ j, j < xs.length → goodP xs j
open Classical in
noncomputable def okP (xs : List Pr) : Bool := decide (okS xs)
theorem okP_iff {xs : List Pr} : okP xs = true ↔ okS xs := by unfold okP; simp
theorem okP_no {xs : List Pr} (h : ¬ okS xs) : okP xs = false := by
  rcases hb : okP xs with _ | _
  · rfl
  · exact absurd (okP_iff.1 hb) h

/-- The capacity at t. -/
def atP (xs : List Pr) (t : Int) : Int := xs.foldl (fun n s => if s.1 ≤ t then s.2 else n) 0
theorem atP_snoc (xs : List Pr) (p : Pr) (t : Int) : atP (xs ++ [p]) t = if p.1 ≤ t then p.2 else atP xs t := by simp [atP]

/-- The parts of the steps in the interval from x up to y: (from, capacity), end. -/
def partsP : List Pr → Int → Int → List (Pr × Int)
  | [], _, _ => []
  | [p], x, y => if max p.1 x < y then [((max p.1 x, p.2), y)] else []
  | p :: q :: l, x, y => (if max p.1 x < min q.1 y then [((max p.1 x, p.2), min q.1 y)] else []) ++ partsP (q :: l) x y

/-- The i-th step's part. -/
def endP (xs : List Pr) (y : Int) (i : Nat) : Int := if i + 1 < xs.length then min (xs.getD (i + 1) (0, 0)).1 y else y
def partP (xs : List Pr) (x y : Int) (i : Nat) : List (Pr × Int) :=
  if max (xs.getD i (0, 0)).1 x < endP xs y i then [((max (xs.getD i (0, 0)).1 x, (xs.getD i (0, 0)).2), endP xs y i)] else []
theorem partP_cons (p q : Pr) (l : List Pr) (x y : Int) (i : Nat) : partP (p :: q :: l) x y (i + 1) = partP (q :: l) x y i := by
  simp [partP, endP]
theorem partsP_eq : ∀ (xs : List Pr) (x y : Int), partsP xs x y = (List.range xs.length).flatMap (partP xs x y)
  | [], _, _ => by simp [partsP]
  | [p], x, y => by simp [partsP, partP, endP]
  | p :: q :: l, x, y => by
    rw [partsP, partsP_eq (q :: l) x y]
    rw [show (p :: q :: l).length = (q :: l).length + 1 from rfl, List.range_succ_eq_map, List.flatMap_cons, List.flatMap_map]
    congr 1
    simp only [Nat.succ_eq_add_one, partP_cons]
def uptoP (xs : List Pr) (x y : Int) (k : Nat) : List (Pr × Int) := (List.range k).flatMap (partP xs x y)
theorem uptoP_succ (xs : List Pr) (x y : Int) (k : Nat) : uptoP xs x y (k + 1) = uptoP xs x y k ++ partP xs x y k := by simp [uptoP, List.range_succ]
theorem uptoP_full (xs : List Pr) (x y : Int) : uptoP xs x y xs.length = partsP xs x y := (partsP_eq xs x y).symm
theorem uptoP_prefix (xs : List Pr) (x y : Int) (k : Nat) (h : k ≤ xs.length) : uptoP xs x y k <+: partsP xs x y := by
  rw [← uptoP_full]
  obtain ⟨d, hd⟩ : ∃ d, xs.length = k + d := ⟨xs.length - k, by omega⟩
  unfold uptoP
  rw [hd, List.range_add, List.flatMap_append]
  exact List.prefix_append _ _

/-- The times a, a+1, .., a+n-1 with the capacity c. -/
def runP (a c : Int) : Nat → List Pr
  | 0 => []
  | n + 1 => (a, c) :: runP (a + 1) c n
def spreadP (l : List (Pr × Int)) : List Pr := l.flatMap fun q => runP q.1.1 q.1.2 (q.2 - q.1.1).toNat
/-- The times from x on, n of them, each with what f says. -/
def tabP (f : Int → Int) (x : Int) : Nat → List Pr
  | 0 => []
  | n + 1 => (x, f x) :: tabP f (x + 1) n
theorem runP_tab (f : Int → Int) (c : Int) : ∀ (n : Nat) (a : Int), (∀ t, a ≤ t → t < a + n → f t = c) → runP a c n = tabP f a n
  | 0, _, _ => rfl
  | n + 1, a, h => by
    rw [runP, tabP, h a (by omega) (by omega), runP_tab f c n (a + 1) (fun t h1 h2 => h t (by omega) (by omega))]
theorem tabP_add (f : Int → Int) : ∀ (n m : Nat) (x : Int), tabP f x (n + m) = tabP f x n ++ tabP f (x + n) m
  | 0, m, x => by simp [tabP]
  | n + 1, m, x => by
    rw [show n + 1 + m = (n + m) + 1 from by omega, tabP, tabP, tabP_add f n m (x + 1), show x + 1 + (n : Int) = x + ((n + 1 : Nat) : Int) from by omega]
    rfl
theorem tabP_congr (f g : Int → Int) : ∀ (n : Nat) (x : Int), (∀ t, x ≤ t → t < x + n → f t = g t) → tabP f x n = tabP g x n
  | 0, _, _ => rfl
  | n + 1, x, h => by rw [tabP, tabP, h x (by omega) (by omega), tabP_congr f g n (x + 1) (fun t h1 h2 => h t (by omega) (by omega))]

/-- In ascending steps what holds at t lies in the first step, before the second. -/
def ascS : List Pr → Prop
  | [] => True
  | [_] => True
  | p :: q :: l => p.1 < q.1 ∧ ascS (q :: l)
def atS : List Pr → Int → Int
  | [], _ => 0
  | [p], _ => p.2
  | p :: q :: l, t => if t < q.1 then p.2 else atS (q :: l) t
theorem foldl_late (t : Int) : ∀ (l : List Pr) (n : Int), (∀ p ∈ l, t < p.1) → l.foldl (fun n s => if s.1 ≤ t then s.2 else n) n = n
  | [], _, _ => rfl
  | p :: l, n, h => by
    rw [List.foldl_cons, if_neg (by have := h p (by simp); omega)]
    exact foldl_late t l n (fun q hq => h q (by simp [hq]))
theorem ascS_lt : ∀ {p : Pr} {l : List Pr}, ascS (p :: l) → ∀ q ∈ l, p.1 < q.1
  | _, [], _, _, h => by simp at h
  | p, r :: l, h, q, hq => by
    rcases List.mem_cons.1 hq with rfl | hq
    · exact h.1
    · have := ascS_lt h.2 q hq; have := h.1; omega
theorem foldl_atS (t : Int) : ∀ (l : List Pr) (p : Pr) (n : Int), ascS (p :: l) → p.1 ≤ t → (p :: l).foldl (fun n s => if s.1 ≤ t then s.2 else n) n = atS (p :: l) t
  | [], p, n, _, h => by simp [atS, h]
  | q :: l, p, n, ha, h => by
    rw [List.foldl_cons, if_pos h]
    by_cases hq : t < q.1
    · rw [atS, if_pos hq]
      exact foldl_late t _ _ (fun r hr => by
        rcases List.mem_cons.1 hr with rfl | hr
        · exact hq
        · have := ascS_lt ha.2 r hr; omega)
    · rw [atS, if_neg hq]
      exact foldl_atS t l q p.2 ha.2 (by omega)

theorem spread_parts : ∀ (l : List Pr) (p : Pr) (x y : Int), ascS (p :: l) → p.1 ≤ x → x ≤ y → spreadP (partsP (p :: l) x y) = tabP (atS (p :: l)) x (y - x).toNat
  | [], p, x, y, _, hp, hxy => by
    rw [partsP, show max p.1 x = x from by omega]
    split
    · simp only [spreadP, List.flatMap_cons, List.flatMap_nil, List.append_nil]
      exact runP_tab _ _ _ _ (fun t _ _ => rfl)
    · rw [show (y - x).toNat = 0 from by omega]; rfl
  | q :: l, p, x, y, ha, hp, hxy => by
    have hpq := ha.1
    rw [partsP, show max p.1 x = x from by omega]
    have happ : ∀ a b : List (Pr × Int), spreadP (a ++ b) = spreadP a ++ spreadP b := fun a b => by simp [spreadP]
    rw [happ]
    by_cases h1 : q.1 ≤ x
    · rw [if_neg (by omega), spread_parts l q x y ha.2 h1 hxy]
      simp only [spreadP, List.flatMap_nil, List.nil_append]
      exact tabP_congr _ _ _ _ (fun t h2 _ => by rw [show atS (p :: q :: l) t = if t < q.1 then p.2 else atS (q :: l) t from rfl, if_neg (by omega)])
    · by_cases h2 : y ≤ q.1
      · -- the whole interval lies in the first step
        have hnil : ∀ (m : List Pr) (r : Pr), y ≤ r.1 → ascS (r :: m) → partsP (r :: m) x y = [] := by
          intro m
          induction m with
          | nil => intro r hr _; rw [partsP, if_neg (by omega)]
          | cons s m ih => intro r hr hs; rw [partsP, if_neg (by omega), ih s (by have := hs.1; omega) hs.2]; rfl
        rw [hnil l q h2 ha.2]
        by_cases h3 : x < y
        · rw [if_pos (by omega), show min q.1 y = y from by omega]
          simp only [spreadP, List.flatMap_cons, List.flatMap_nil, List.append_nil]
          exact runP_tab _ _ _ _ (fun t _ h4 => by rw [show atS (p :: q :: l) t = if t < q.1 then p.2 else atS (q :: l) t from rfl, if_pos (by omega)])
        · rw [if_neg (by omega), show (y - x).toNat = 0 from by omega]; rfl
      · rw [if_pos (by omega), show min q.1 y = q.1 from by omega]
        have hx : partsP (q :: l) x y = partsP (q :: l) q.1 y := by
          cases l with
          | nil => rw [partsP, partsP, show max q.1 x = q.1 from by omega, show max q.1 q.1 = q.1 from by omega]
          | cons r m =>
            have hgo : ∀ (m : List Pr) (r : Pr), q.1 < r.1 → ascS (r :: m) → partsP (r :: m) x y = partsP (r :: m) q.1 y := by
              intro m
              induction m with
              | nil => intro r hr _; rw [partsP, partsP, show max r.1 x = r.1 from by omega, show max r.1 q.1 = r.1 from by omega]
              | cons s m ih => intro r hr hs; rw [partsP, partsP, show max r.1 x = r.1 from by omega, show max r.1 q.1 = r.1 from by omega, ih s (by have := hs.1; omega) hs.2]
            rw [partsP, partsP, show max q.1 x = q.1 from by omega, show max q.1 q.1 = q.1 from by omega, hgo m r ha.2.1 ha.2.2]
        rw [hx, spread_parts l q q.1 y ha.2 (by omega) (by omega)]
        rw [show (y - x).toNat = (q.1 - x).toNat + (y - q.1).toNat from by omega, tabP_add]
        simp only [spreadP, List.flatMap_cons, List.flatMap_nil, List.append_nil]
        congr 1
        · exact runP_tab _ _ _ _ (fun t _ h4 => by rw [show atS (p :: q :: l) t = if t < q.1 then p.2 else atS (q :: l) t from rfl, if_pos (by omega)])
        · rw [show x + ((q.1 - x).toNat : Int) = q.1 from by omega]
          exact tabP_congr _ _ _ _ (fun t h4 _ => by rw [show atS (p :: q :: l) t = if t < q.1 then p.2 else atS (q :: l) t from rfl, if_neg (by omega)])

theorem okS_asc {xs : List Pr} (h : ∀ j, j < xs.length → goodP xs j) : ascS xs := by
  induction xs with
  | nil => trivial
  | cons p l ih =>
    cases l with
    | nil => trivial
    | cons q l =>
      refine ⟨?_, ih fun j hj => ?_⟩
      · have := (h 1 (by simp)).2.2.2.2 (by omega)
        simpa using this
      · have g := h (j + 1) (by simp at hj ⊢; omega)
        unfold goodP at g ⊢
        refine ⟨by simpa using g.1, by simpa using g.2.1, by simpa using g.2.2.1, by simpa using g.2.2.2.1, fun hj0 => ?_⟩
        have := g.2.2.2.2 (by omega)
        obtain ⟨i, rfl⟩ : ∃ i, j = i + 1 := ⟨j - 1, by omega⟩
        simpa using this
/-- The parts of valid steps, spread out over the times, are the table of what holds at each time. -/
theorem spread_ok {xs : List Pr} (h : okS xs) (x y : Int) (hx : 0 ≤ x) (hxy : x ≤ y) : spreadP (partsP xs x y) = tabP (atP xs) x (y - x).toNat := by
  obtain ⟨h1, h8, h0, hg⟩ := h
  have ha := okS_asc hg
  cases xs with
  | nil => simp at h1
  | cons p l =>
    have hp : p.1 = 0 := by simpa using h0
    rw [spread_parts l p x y ha (by omega) hxy]
    exact tabP_congr _ _ _ _ (fun t h2 _ => by rw [atP, foldl_atS t l p 0 ha (by omega)])

/-- A fold over the spread-out parts that says nothing new at the same capacity is the fold over the parts. -/
theorem foldl_run {β : Type} (f : β → Int → β) (hf : ∀ n c, f (f n c) c = f n c) (c : Int) : ∀ (k : Nat) (a : Int) (n : β), 0 < k → (runP a c k).foldl (fun n s => f n s.2) n = f n c
  | 0, _, _, h => absurd h (by omega)
  | 1, _, _, _ => rfl
  | k + 2, a, n, _ => by
    rw [runP, List.foldl_cons, foldl_run f hf c (k + 1) (a + 1) _ (by omega)]
    exact hf n c
theorem foldl_spread {β : Type} (f : β → Int → β) (hf : ∀ n c, f (f n c) c = f n c) : ∀ (l : List (Pr × Int)) (n : β), (∀ q ∈ l, q.1.1 < q.2) → (spreadP l).foldl (fun n s => f n s.2) n = l.foldl (fun n q => f n q.1.2) n
  | [], _, _ => rfl
  | q :: l, n, h => by
    have hq := h q (by simp)
    rw [show spreadP (q :: l) = runP q.1.1 q.1.2 (q.2 - q.1.1).toNat ++ spreadP l from by simp [spreadP], List.foldl_append, foldl_run f hf _ _ _ _ (by omega), List.foldl_cons]
    exact foldl_spread f hf l _ (fun r hr => h r (by simp [hr]))
theorem partP_lt {xs : List Pr} {x y : Int} {i : Nat} : ∀ q ∈ partP xs x y i, q.1.1 < q.2 := by
  intro q hq
  unfold partP at hq
  split at hq
  · simp at hq; subst hq; assumption
  · simp at hq
theorem partsP_lt {xs : List Pr} {x y : Int} : ∀ q ∈ partsP xs x y, q.1.1 < q.2 := by
  intro q hq
  rw [partsP_eq, List.mem_flatMap] at hq
  obtain ⟨i, _, hq⟩ := hq
  exact partP_lt q hq

/-- The capacities at the times from x on, n of them, folded. -/
def foldT {β : Type} (g : β → Int → β) (f : Int → Int) (n : β) (x : Int) (k : Nat) : β := (tabP f x k).foldl (fun n s => g n s.2) n
theorem tabP_snoc (f : Int → Int) (x : Int) (k : Nat) : tabP f x (k + 1) = tabP f x k ++ [(x + k, f (x + k))] := by rw [tabP_add]; rfl
theorem foldT_succ {β : Type} (g : β → Int → β) (f : Int → Int) (n : β) (x : Int) (k : Nat) : foldT g f n x (k + 1) = g (foldT g f n x k) (f (x + k)) := by
  rw [foldT, foldT, tabP_snoc, List.foldl_append]; rfl

def lastP (l : List (Pr × Int)) : Int := l.foldl (fun _ q => q.1.2) 0
def leastP (l : List (Pr × Int)) : Int := l.foldl (fun n q => min n q.1.2) 20
def sumP (l : List (Pr × Int)) : Int := l.foldl (fun n q => n + (q.2 - q.1.1) * q.1.2) 0
theorem lastP_snoc (l : List (Pr × Int)) (q : Pr × Int) : lastP (l ++ [q]) = q.1.2 := by simp [lastP]
theorem leastP_snoc (l : List (Pr × Int)) (q : Pr × Int) : leastP (l ++ [q]) = min (leastP l) q.1.2 := by simp [leastP]
theorem sumP_snoc (l : List (Pr × Int)) (q : Pr × Int) : sumP (l ++ [q]) = sumP l + (q.2 - q.1.1) * q.1.2 := by simp [sumP]

def minT (xs : List Pr) (x y : Int) : Int := foldT (fun n c => min n c) (atP xs) 20 x (y - x).toNat
def sumT (xs : List Pr) (x y : Int) : Int := foldT (fun n c => n + c) (atP xs) 0 x (y - x).toNat

theorem last_ok {xs : List Pr} (h : okS xs) (t : Int) (ht : 0 ≤ t) : lastP (partsP xs t (t + 1)) = atP xs t := by
  have h1 := foldl_spread (fun (_ : Int) c => c) (fun _ _ => rfl) (partsP xs t (t + 1)) 0 partsP_lt
  rw [spread_ok h t (t + 1) ht (by omega), show (t + 1 - t).toNat = 1 from by omega] at h1
  exact h1.symm
theorem partsP_turned (xs : List Pr) (x y : Int) (h : y ≤ x) : partsP xs x y = [] := by
  rw [partsP_eq, List.flatMap_eq_nil_iff]
  intro i _
  unfold partP endP
  rw [if_neg]
  split <;> omega
theorem least_ok {xs : List Pr} (h : okS xs) (x y : Int) (hx : 0 ≤ x) : leastP (partsP xs x y) = minT xs x y := by
  by_cases hxy : x ≤ y
  · have h1 := foldl_spread (fun (n : Int) c => min n c) (fun n c => by omega) (partsP xs x y) 20 partsP_lt
    rw [spread_ok h x y hx hxy] at h1
    exact h1.symm
  · rw [partsP_turned xs x y (by omega), minT, show (y - x).toNat = 0 from by omega]; rfl
theorem sum_run (c : Int) : ∀ (k : Nat) (a n : Int), (runP a c k).foldl (fun n s => n + s.2) n = n + k * c
  | 0, _, _ => by simp [runP]
  | k + 1, a, n => by
    rw [runP, List.foldl_cons, sum_run c k (a + 1), Int.natCast_succ, Int.add_mul]
    omega
theorem sum_spread : ∀ (l : List (Pr × Int)) (n : Int), (∀ q ∈ l, q.1.1 < q.2) → (spreadP l).foldl (fun n s => n + s.2) n = l.foldl (fun n q => n + (q.2 - q.1.1) * q.1.2) n
  | [], _, _ => rfl
  | q :: l, n, h => by
    have hq := h q (by simp)
    rw [show spreadP (q :: l) = runP q.1.1 q.1.2 (q.2 - q.1.1).toNat ++ spreadP l from by simp [spreadP], List.foldl_append, sum_run, List.foldl_cons, show ((q.2 - q.1.1).toNat : Int) = q.2 - q.1.1 from by omega]
    exact sum_spread l _ (fun r hr => h r (by simp [hr]))
theorem sum_ok {xs : List Pr} (h : okS xs) (x y : Int) (hx : 0 ≤ x) : sumP (partsP xs x y) = sumT xs x y := by
  by_cases hxy : x ≤ y
  · have h1 := sum_spread (partsP xs x y) 0 partsP_lt
    rw [spread_ok h x y hx hxy] at h1
    exact h1.symm
  · rw [partsP_turned xs x y (by omega), sumT, show (y - x).toNat = 0 from by omega]; rfl

theorem atP_range {xs : List Pr} (h : okS xs) (t : Int) : 0 ≤ atP xs t ∧ atP xs t ≤ 20 := by
  have hall : ∀ p ∈ xs, 0 ≤ p.2 ∧ p.2 ≤ 20 := by
    intro p hp
    obtain ⟨j, hj, rfl⟩ := List.getElem_of_mem hp
    have := h.2.2.2 j hj
    unfold goodP at this
    simp only [List.getD, List.getElem?_eq_getElem hj, Option.getD_some] at this
    exact ⟨this.2.2.1, this.2.2.2.1⟩
  have hgen : ∀ (l : List Pr) (n : Int), (∀ p ∈ l, 0 ≤ p.2 ∧ p.2 ≤ 20) → 0 ≤ n ∧ n ≤ 20 → 0 ≤ l.foldl (fun n s => if s.1 ≤ t then s.2 else n) n ∧ l.foldl (fun n s => if s.1 ≤ t then s.2 else n) n ≤ 20 := by
    intro l
    induction l with
    | nil => intro n _ hn; exact hn
    | cons p l ih =>
      intro n hl hn
      rw [List.foldl_cons]
      refine ih _ (fun q hq => hl q (by simp [hq])) ?_
      split
      · exact hl p (by simp)
      · exact hn
  exact hgen xs 0 hall (by omega)

/-- The steps without those that repeat the capacity before them. -/
def keepP : Option Int → List Pr → List Pr
  | _, [] => []
  | v, p :: l => if v = some p.2 then keepP v l else p :: keepP (some p.2) l
def lowP (l : List Pr) : List Pr := keepP none l
/-- The capacity that stands last. -/
def endC (v : Option Int) (l : List Pr) : Option Int := match l.getLast? with | some q => some q.2 | none => v
theorem endC_cons (v : Option Int) (p : Pr) (l : List Pr) : endC v (p :: l) = endC (some p.2) l := by
  unfold endC
  cases l with
  | nil => rfl
  | cons q l => rw [List.getLast?_cons_cons]; simp [List.getLast?_cons]
theorem keepP_snoc (p : Pr) : ∀ (l : List Pr) (v : Option Int), keepP v (l ++ [p]) = keepP v l ++ if endC v l = some p.2 then [] else [p]
  | [], v => by by_cases h : v = some p.2 <;> simp [keepP, endC, h]
  | q :: l, v => by
    rw [endC_cons, List.cons_append, keepP, keepP]
    by_cases h : v = some q.2
    · rw [if_pos h, if_pos h, keepP_snoc p l v, h]
    · rw [if_neg h, if_neg h, keepP_snoc p l (some q.2)]; rfl
theorem keepP_end : ∀ (l : List Pr) (v : Option Int), endC v (keepP v l) = endC v l
  | [], _ => rfl
  | p :: l, v => by
    rw [endC_cons, keepP]
    by_cases h : v = some p.2
    · rw [if_pos h, keepP_end l v, h]
    · rw [if_neg h, endC_cons, keepP_end l (some p.2)]
theorem lowP_snoc (l : List Pr) (p : Pr) : lowP (l ++ [p]) = lowP l ++ if endC none l = some p.2 then [] else [p] := keepP_snoc p l none
theorem lowP_end (l : List Pr) : endC none (lowP l) = endC none l := keepP_end l none
theorem endC_snoc (l : List Pr) (p : Pr) (v : Option Int) : endC v (l ++ [p]) = some p.2 := by simp [endC]
theorem endC_take {l : List Pr} {k : Nat} (hk : 0 < k) (hl : k ≤ l.length) : endC none (l.take k) = some (l[k - 1]'(by omega)).2 := by
  obtain ⟨j, rfl⟩ : ∃ j, k = j + 1 := ⟨k - 1, by omega⟩
  rw [List.take_succ_eq_append_getElem (by omega), endC_snoc]; rfl
theorem endC_getD {l : List Pr} (h : 0 < l.length) : endC none l = some (l[l.length - 1]'(by omega)).2 := by
  have := endC_take (l := l) h (Nat.le_refl _)
  rwa [List.take_length] at this
theorem keepP_len : ∀ (l : List Pr) (v : Option Int), (keepP v l).length ≤ l.length
  | [], _ => Nat.le_refl _
  | p :: l, v => by
    rw [keepP]
    split
    · have := keepP_len l v; simp; omega
    · have := keepP_len l (some p.2); simp; omega
theorem lowP_len (l : List Pr) : (lowP l).length ≤ l.length := keepP_len l none
theorem keepP_sub : ∀ (l : List Pr) (v : Option Int), (keepP v l).Sublist l
  | [], _ => List.Sublist.refl _
  | p :: l, v => by
    rw [keepP]
    split
    · exact (keepP_sub l v).cons p
    · exact (keepP_sub l (some p.2)).cons_cons p
theorem lowP_nil {l : List Pr} : lowP l = [] ↔ l = [] := by
  cases l with
  | nil => simp [lowP, keepP]
  | cons p l => simp [lowP, keepP]

theorem keepP_run (c : Int) (r : List Pr) : ∀ (k : Nat) (a : Int), keepP (some c) (runP a c k ++ r) = keepP (some c) r
  | 0, _ => rfl
  | k + 1, a => by rw [runP, List.cons_append, keepP, if_pos rfl, keepP_run c r k]
theorem keepP_spread : ∀ (l : List (Pr × Int)) (v : Option Int), (∀ q ∈ l, q.1.1 < q.2) → keepP v (spreadP l) = keepP v (l.map (·.1))
  | [], _, _ => rfl
  | q :: l, v, h => by
    have hq := h q (by simp)
    have ih := keepP_spread l
    rw [show spreadP (q :: l) = runP q.1.1 q.1.2 (q.2 - q.1.1).toNat ++ spreadP l from by simp [spreadP]]
    obtain ⟨k, hk⟩ : ∃ k, (q.2 - q.1.1).toNat = k + 1 := ⟨(q.2 - q.1.1).toNat - 1, by omega⟩
    rw [hk, runP, List.cons_append, keepP, List.map_cons, keepP]
    by_cases hv : v = some q.1.2
    · rw [if_pos hv, if_pos hv, hv, keepP_run, ih _ (fun r hr => h r (by simp [hr]))]
    · rw [if_neg hv, if_neg hv, keepP_run, ih _ (fun r hr => h r (by simp [hr]))]

/-- What the steps with less capacity in the interval are, time by time. -/
def lessT (xs : List Pr) (x y n : Int) (t : Int) : Int := if x ≤ t ∧ t < y then atP xs t - n else atP xs t
def redP (xs : List Pr) (x y n : Int) : List Pr := lowP (tabP (lessT xs x y n) 0 61)
/-- The parts that the program joins. -/
def joinP (xs : List Pr) (x y n : Int) : List Pr := (partsP xs 0 x).map (·.1) ++ (partsP xs x y).map (fun q => (q.1.1, q.1.2 - n)) ++ (partsP xs y 61).map (·.1)
theorem runP_less (c n : Int) : ∀ (k : Nat) (a : Int), runP a (c - n) k = (runP a c k).map fun p => (p.1, p.2 - n)
  | 0, _ => rfl
  | k + 1, a => by rw [runP, runP, List.map_cons, runP_less c n k (a + 1)]
theorem tabP_less (f : Int → Int) (n : Int) : ∀ (k : Nat) (a : Int), (tabP f a k).map (fun p => (p.1, p.2 - n)) = tabP (fun t => f t - n) a k
  | 0, _ => rfl
  | k + 1, a => by rw [tabP, tabP, List.map_cons, tabP_less f n k (a + 1)]
theorem red_ok {xs : List Pr} (h : okS xs) (x y n : Int) (hx : 0 ≤ x) (hxy : x ≤ y) (hy : y ≤ 60) : lowP (joinP xs x y n) = redP xs x y n := by
  have e : joinP xs x y n = (partsP xs 0 x ++ (partsP xs x y).map (fun q => ((q.1.1, q.1.2 - n), q.2)) ++ partsP xs y 61).map (·.1) := by
    simp [joinP, Function.comp_def]
  have hlt : ∀ q ∈ partsP xs 0 x ++ (partsP xs x y).map (fun q => ((q.1.1, q.1.2 - n), q.2)) ++ partsP xs y 61, q.1.1 < q.2 := by
    intro q hq
    simp only [List.mem_append, List.mem_map] at hq
    rcases hq with (hq | ⟨r, hr, rfl⟩) | hq
    · exact partsP_lt q hq
    · exact partsP_lt r hr
    · exact partsP_lt q hq
  have happ : ∀ a b : List (Pr × Int), spreadP (a ++ b) = spreadP a ++ spreadP b := fun a b => by simp [spreadP]
  have hmap : ∀ l : List (Pr × Int), spreadP (l.map (fun q => ((q.1.1, q.1.2 - n), q.2))) = (spreadP l).map fun p => (p.1, p.2 - n) := by
    intro l
    induction l with
    | nil => rfl
    | cons q l ih =>
      rw [List.map_cons, show ∀ (q : Pr × Int) (l : List (Pr × Int)), spreadP (q :: l) = runP q.1.1 q.1.2 (q.2 - q.1.1).toNat ++ spreadP l from fun q l => by simp [spreadP],
        show spreadP (q :: l) = runP q.1.1 q.1.2 (q.2 - q.1.1).toNat ++ spreadP l from by simp [spreadP], List.map_append, ih, runP_less]
  rw [e, lowP, ← keepP_spread _ none hlt, happ, happ, hmap, spread_ok h 0 x (by omega) hx, spread_ok h x y hx hxy, spread_ok h y 61 (by omega) (by omega), tabP_less]
  rw [redP, lowP]
  congr 1
  have e1 : tabP (lessT xs x y n) 0 61 = tabP (lessT xs x y n) 0 ((x - 0).toNat + ((y - x).toNat + (61 - y).toNat)) := by congr 1; omega
  rw [e1, tabP_add, tabP_add, show (0 : Int) + ((x - 0).toNat : Int) = x from by omega, show x + ((y - x).toNat : Int) = y from by omega, List.append_assoc]
  congr 1
  · exact tabP_congr _ _ _ _ fun t h1 h2 => by rw [lessT, if_neg (by omega)]
  · congr 1
    · exact tabP_congr _ _ _ _ fun t h1 h2 => by rw [lessT, if_pos (by omega)]
    · exact tabP_congr _ _ _ _ fun t h1 h2 => by rw [lessT, if_neg (by omega)]

/-- Valid steps, said by elements. -/
theorem okS_iff {xs : List Pr} : okS xs ↔ 1 ≤ xs.length ∧ xs.length ≤ 8 ∧ (xs.getD 0 (0, 0)).1 = 0 ∧ xs.Pairwise (fun p q => p.1 < q.1) ∧ ∀ p ∈ xs, 0 ≤ p.1 ∧ p.1 ≤ 60 ∧ 0 ≤ p.2 ∧ p.2 ≤ 20 := by
  constructor
  · rintro ⟨h1, h8, h0, hg⟩
    refine ⟨h1, h8, h0, ?_, ?_⟩
    · have ha := okS_asc hg
      clear hg h0 h8 h1
      induction xs with
      | nil => exact List.Pairwise.nil
      | cons p l ih =>
        refine List.Pairwise.cons (fun q hq => ascS_lt ha q hq) (ih ?_)
        cases l with
        | nil => trivial
        | cons q l => exact ha.2
    · intro p hp
      obtain ⟨j, hj, rfl⟩ := List.getElem_of_mem hp
      have := hg j hj
      unfold goodP at this
      simp only [List.getD, List.getElem?_eq_getElem hj, Option.getD_some] at this
      exact ⟨this.1, this.2.1, this.2.2.1, this.2.2.2.1⟩
  · rintro ⟨h1, h8, h0, hp, hr⟩
    refine ⟨h1, h8, h0, fun j hj => ?_⟩
    have hm := hr _ (List.getElem_mem hj)
    unfold goodP
    simp only [List.getD, List.getElem?_eq_getElem hj, Option.getD_some]
    refine ⟨hm.1, hm.2.1, hm.2.2.1, hm.2.2.2, fun h => ?_⟩
    rw [List.getElem?_eq_getElem (show j - 1 < xs.length by omega), Option.getD_some]
    exact (List.pairwise_iff_getElem.1 hp) (j - 1) j (by omega) hj (by omega)
theorem lowP_head (p : Pr) (l : List Pr) : ∃ m, lowP (p :: l) = p :: m := ⟨_, by rw [lowP, keepP, if_neg (by simp)]⟩
/-- Merged steps are valid where they are not too many. -/
theorem okS_low {xs : List Pr} (h1 : 1 ≤ xs.length) (h0 : (xs.getD 0 (0, 0)).1 = 0) (hp : xs.Pairwise (fun p q => p.1 < q.1)) (hr : ∀ p ∈ xs, 0 ≤ p.1 ∧ p.1 ≤ 60 ∧ 0 ≤ p.2 ∧ p.2 ≤ 20) : okS (lowP xs) ↔ (lowP xs).length ≤ 8 := by
  constructor
  · intro h; exact h.2.1
  · intro h8
    cases xs with
    | nil => simp at h1
    | cons p l =>
      obtain ⟨m, hm⟩ := lowP_head p l
      have hsub : (lowP (p :: l)).Sublist (p :: l) := keepP_sub _ none
      rw [okS_iff]
      exact ⟨by rw [hm]; simp, h8, by rw [hm]; simpa using h0, hp.sublist hsub, fun q hq => hr q (hsub.subset hq)⟩
theorem tabP_len (f : Int → Int) : ∀ (n : Nat) (x : Int), (tabP f x n).length = n
  | 0, _ => rfl
  | n + 1, x => by rw [tabP, List.length_cons, tabP_len f n]
theorem tabP_mem {f : Int → Int} {p : Pr} : ∀ {n : Nat} {x : Int}, p ∈ tabP f x n ↔ x ≤ p.1 ∧ p.1 < x + n ∧ p.2 = f p.1
  | 0, x => by simp [tabP]; omega
  | n + 1, x => by
    rw [tabP, List.mem_cons, tabP_mem]
    constructor
    · rintro (rfl | ⟨h1, h2, h3⟩)
      · exact ⟨Int.le_refl _, by show x < _; omega, rfl⟩
      · exact ⟨by omega, by omega, h3⟩
    · rintro ⟨h1, h2, h3⟩
      by_cases e : p.1 = x
      · left; rw [← e, ← h3]
      · right; exact ⟨by omega, by omega, h3⟩
theorem tabP_asc (f : Int → Int) : ∀ (n : Nat) (x : Int), (tabP f x n).Pairwise (fun p q => p.1 < q.1)
  | 0, _ => List.Pairwise.nil
  | n + 1, x => List.Pairwise.cons (fun q hq => by have := (tabP_mem.1 hq).1; show x < q.1; omega) (tabP_asc f n (x + 1))
theorem minT_le {xs : List Pr} {x y t : Int} (h1 : x ≤ t) (h2 : t < y) : minT xs x y ≤ atP xs t := by
  have hgen : ∀ (k : Nat), (t - x).toNat < k → foldT (fun n c => min n c) (atP xs) 20 x k ≤ atP xs t := by
    intro k
    induction k with
    | zero => intro h; omega
    | succ k ih =>
      intro h
      rw [foldT_succ]
      by_cases e : (t - x).toNat = k
      · rw [show x + (k : Int) = t from by omega]; omega
      · have := ih (by omega); omega
  exact hgen _ (by omega)
theorem minT_range {xs : List Pr} (h : okS xs) (x y : Int) : 0 ≤ minT xs x y ∧ minT xs x y ≤ 20 := by
  unfold minT
  generalize (y - x).toNat = k
  induction k with
  | zero => exact ⟨by simp [foldT, tabP], by simp [foldT, tabP]⟩
  | succ k ih => rw [foldT_succ]; have := atP_range h (x + k); omega
theorem red_okS {xs : List Pr} (h : okS xs) (x y n : Int) (hn : 0 ≤ n) (hm : n ≤ minT xs x y) : okS (redP xs x y n) ↔ (redP xs x y n).length ≤ 8 := by
  refine okS_low (by rw [tabP_len]; omega) (by simp [tabP]) (tabP_asc _ _ _) fun p hp => ?_
  obtain ⟨h1, h2, h3⟩ := tabP_mem.1 hp
  have hr := atP_range h p.1
  refine ⟨h1, by omega, ?_⟩
  rw [h3, lessT]
  split
  · rename_i hc
    have := minT_le (xs := xs) hc.1 hc.2
    omega
  · omega

theorem sumT_range {xs : List Pr} (h : okS xs) (x : Int) (k : Nat) : 0 ≤ foldT (fun n c => n + c) (atP xs) 0 x k ∧ foldT (fun n c => n + c) (atP xs) 0 x k ≤ 20 * k := by
  induction k with
  | zero => exact ⟨by simp [foldT, tabP], by simp [foldT, tabP]⟩
  | succ k ih => rw [foldT_succ]; have := atP_range h (x + k); omega
theorem minK_range {xs : List Pr} (h : okS xs) (x : Int) (k : Nat) : 0 ≤ foldT (fun n c => min n c) (atP xs) 20 x k ∧ foldT (fun n c => min n c) (atP xs) 20 x k ≤ 20 := by
  induction k with
  | zero => exact ⟨by simp [foldT, tabP], by simp [foldT, tabP]⟩
  | succ k ih => rw [foldT_succ]; have := atP_range h (x + k); omega

def inB (n lo hi : Int) : Bool := decide (lo ≤ n) && decide (n ≤ hi)
theorem inB_iff {n lo hi : Int} : inB n lo hi = true ↔ lo ≤ n ∧ n ≤ hi := by simp [inB]
theorem inB_yes {n lo hi : Int} (h : lo ≤ n ∧ n ≤ hi) : inB n lo hi = true := by simp [inB, h.1, h.2]
theorem inB_no {n lo hi : Int} (h : ¬ (lo ≤ n ∧ n ≤ hi)) : inB n lo hi = false := by simp [inB]; omega
noncomputable def spanB (xs : List Pr) (x y : Int) : Bool := okP xs && inB x 0 60 && inB y 0 60
noncomputable def capB (xs : List Pr) (t : Int) : Int := if okP xs && inB t 0 60 then atP xs t else 0
noncomputable def leastB (xs : List Pr) (x y : Int) : Int := if spanB xs x y then minT xs x y else 0
noncomputable def totalB (xs : List Pr) (x y : Int) : Int := if spanB xs x y then sumT xs x y else 0
theorem spanB_iff {xs : List Pr} {x y : Int} : spanB xs x y = true ↔ okS xs ∧ (0 ≤ x ∧ x ≤ 60) ∧ (0 ≤ y ∧ y ≤ 60) := by
  simp [spanB, Bool.and_eq_true, okP_iff, inB_iff, and_assoc]
noncomputable def mergeB (xs : List Pr) : List Pr := if okP xs then lowP xs else []
theorem len_mergeB (xs : List Pr) : (mergeB xs).length ≤ xs.length := by
  unfold mergeB
  split
  · exact lowP_len xs
  · simp
/-- What is left of the capacity, and whether it could be taken. -/
noncomputable def reduceB (xs : List Pr) (x y n : Int) : Bool := spanB xs x y && !decide (y ≤ x) && inB n 0 (leastB xs x y) && okP (redP xs x y n)
noncomputable def reducedB (xs : List Pr) (x y n : Int) : List Pr := if reduceB xs x y n then redP xs x y n else []
theorem len_reducedB (xs : List Pr) (x y n : Int) : (reducedB xs x y n).length ≤ 61 := by
  unfold reducedB
  split
  · have := lowP_len (tabP (lessT xs x y n) 0 61)
    rw [tabP_len] at this
    exact this
  · simp
end Go.Proofs.YtgbpomakomddjabGreatDoor
end

section
namespace Go.Proofs.YtgbpomakomddjabGreatDoor
open Go.RowKit

/-- All amounts from 0 to 20, n of them. -/
def numsB (l : List Int) (n : Int) : Bool := l.all (fun x => inB x 0 20) && decide ((l.length : Int) = n)
theorem nums_no {l : List Int} {k : Nat} (hk : k < l.length) (h : inB l[k] 0 20 = false) (n : Int) : numsB l n = false := by
  unfold numsB
  rw [Bool.and_eq_false_iff]
  left
  rw [List.all_eq_false]
  exact ⟨l[k], List.getElem_mem hk, by simp [h]⟩
theorem nums_yes {l : List Int} (h : ∀ j, (hj : j < l.length) → inB l[j] 0 20 = true) (n : Int) : numsB l n = decide ((l.length : Int) = n) := by
  unfold numsB
  rw [List.all_eq_true.2 (fun x hx => by obtain ⟨j, hj, rfl⟩ := List.mem_iff_getElem.1 hx; exact h j hj), Bool.true_and]
end Go.Proofs.YtgbpomakomddjabGreatDoor
end

section
namespace Go.Proofs.YtgbpomakomddjabGreatDoor
open Go.Lib

theorem asc_eq : ∀ {a b : List Int}, a.Pairwise (· < ·) → b.Pairwise (· < ·) → (∀ x, x ∈ a ↔ x ∈ b) → a = b
  | [], [], _, _, _ => rfl
  | [], y :: b, _, _, h => absurd ((h y).2 (by simp)) (by simp)
  | x :: a, [], _, _, h => absurd ((h x).1 (by simp)) (by simp)
  | x :: a, y :: b, ha, hb, h => by
    have ha1 := List.pairwise_cons.1 ha
    have hb1 := List.pairwise_cons.1 hb
    have hxy : x = y := by
      have h1 := (h x).1 (by simp)
      have h2 := (h y).2 (by simp)
      rcases List.mem_cons.1 h1 with e | e
      · exact e
      rcases List.mem_cons.1 h2 with e2 | e2
      · exact e2.symm
      have := hb1.1 x e
      have := ha1.1 y e2
      omega
    subst hxy
    congr 1
    refine asc_eq ha1.2 hb1.2 fun z => ?_
    have hz := h z
    simp only [List.mem_cons] at hz
    constructor
    · intro hm
      rcases hz.1 (.inr hm) with e | e
      · subst e; exact absurd (ha1.1 _ hm) (by omega)
      · exact e
    · intro hm
      rcases hz.2 (.inr hm) with e | e
      · subst e; exact absurd (hb1.1 _ hm) (by omega)
      · exact e

/-- The place where n goes: how many elements from the head on are less. -/
def kB : List Int → Int → Nat
  | [], _ => 0
  | x :: l, n => if x < n then kB l n + 1 else 0
theorem kB_le : ∀ (l : List Int) (n : Int), kB l n ≤ l.length
  | [], _ => by simp [kB]
  | x :: l, n => by
    have := kB_le l n
    unfold kB; split <;> simp <;> omega
theorem kB_eq : ∀ (l : List Int) (n : Int) (j : Nat), j ≤ l.length → (∀ i, (h : i < l.length) → i < j → l[i] < n) → (∀ h : j < l.length, ¬ l[j] < n) → kB l n = j
  | [], _, j, hj, _, _ => by simp at hj; simp [kB, hj]
  | x :: l, n, 0, _, _, h2 => by
    have : ¬ x < n := h2 (by simp)
    simp [kB, this]
  | x :: l, n, j + 1, hj, h1, h2 => by
    have hx : x < n := h1 0 (by simp) (by omega)
    have := kB_eq l n j (Nat.le_of_succ_le_succ hj) (fun i hi hij => h1 (i + 1) (Nat.succ_lt_succ hi) (by omega)) (fun h => h2 (Nat.succ_lt_succ h))
    simp [kB, hx, this]
theorem kB_take : ∀ (l : List Int) (n x : Int), x ∈ l.take (kB l n) → x < n
  | [], _, _, h => by simp at h
  | y :: l, n, x, h => by
    unfold kB at h
    split at h
    · rename_i hy
      simp only [List.take_succ_cons, List.mem_cons] at h
      rcases h with e | e
      · omega
      · exact kB_take l n x e
    · simp at h
theorem kB_drop : ∀ (l : List Int) (n x : Int), l.Pairwise (· < ·) → x ∈ l.drop (kB l n) → n ≤ x
  | [], _, _, _, h => by simp at h
  | y :: l, n, x, hp, h => by
    have hp1 := List.pairwise_cons.1 hp
    unfold kB at h
    split at h
    · simp only [List.drop_succ_cons] at h
      exact kB_drop l n x hp1.2 h
    · rename_i hy
      simp only [List.drop_zero, List.mem_cons] at h
      rcases h with e | e
      · omega
      · have := hp1.1 x e; omega

def putB (l : List Int) (n : Int) : List Int := if l.contains n then l else l.take (kB l n) ++ [n] ++ l.drop (kB l n)
def setB (l : List Int) : List Int := l.foldl putB []

theorem mem_putB (l : List Int) (n x : Int) : x ∈ putB l n ↔ x ∈ l ∨ x = n := by
  unfold putB
  split
  · rename_i h
    have h' : n ∈ l := by simpa using h
    constructor
    · exact .inl
    · rintro (h | rfl)
      · exact h
      · exact h'
  · rw [List.mem_append, List.mem_append, List.mem_singleton]
    conv => rhs; rw [← List.take_append_drop (kB l n) l, List.mem_append]
    constructor
    · rintro ((h | h) | h)
      · exact .inl (.inl h)
      · exact .inr h
      · exact .inl (.inr h)
    · rintro ((h | h) | h)
      · exact .inl (.inl h)
      · exact .inr h
      · exact .inl (.inr h)

theorem asc_putB {l : List Int} (h : l.Pairwise (· < ·)) (n : Int) : (putB l n).Pairwise (· < ·) := by
  unfold putB
  split
  · exact h
  · rename_i hn
    have hn' : n ∉ l := by simpa using hn
    rw [List.append_assoc, List.pairwise_append]
    refine ⟨h.sublist (List.take_sublist _ _), ?_, ?_⟩
    · rw [List.singleton_append, List.pairwise_cons]
      refine ⟨fun x hx => ?_, h.sublist (List.drop_sublist _ _)⟩
      have h1 := kB_drop l n x h hx
      have h2 : x ≠ n := fun e => hn' (e ▸ List.mem_of_mem_drop hx)
      omega
    · intro x hx y hy
      have h1 := kB_take l n x hx
      rw [List.singleton_append, List.mem_cons] at hy
      rcases hy with rfl | hy
      · exact h1
      · have := kB_drop l n y h hy
        omega

theorem setB_snoc (l : List Int) (n : Int) : setB (l ++ [n]) = putB (setB l) n := by simp [setB]
theorem foldl_put (l : List Int) : ∀ (acc : List Int), acc.Pairwise (· < ·) → (l.foldl putB acc).Pairwise (· < ·) ∧ ∀ x, x ∈ l.foldl putB acc ↔ x ∈ acc ∨ x ∈ l := by
  induction l with
  | nil => intro acc h; exact ⟨h, fun x => by simp⟩
  | cons n l ih =>
    intro acc h
    obtain ⟨h1, h2⟩ := ih (putB acc n) (asc_putB h n)
    refine ⟨h1, fun x => ?_⟩
    rw [List.foldl_cons, h2 x, mem_putB, List.mem_cons, or_assoc]
theorem asc_setB (l : List Int) : (setB l).Pairwise (· < ·) := (foldl_put l [] .nil).1
theorem mem_setB (l : List Int) (x : Int) : x ∈ setB l ↔ x ∈ l := by
  have := (foldl_put l [] .nil).2 x
  unfold setB
  simpa only [List.not_mem_nil, false_or] using this
theorem len_put (l : List Int) (n : Int) : (putB l n).length ≤ l.length + 1 := by
  unfold putB; split
  · omega
  · have := kB_le l n
    simp; omega
theorem len_foldl (l : List Int) : ∀ acc, (l.foldl putB acc).length ≤ acc.length + l.length := by
  induction l with
  | nil => intro acc; simp
  | cons n l ih => intro acc; have := ih (putB acc n); have := len_put acc n; simp; omega
theorem len_setB (l : List Int) : (setB l).length ≤ l.length := by
  have := len_foldl l []
  unfold setB
  simpa only [List.length_nil, Nat.zero_add] using this
theorem setB_nil : setB [] = [] := rfl

/-! ### what the library's sort and compact leave -/
theorem compact_mem (d : Array Int) (m : Nat) (x : Int) : x ∈ compactUpTo d m ↔ ∃ j, j < m ∧ d[j]! = x := by
  induction m with
  | zero => simp [compactUpTo]
  | succ m ih =>
    rw [compactUpTo_succ, List.mem_append, ih]
    by_cases h : keeps d m = true
    · rw [if_pos h, List.mem_singleton]
      constructor
      · rintro (⟨j, h1, h2⟩ | h)
        · exact ⟨j, by omega, h2⟩
        · exact ⟨m, by omega, h.symm⟩
      · rintro ⟨j, h1, h2⟩
        by_cases hj : j = m
        · subst hj; exact .inr h2.symm
        · exact .inl ⟨j, by omega, h2⟩
    · rw [if_neg h]
      have hk : m ≠ 0 ∧ d[m]! = d[m - 1]! := by
        unfold keeps at h
        simpa using h
      constructor
      · rintro (⟨j, h1, h2⟩ | h)
        · exact ⟨j, by omega, h2⟩
        · cases h
      · rintro ⟨j, h1, h2⟩
        by_cases hj : j = m
        · subst hj; exact .inl ⟨j - 1, by omega, hk.2.symm.trans h2⟩
        · exact .inl ⟨j, by omega, h2⟩
theorem compact_asc (d : Array Int) (hs : ∀ i j, i ≤ j → j < d.size → d[i]! ≤ d[j]!) : ∀ m, m ≤ d.size → (compactUpTo d m).Pairwise (· < ·) := by
  intro m
  induction m with
  | zero => intro _; simp [compactUpTo]
  | succ m ih =>
    intro hm
    rw [compactUpTo_succ]
    by_cases h : keeps d m = true
    · rw [if_pos h, List.pairwise_append]
      refine ⟨ih (by omega), by simp, fun x hx y hy => ?_⟩
      rw [List.mem_singleton] at hy
      subst hy
      obtain ⟨j, hj, rfl⟩ := (compact_mem d m x).1 hx
      have hk : m = 0 ∨ d[m]! ≠ d[m - 1]! := by unfold keeps at h; exact of_decide_eq_true h
      rcases hk with hk | hk
      · omega
      · have h1 := hs j (m - 1) (by omega) (by omega)
        have h2 := hs (m - 1) m (by omega) (by omega)
        omega
    · rw [if_neg h, List.append_nil]; exact ih (by omega)

def sortB (l : List Int) : List Int := compact (l.mergeSort fun x y => decide (x ≤ y))
theorem sortB_eq (l : List Int) : sortB l = setB l := by
  have hs : (l.mergeSort fun x y => decide (x ≤ y)).Pairwise (· ≤ ·) := by
    have := List.pairwise_mergeSort (le := fun (x y : Int) => decide (x ≤ y)) (fun a b c h1 h2 => by simp at *; omega) (fun _ _ => by simp; omega) l
    exact this.imp (fun h => by simpa using h)
  have hm : ∀ x, x ∈ (l.mergeSort fun x y => decide (x ≤ y)) ↔ x ∈ l := fun x => (List.mergeSort_perm l _).mem_iff
  unfold sortB
  generalize (l.mergeSort fun x y => decide (x ≤ y)) = s at hs hm
  refine asc_eq (compact_asc s.toArray ?_ _ (by simp)) (asc_setB l) fun x => ?_
  · intro i j hij hj
    have hj' : j < s.length := by simpa using hj
    rcases Nat.eq_or_lt_of_le hij with rfl | h
    · exact Int.le_refl _
    · have := List.pairwise_iff_getElem.1 hs i j (by omega) hj' h
      simpa [hj', show i < s.length by omega] using this
  · rw [mem_setB, ← hm, compact, compact_mem]
    constructor
    · rintro ⟨j, hj, rfl⟩
      simp only [List.getElem!_toArray, getElem!_pos s j hj]
      exact List.getElem_mem hj
    · intro hx
      obtain ⟨j, hj, rfl⟩ := List.getElem_of_mem hx
      exact ⟨j, hj, by simp [hj]⟩
theorem sortB_len (l : List Int) : (sortB l).length ≤ l.length := by rw [sortB_eq]; exact len_setB l

/-! ### the operations -/
theorem set_add (l : List Int) (n : Int) : setB (l ++ [n]) = putB (setB l) n := setB_snoc l n
theorem set_pick (a : List Int) (p : Int → Bool) : (setB a).filter p = setB (a.filter p) :=
  asc_eq ((asc_setB a).sublist List.filter_sublist) (asc_setB _) fun x => by simp [mem_setB]
theorem contains_setB (l : List Int) (x : Int) : (setB l).contains x = l.contains x := by
  rw [Bool.eq_iff_iff]; simp [mem_setB]
def interB (a b : List Int) : List Int := setB (a.filter fun x => b.contains x)
def diffB (a b : List Int) : List Int := setB (a.filter fun x => !b.contains x)
theorem inter_eq (a b : List Int) : (setB a).filter (fun x => (setB b).contains x) = interB a b := by
  unfold interB
  rw [← set_pick a]
  simp only [contains_setB]
theorem diff_eq (a b : List Int) : (setB a).filter (fun x => !(setB b).contains x) = diffB a b := by
  unfold diffB
  rw [← set_pick a]
  simp only [contains_setB]
/-- Is x among the elements? -/
def hasB (l : List Int) (x : Int) : Bool := l.contains x
def eqB (a b : List Int) : Bool := decide (a = b)
def subB (a b : List Int) : Bool := a.all fun x => b.contains x
theorem sub_eq (a b : List Int) : subB a b = ((diffB a b).length == 0) := by
  unfold subB diffB
  rw [Bool.eq_iff_iff, beq_iff_eq, List.length_eq_zero_iff]
  simp only [List.all_eq_true, List.eq_nil_iff_forall_not_mem, mem_setB, List.mem_filter]
  simp
/-- Strictly ascending, as a test. -/
def ascB (l : List Int) : Bool := decide (∀ j, (h : j < l.length) → 0 < j → l[j - 1] < l[j])
theorem ascB_iff {l : List Int} : ascB l = true ↔ ∀ j, (h : j < l.length) → 0 < j → l[j - 1] < l[j] := by simp [ascB]
theorem ascB_of {l : List Int} (h : l.Pairwise (· < ·)) : ascB l = true :=
  ascB_iff.2 fun j hj h0 => List.pairwise_iff_getElem.1 h (j - 1) j (by omega) hj (by omega)
theorem ascB_bad {l : List Int} {j : Nat} (h : j < l.length) (h0 : 0 < j) (hb : l[j] ≤ l[j - 1]) : ascB l = false := by
  rcases e : ascB l with _ | _
  · rfl
  · have := ascB_iff.1 e j h h0; omega
def clampB (x : Int) : Int := min (max x (-100000)) 100000
end Go.Proofs.YtgbpomakomddjabGreatDoor
end

section
namespace Go.Proofs.YtgbpomakomddjabGreatDoor
open Go.RowKit

/-- n is a value of P to which none is preferred; 0 where there is none. -/
def IsBest (pref : Int → Int → Bool) (P : Int → Prop) (f : Bool) (n : Int) : Prop :=
  (f = false ∧ n = 0 ∧ ∀ x, ¬ P x) ∨ (f = true ∧ P n ∧ ∀ x, P x → pref x n = false)
structure Prefers (pref : Int → Int → Bool) : Prop where
  tot : ∀ x y, pref x y = false → pref y x = false → x = y
  trans : ∀ x y z, pref x y = true → pref y z = true → pref x z = true
  irr : ∀ x, pref x x = false
def ltB (x y : Int) : Bool := decide (x < y)
def gtB (x y : Int) : Bool := decide (y < x)
theorem prefers_lt : Prefers ltB := ⟨fun x y h k => by simp [ltB] at h k; omega, fun x y z h k => by simp [ltB] at h k ⊢; omega, fun x => by simp [ltB]⟩
theorem prefers_gt : Prefers gtB := ⟨fun x y h k => by simp [gtB] at h k; omega, fun x y z h k => by simp [gtB] at h k ⊢; omega, fun x => by simp [gtB]⟩

section
variable {pref : Int → Int → Bool} {P Q : Int → Prop} {f g : Bool} {n m x : Int}
theorem IsBest.start : IsBest pref (fun _ => False) false 0 := .inl ⟨rfl, rfl, fun _ h => h⟩
theorem IsBest.uniq (ho : Prefers pref) (h : IsBest pref P f n) (k : IsBest pref Q g m) (hPQ : ∀ x, P x ↔ Q x) : n = m := by
  rcases h with ⟨_, rfl, h⟩ | ⟨_, h1, h2⟩
  · rcases k with ⟨_, rfl, _⟩ | ⟨_, k1, _⟩
    · rfl
    · exact absurd ((hPQ m).2 k1) (h m)
  · rcases k with ⟨_, rfl, k⟩ | ⟨_, k1, k2⟩
    · exact absurd ((hPQ n).1 h1) (k n)
    · exact ho.tot n m (k2 n ((hPQ n).1 h1)) (h2 m ((hPQ m).2 k1))
theorem IsBest.same (h : IsBest pref P f n) (hQ : ∀ y, Q y ↔ P y) : IsBest pref Q f n := by
  rcases h with ⟨h1, h2, h⟩ | ⟨h0, h1, h2⟩
  · exact .inl ⟨h1, h2, fun y hy => h y ((hQ y).1 hy)⟩
  · exact .inr ⟨h0, (hQ n).2 h1, fun y hy => h2 y ((hQ y).1 hy)⟩
theorem IsBest.keep (h : IsBest pref P true n) (hQ : ∀ y, Q y ↔ P y ∨ y = x) (hp : pref x n = false) : IsBest pref Q true n := by
  rcases h with ⟨h1, _⟩ | ⟨h0, h1, h2⟩
  · cases h1
  · refine .inr ⟨h0, (hQ n).2 (.inl h1), fun y hy => ?_⟩
    rcases (hQ y).1 hy with hy | rfl
    · exact h2 y hy
    · exact hp
theorem IsBest.take0 (ho : Prefers pref) (h : IsBest pref P false n) (hQ : ∀ y, Q y ↔ P y ∨ y = x) : IsBest pref Q true x := by
  rcases h with ⟨_, _, h⟩ | ⟨h0, _⟩
  · refine .inr ⟨rfl, (hQ x).2 (.inr rfl), fun y hy => ?_⟩
    rcases (hQ y).1 hy with hy | rfl
    · exact absurd hy (h y)
    · exact ho.irr y
  · cases h0
theorem IsBest.take1 (ho : Prefers pref) (h : IsBest pref P true n) (hQ : ∀ y, Q y ↔ P y ∨ y = x) (hp : pref x n = true) : IsBest pref Q true x := by
  rcases h with ⟨h1, _⟩ | ⟨_, _, h2⟩
  · cases h1
  · refine .inr ⟨rfl, (hQ x).2 (.inr rfl), fun y hy => ?_⟩
    rcases (hQ y).1 hy with hy | rfl
    · have hyn := h2 y hy
      rcases hyx : pref y x with _ | _
      · rfl
      · rw [ho.trans y x n hyx hp] at hyn; cases hyn
    · exact ho.irr y
theorem IsBest.zero (h : IsBest pref P false n) : n = 0 := by
  rcases h with ⟨_, h, _⟩ | ⟨h, _⟩
  · exact h
  · cases h
end
noncomputable def bestV (pref : Int → Int → Bool) (P : Int → Prop) : Int := Classical.epsilon fun n => ∃ f, IsBest pref P f n
theorem best_eq {pref : Int → Int → Bool} (ho : Prefers pref) {P Q : Int → Prop} {f : Bool} {n : Int} (h : IsBest pref Q f n) (hQ : ∀ x, P x ↔ Q x) : bestV pref P = n := by
  have hp : IsBest pref P f n := h.same hQ
  obtain ⟨g, hg⟩ := Classical.epsilon_spec (p := fun n => ∃ f, IsBest pref P f n) ⟨n, f, hp⟩
  exact hg.uniq ho hp fun _ => Iff.rfl

section
variable {α : Type} {xs : List α} {S : List Int} {val : α → Option Int}
/-- The values of the first k elements whose indices are chosen. -/
def Vals (xs : List α) (S : List Int) (val : α → Option Int) (k : Nat) (x : Int) : Prop := ∃ i, ∃ h : i < xs.length, i < k ∧ hasB S (i : Int) = true ∧ val xs[i] = some x
/-- The values that the first k choices name. -/
def ValC (xs : List α) (S : List Int) (val : α → Option Int) (k : Nat) (x : Int) : Prop := ∃ j, ∃ h : j < S.length, j < k ∧ ∃ i, ∃ h' : i < xs.length, S[j] = (i : Int) ∧ val xs[i] = some x
/-- A chosen element without a value. -/
def Lacks (xs : List α) (S : List Int) (val : α → Option Int) : Prop := ∃ i, ∃ h : i < xs.length, hasB S (i : Int) = true ∧ val xs[i] = none
theorem vals_zero (x : Int) : Vals xs S val 0 x ↔ False := ⟨fun ⟨_, _, h, _⟩ => by omega, False.elim⟩
theorem valC_zero (x : Int) : ValC xs S val 0 x ↔ False := ⟨fun ⟨_, _, h, _⟩ => by omega, False.elim⟩
theorem vals_skip {k : Nat} (h : hasB S (k : Int) = false) (x : Int) : Vals xs S val (k + 1) x ↔ Vals xs S val k x := by
  constructor
  · rintro ⟨i, hi, hk, hs, hv⟩
    by_cases e : i = k
    · subst e; rw [h] at hs; cases hs
    · exact ⟨i, hi, by omega, hs, hv⟩
  · rintro ⟨i, hi, hk, hs, hv⟩
    exact ⟨i, hi, by omega, hs, hv⟩
theorem vals_add {k : Nat} (hk : k < xs.length) (h : hasB S (k : Int) = true) {x0 : Int} (hv : val xs[k] = some x0) (x : Int) : Vals xs S val (k + 1) x ↔ Vals xs S val k x ∨ x = x0 := by
  constructor
  · rintro ⟨i, hi, hik, hs, hx⟩
    by_cases e : i = k
    · subst e; rw [hv] at hx; injection hx with hx; exact .inr hx.symm
    · exact .inl ⟨i, hi, by omega, hs, hx⟩
  · rintro (⟨i, hi, hik, hs, hx⟩ | rfl)
    · exact ⟨i, hi, by omega, hs, hx⟩
    · exact ⟨k, hk, by omega, h, hv⟩
theorem valC_skip {k : Nat} (hk : k < S.length) (h : ∀ i : Nat, S[k] = (i : Int) → ¬ i < xs.length) (x : Int) : ValC xs S val (k + 1) x ↔ ValC xs S val k x := by
  constructor
  · rintro ⟨j, hj, hjk, i, hi, hs, hv⟩
    by_cases e : j = k
    · subst e; exact absurd hi (h i hs)
    · exact ⟨j, hj, by omega, i, hi, hs, hv⟩
  · rintro ⟨j, hj, hjk, i, hi, hs, hv⟩
    exact ⟨j, hj, by omega, i, hi, hs, hv⟩
theorem valC_add {k i : Nat} (hk : k < S.length) (hi : i < xs.length) (h : S[k] = (i : Int)) {x0 : Int} (hv : val xs[i] = some x0) (x : Int) : ValC xs S val (k + 1) x ↔ ValC xs S val k x ∨ x = x0 := by
  constructor
  · rintro ⟨j, hj, hjk, i', hi', hs, hx⟩
    by_cases e : j = k
    · subst e
      rw [h] at hs
      obtain rfl : i = i' := by omega
      rw [hv] at hx
      injection hx with hx
      exact .inr hx.symm
    · exact .inl ⟨j, hj, by omega, i', hi', hs, hx⟩
  · rintro (⟨j, hj, hjk, i', hi', hs, hx⟩ | rfl)
    · exact ⟨j, hj, by omega, i', hi', hs, hx⟩
    · exact ⟨k, hk, by omega, i, hi, h, hv⟩
theorem has_iff {y : Int} : hasB S y = true ↔ ∃ j, ∃ h : j < S.length, S[j] = y := by
  unfold hasB
  rw [List.contains_iff_mem, List.mem_iff_getElem]
theorem vals_valC (x : Int) : Vals xs S val xs.length x ↔ ValC xs S val S.length x := by
  constructor
  · rintro ⟨i, hi, _, hs, hv⟩
    obtain ⟨j, hj, hs⟩ := has_iff.1 hs
    exact ⟨j, hj, hj, i, hi, hs, hv⟩
  · rintro ⟨j, hj, _, i, hi, hs, hv⟩
    exact ⟨i, hi, hi, has_iff.2 ⟨j, hj, hs⟩, hv⟩
theorem lacks_at {k : Nat} (hk : k < xs.length) (h : hasB S (k : Int) = true) (hv : val xs[k] = none) : Lacks xs S val := ⟨k, hk, h, hv⟩
theorem lacks_ch {k i : Nat} (hk : k < S.length) (hi : i < xs.length) (h : S[k] = (i : Int)) (hv : val xs[i] = none) : Lacks xs S val := ⟨i, hi, has_iff.2 ⟨k, hk, h⟩, hv⟩
end
open Classical in
/-- The preferred value of the chosen elements: 0 if there is none or one of them has no value. -/
noncomputable def selB {α : Type} (pref : Int → Int → Bool) (val : α → Option Int) (xs : List α) (S : List Int) : Int := if Lacks xs S val then 0 else bestV pref (Vals xs S val xs.length)
theorem sel_lacks {α : Type} {pref : Int → Int → Bool} {val : α → Option Int} {xs : List α} {S : List Int} (h : Lacks xs S val) : selB pref val xs S = 0 := if_pos h
theorem sel_vals {α : Type} {pref : Int → Int → Bool} (ho : Prefers pref) {val : α → Option Int} {xs : List α} {S : List Int} {f : Bool} {n : Int} (h : ¬ Lacks xs S val) (hb : IsBest pref (Vals xs S val xs.length) f n) : selB pref val xs S = n := (if_neg h).trans (best_eq ho hb fun _ => Iff.rfl)
theorem sel_valC {α : Type} {pref : Int → Int → Bool} (ho : Prefers pref) {val : α → Option Int} {xs : List α} {S : List Int} {f : Bool} {n : Int} (h : ∀ j, (hj : j < S.length) → ∀ i, (hi : i < xs.length) → S[j] = (i : Int) → val xs[i] ≠ none) (hb : IsBest pref (ValC xs S val S.length) f n) : selB pref val xs S = n := by
  refine (if_neg ?_).trans (best_eq ho hb vals_valC)
  rintro ⟨i, hi, hs, hv⟩
  obtain ⟨j, hj, hs⟩ := has_iff.1 hs
  exact h j hj i hi hs hv

/-- The amount at an index, where there is one. -/
def amtB (l : List Int) (t : Int) : Option Int := if inB t 0 ((l.length : Int) - 1) = true then some (l.getD t.toNat 0) else none
theorem amt_no {l : List Int} {t : Int} (h : ¬ (0 ≤ t ∧ t < l.length)) : amtB l t = none := by unfold amtB; rw [inB_no (by omega)]; rfl
theorem amt_yes {l : List Int} {i : Nat} (h : i < l.length) : amtB l (i : Int) = some l[i] := by
  unfold amtB
  rw [inB_yes (by omega), if_pos rfl]
  simp [List.getD, List.getElem?_eq_getElem h]
end Go.Proofs.YtgbpomakomddjabGreatDoor
end
