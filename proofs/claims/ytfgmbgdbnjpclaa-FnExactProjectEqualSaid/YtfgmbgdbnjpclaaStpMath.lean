/- DERIVED. PLAIN LEMMAS: capacity steps: what holds at a time, the parts in an interval, the merged steps. No dump. -/
import Derived.Test.YtfgmbgdbnjpclaaStp
namespace Go.Proofs.Ytfgmbgdbnjpclaa

abbrev Pr := Int × Int

/-- The j-th step is in order. -/
def goodP (xs : List Pr) (j : Nat) : Prop := 0 ≤ (xs.getD j (0, 0)).1 ∧ (xs.getD j (0, 0)).1 ≤ 60 ∧ 0 ≤ (xs.getD j (0, 0)).2 ∧ (xs.getD j (0, 0)).2 ≤ 20 ∧ (0 < j → (xs.getD (j - 1) (0, 0)).1 < (xs.getD j (0, 0)).1)
def okS (xs : List Pr) : Prop := 1 ≤ xs.length ∧ xs.length ≤ 8 ∧ (xs.getD 0 (0, 0)).1 = 0 ∧ ∀ j, j < xs.length → goodP xs j
open Classical in
noncomputable def okP (xs : List Pr) : Bool := decide (okS xs)
theorem okP_iff {xs : List Pr} : okP xs = true ↔ okS xs := by unfold okP; simp
theorem okP_no {xs : List Pr} (h : ¬ okS xs) : okP xs = false := by
  rcases hb : okP xs with _ | _
  · rfl
  · exact absurd (okP_iff.1 hb) h

/-- The capacity at t. -/
def atP (xs : List Pr) (t : Int) : Int := xs.foldl (fun n s => if s.1 ≤ t then s.2 else n) 0
theorem atP_snoc (xs : List Pr) (p : Pr) (t : Int) : atP (xs ++ [p]) t = if p.1 ≤ t then p.2 else atP xs t := by simp [atP]

/-- The parts of the steps in the interval from x up to y: (from, capacity), end. -/
def partsP : List Pr → Int → Int → List (Pr × Int)
  | [], _, _ => []
  | [p], x, y => if max p.1 x < y then [((max p.1 x, p.2), y)] else []
  | p :: q :: l, x, y => (if max p.1 x < min q.1 y then [((max p.1 x, p.2), min q.1 y)] else []) ++ partsP (q :: l) x y

/-- The i-th step's part. -/
def endP (xs : List Pr) (y : Int) (i : Nat) : Int := if i + 1 < xs.length then min (xs.getD (i + 1) (0, 0)).1 y else y
def partP (xs : List Pr) (x y : Int) (i : Nat) : List (Pr × Int) :=
  if max (xs.getD i (0, 0)).1 x < endP xs y i then [((max (xs.getD i (0, 0)).1 x, (xs.getD i (0, 0)).2), endP xs y i)] else []
theorem partP_cons (p q : Pr) (l : List Pr) (x y : Int) (i : Nat) : partP (p :: q :: l) x y (i + 1) = partP (q :: l) x y i := by
  simp [partP, endP]
theorem partsP_eq : ∀ (xs : List Pr) (x y : Int), partsP xs x y = (List.range xs.length).flatMap (partP xs x y)
  | [], _, _ => by simp [partsP]
  | [p], x, y => by simp [partsP, partP, endP]
  | p :: q :: l, x, y => by
    rw [partsP, partsP_eq (q :: l) x y]
    rw [show (p :: q :: l).length = (q :: l).length + 1 from rfl, List.range_succ_eq_map, List.flatMap_cons, List.flatMap_map]
    congr 1
    simp only [Nat.succ_eq_add_one, partP_cons]
def uptoP (xs : List Pr) (x y : Int) (k : Nat) : List (Pr × Int) := (List.range k).flatMap (partP xs x y)
theorem uptoP_succ (xs : List Pr) (x y : Int) (k : Nat) : uptoP xs x y (k + 1) = uptoP xs x y k ++ partP xs x y k := by simp [uptoP, List.range_succ]
theorem uptoP_full (xs : List Pr) (x y : Int) : uptoP xs x y xs.length = partsP xs x y := (partsP_eq xs x y).symm
theorem uptoP_prefix (xs : List Pr) (x y : Int) (k : Nat) (h : k ≤ xs.length) : uptoP xs x y k <+: partsP xs x y := by
  rw [← uptoP_full]
  obtain ⟨d, hd⟩ : ∃ d, xs.length = k + d := ⟨xs.length - k, by omega⟩
  unfold uptoP
  rw [hd, List.range_add, List.flatMap_append]
  exact List.prefix_append _ _

/-- The times a, a+1, .., a+n-1 with the capacity c. -/
def runP (a c : Int) : Nat → List Pr
  | 0 => []
  | n + 1 => (a, c) :: runP (a + 1) c n
def spreadP (l : List (Pr × Int)) : List Pr := l.flatMap fun q => runP q.1.1 q.1.2 (q.2 - q.1.1).toNat
/-- The times from x on, n of them, each with what f says. -/
def tabP (f : Int → Int) (x : Int) : Nat → List Pr
  | 0 => []
  | n + 1 => (x, f x) :: tabP f (x + 1) n
theorem runP_tab (f : Int → Int) (c : Int) : ∀ (n : Nat) (a : Int), (∀ t, a ≤ t → t < a + n → f t = c) → runP a c n = tabP f a n
  | 0, _, _ => rfl
  | n + 1, a, h => by
    rw [runP, tabP, h a (by omega) (by omega), runP_tab f c n (a + 1) (fun t h1 h2 => h t (by omega) (by omega))]
theorem tabP_add (f : Int → Int) : ∀ (n m : Nat) (x : Int), tabP f x (n + m) = tabP f x n ++ tabP f (x + n) m
  | 0, m, x => by simp [tabP]
  | n + 1, m, x => by
    rw [show n + 1 + m = (n + m) + 1 from by omega, tabP, tabP, tabP_add f n m (x + 1), show x + 1 + (n : Int) = x + ((n + 1 : Nat) : Int) from by omega]
    rfl
theorem tabP_congr (f g : Int → Int) : ∀ (n : Nat) (x : Int), (∀ t, x ≤ t → t < x + n → f t = g t) → tabP f x n = tabP g x n
  | 0, _, _ => rfl
  | n + 1, x, h => by rw [tabP, tabP, h x (by omega) (by omega), tabP_congr f g n (x + 1) (fun t h1 h2 => h t (by omega) (by omega))]

/-- In ascending steps what holds at t lies in the first step, before the second. -/
def ascS : List Pr → Prop
  | [] => True
  | [_] => True
  | p :: q :: l => p.1 < q.1 ∧ ascS (q :: l)
def atS : List Pr → Int → Int
  | [], _ => 0
  | [p], _ => p.2
  | p :: q :: l, t => if t < q.1 then p.2 else atS (q :: l) t
theorem foldl_late (t : Int) : ∀ (l : List Pr) (n : Int), (∀ p ∈ l, t < p.1) → l.foldl (fun n s => if s.1 ≤ t then s.2 else n) n = n
  | [], _, _ => rfl
  | p :: l, n, h => by
    rw [List.foldl_cons, if_neg (by have := h p (by simp); omega)]
    exact foldl_late t l n (fun q hq => h q (by simp [hq]))
theorem ascS_lt : ∀ {p : Pr} {l : List Pr}, ascS (p :: l) → ∀ q ∈ l, p.1 < q.1
  | _, [], _, _, h => by simp at h
  | p, r :: l, h, q, hq => by
    rcases List.mem_cons.1 hq with rfl | hq
    · exact h.1
    · have := ascS_lt h.2 q hq; have := h.1; omega
theorem foldl_atS (t : Int) : ∀ (l : List Pr) (p : Pr) (n : Int), ascS (p :: l) → p.1 ≤ t → (p :: l).foldl (fun n s => if s.1 ≤ t then s.2 else n) n = atS (p :: l) t
  | [], p, n, _, h => by simp [atS, h]
  | q :: l, p, n, ha, h => by
    rw [List.foldl_cons, if_pos h]
    by_cases hq : t < q.1
    · rw [atS, if_pos hq]
      exact foldl_late t _ _ (fun r hr => by
        rcases List.mem_cons.1 hr with rfl | hr
        · exact hq
        · have := ascS_lt ha.2 r hr; omega)
    · rw [atS, if_neg hq]
      exact foldl_atS t l q p.2 ha.2 (by omega)

theorem spread_parts : ∀ (l : List Pr) (p : Pr) (x y : Int), ascS (p :: l) → p.1 ≤ x → x ≤ y → spreadP (partsP (p :: l) x y) = tabP (atS (p :: l)) x (y - x).toNat
  | [], p, x, y, _, hp, hxy => by
    rw [partsP, show max p.1 x = x from by omega]
    split
    · simp only [spreadP, List.flatMap_cons, List.flatMap_nil, List.append_nil]
      exact runP_tab _ _ _ _ (fun t _ _ => rfl)
    · rw [show (y - x).toNat = 0 from by omega]; rfl
  | q :: l, p, x, y, ha, hp, hxy => by
    have hpq := ha.1
    rw [partsP, show max p.1 x = x from by omega]
    have happ : ∀ a b : List (Pr × Int), spreadP (a ++ b) = spreadP a ++ spreadP b := fun a b => by simp [spreadP]
    rw [happ]
    by_cases h1 : q.1 ≤ x
    · rw [if_neg (by omega), spread_parts l q x y ha.2 h1 hxy]
      simp only [spreadP, List.flatMap_nil, List.nil_append]
      exact tabP_congr _ _ _ _ (fun t h2 _ => by rw [show atS (p :: q :: l) t = if t < q.1 then p.2 else atS (q :: l) t from rfl, if_neg (by omega)])
    · by_cases h2 : y ≤ q.1
      · -- the whole interval lies in the first step
        have hnil : ∀ (m : List Pr) (r : Pr), y ≤ r.1 → ascS (r :: m) → partsP (r :: m) x y = [] := by
          intro m
          induction m with
          | nil => intro r hr _; rw [partsP, if_neg (by omega)]
          | cons s m ih => intro r hr hs; rw [partsP, if_neg (by omega), ih s (by have := hs.1; omega) hs.2]; rfl
        rw [hnil l q h2 ha.2]
        by_cases h3 : x < y
        · rw [if_pos (by omega), show min q.1 y = y from by omega]
          simp only [spreadP, List.flatMap_cons, List.flatMap_nil, List.append_nil]
          exact runP_tab _ _ _ _ (fun t _ h4 => by rw [show atS (p :: q :: l) t = if t < q.1 then p.2 else atS (q :: l) t from rfl, if_pos (by omega)])
        · rw [if_neg (by omega), show (y - x).toNat = 0 from by omega]; rfl
      · rw [if_pos (by omega), show min q.1 y = q.1 from by omega]
        have hx : partsP (q :: l) x y = partsP (q :: l) q.1 y := by
          cases l with
          | nil => rw [partsP, partsP, show max q.1 x = q.1 from by omega, show max q.1 q.1 = q.1 from by omega]
          | cons r m =>
            have hgo : ∀ (m : List Pr) (r : Pr), q.1 < r.1 → ascS (r :: m) → partsP (r :: m) x y = partsP (r :: m) q.1 y := by
              intro m
              induction m with
              | nil => intro r hr _; rw [partsP, partsP, show max r.1 x = r.1 from by omega, show max r.1 q.1 = r.1 from by omega]
              | cons s m ih => intro r hr hs; rw [partsP, partsP, show max r.1 x = r.1 from by omega, show max r.1 q.1 = r.1 from by omega, ih s (by have := hs.1; omega) hs.2]
            rw [partsP, partsP, show max q.1 x = q.1 from by omega, show max q.1 q.1 = q.1 from by omega, hgo m r ha.2.1 ha.2.2]
        rw [hx, spread_parts l q q.1 y ha.2 (by omega) (by omega)]
        rw [show (y - x).toNat = (q.1 - x).toNat + (y - q.1).toNat from by omega, tabP_add]
        simp only [spreadP, List.flatMap_cons, List.flatMap_nil, List.append_nil]
        congr 1
        · exact runP_tab _ _ _ _ (fun t _ h4 => by rw [show atS (p :: q :: l) t = if t < q.1 then p.2 else atS (q :: l) t from rfl, if_pos (by omega)])
        · rw [show x + ((q.1 - x).toNat : Int) = q.1 from by omega]
          exact tabP_congr _ _ _ _ (fun t h4 _ => by rw [show atS (p :: q :: l) t = if t < q.1 then p.2 else atS (q :: l) t from rfl, if_neg (by omega)])

theorem okS_asc {xs : List Pr} (h : ∀ j, j < xs.length → goodP xs j) : ascS xs := by
  induction xs with
  | nil => trivial
  | cons p l ih =>
    cases l with
    | nil => trivial
    | cons q l =>
      refine ⟨?_, ih fun j hj => ?_⟩
      · have := (h 1 (by simp)).2.2.2.2 (by omega)
        simpa using this
      · have g := h (j + 1) (by simp at hj ⊢; omega)
        unfold goodP at g ⊢
        refine ⟨by simpa using g.1, by simpa using g.2.1, by simpa using g.2.2.1, by simpa using g.2.2.2.1, fun hj0 => ?_⟩
        have := g.2.2.2.2 (by omega)
        obtain ⟨i, rfl⟩ : ∃ i, j = i + 1 := ⟨j - 1, by omega⟩
        simpa using this
/-- The parts of valid steps, spread out over the times, are the table of what holds at each time. -/
theorem spread_ok {xs : List Pr} (h : okS xs) (x y : Int) (hx : 0 ≤ x) (hxy : x ≤ y) : spreadP (partsP xs x y) = tabP (atP xs) x (y - x).toNat := by
  obtain ⟨h1, h8, h0, hg⟩ := h
  have ha := okS_asc hg
  cases xs with
  | nil => simp at h1
  | cons p l =>
    have hp : p.1 = 0 := by simpa using h0
    rw [spread_parts l p x y ha (by omega) hxy]
    exact tabP_congr _ _ _ _ (fun t h2 _ => by rw [atP, foldl_atS t l p 0 ha (by omega)])

/-- A fold over the spread-out parts that says nothing new at the same capacity is the fold over the parts. -/
theorem foldl_run {β : Type} (f : β → Int → β) (hf : ∀ n c, f (f n c) c = f n c) (c : Int) : ∀ (k : Nat) (a : Int) (n : β), 0 < k → (runP a c k).foldl (fun n s => f n s.2) n = f n c
  | 0, _, _, h => absurd h (by omega)
  | 1, _, _, _ => rfl
  | k + 2, a, n, _ => by
    rw [runP, List.foldl_cons, foldl_run f hf c (k + 1) (a + 1) _ (by omega)]
    exact hf n c
theorem foldl_spread {β : Type} (f : β → Int → β) (hf : ∀ n c, f (f n c) c = f n c) : ∀ (l : List (Pr × Int)) (n : β), (∀ q ∈ l, q.1.1 < q.2) → (spreadP l).foldl (fun n s => f n s.2) n = l.foldl (fun n q => f n q.1.2) n
  | [], _, _ => rfl
  | q :: l, n, h => by
    have hq := h q (by simp)
    rw [show spreadP (q :: l) = runP q.1.1 q.1.2 (q.2 - q.1.1).toNat ++ spreadP l from by simp [spreadP], List.foldl_append, foldl_run f hf _ _ _ _ (by omega), List.foldl_cons]
    exact foldl_spread f hf l _ (fun r hr => h r (by simp [hr]))
theorem partP_lt {xs : List Pr} {x y : Int} {i : Nat} : ∀ q ∈ partP xs x y i, q.1.1 < q.2 := by
  intro q hq
  unfold partP at hq
  split at hq
  · simp at hq; subst hq; assumption
  · simp at hq
theorem partsP_lt {xs : List Pr} {x y : Int} : ∀ q ∈ partsP xs x y, q.1.1 < q.2 := by
  intro q hq
  rw [partsP_eq, List.mem_flatMap] at hq
  obtain ⟨i, _, hq⟩ := hq
  exact partP_lt q hq

/-- The capacities at the times from x on, n of them, folded. -/
def foldT {β : Type} (g : β → Int → β) (f : Int → Int) (n : β) (x : Int) (k : Nat) : β := (tabP f x k).foldl (fun n s => g n s.2) n
theorem tabP_snoc (f : Int → Int) (x : Int) (k : Nat) : tabP f x (k + 1) = tabP f x k ++ [(x + k, f (x + k))] := by rw [tabP_add]; rfl
theorem foldT_succ {β : Type} (g : β → Int → β) (f : Int → Int) (n : β) (x : Int) (k : Nat) : foldT g f n x (k + 1) = g (foldT g f n x k) (f (x + k)) := by
  rw [foldT, foldT, tabP_snoc, List.foldl_append]; rfl

def lastP (l : List (Pr × Int)) : Int := l.foldl (fun _ q => q.1.2) 0
def leastP (l : List (Pr × Int)) : Int := l.foldl (fun n q => min n q.1.2) 20
def sumP (l : List (Pr × Int)) : Int := l.foldl (fun n q => n + (q.2 - q.1.1) * q.1.2) 0
theorem lastP_snoc (l : List (Pr × Int)) (q : Pr × Int) : lastP (l ++ [q]) = q.1.2 := by simp [lastP]
theorem leastP_snoc (l : List (Pr × Int)) (q : Pr × Int) : leastP (l ++ [q]) = min (leastP l) q.1.2 := by simp [leastP]
theorem sumP_snoc (l : List (Pr × Int)) (q : Pr × Int) : sumP (l ++ [q]) = sumP l + (q.2 - q.1.1) * q.1.2 := by simp [sumP]

def minT (xs : List Pr) (x y : Int) : Int := foldT (fun n c => min n c) (atP xs) 20 x (y - x).toNat
def sumT (xs : List Pr) (x y : Int) : Int := foldT (fun n c => n + c) (atP xs) 0 x (y - x).toNat

theorem last_ok {xs : List Pr} (h : okS xs) (t : Int) (ht : 0 ≤ t) : lastP (partsP xs t (t + 1)) = atP xs t := by
  have h1 := foldl_spread (fun (_ : Int) c => c) (fun _ _ => rfl) (partsP xs t (t + 1)) 0 partsP_lt
  rw [spread_ok h t (t + 1) ht (by omega), show (t + 1 - t).toNat = 1 from by omega] at h1
  exact h1.symm
theorem partsP_turned (xs : List Pr) (x y : Int) (h : y ≤ x) : partsP xs x y = [] := by
  rw [partsP_eq, List.flatMap_eq_nil_iff]
  intro i _
  unfold partP endP
  rw [if_neg]
  split <;> omega
theorem least_ok {xs : List Pr} (h : okS xs) (x y : Int) (hx : 0 ≤ x) : leastP (partsP xs x y) = minT xs x y := by
  by_cases hxy : x ≤ y
  · have h1 := foldl_spread (fun (n : Int) c => min n c) (fun n c => by omega) (partsP xs x y) 20 partsP_lt
    rw [spread_ok h x y hx hxy] at h1
    exact h1.symm
  · rw [partsP_turned xs x y (by omega), minT, show (y - x).toNat = 0 from by omega]; rfl
theorem sum_run (c : Int) : ∀ (k : Nat) (a n : Int), (runP a c k).foldl (fun n s => n + s.2) n = n + k * c
  | 0, _, _ => by simp [runP]
  | k + 1, a, n => by
    rw [runP, List.foldl_cons, sum_run c k (a + 1), Int.natCast_succ, Int.add_mul]
    omega
theorem sum_spread : ∀ (l : List (Pr × Int)) (n : Int), (∀ q ∈ l, q.1.1 < q.2) → (spreadP l).foldl (fun n s => n + s.2) n = l.foldl (fun n q => n + (q.2 - q.1.1) * q.1.2) n
  | [], _, _ => rfl
  | q :: l, n, h => by
    have hq := h q (by simp)
    rw [show spreadP (q :: l) = runP q.1.1 q.1.2 (q.2 - q.1.1).toNat ++ spreadP l from by simp [spreadP], List.foldl_append, sum_run, List.foldl_cons, show ((q.2 - q.1.1).toNat : Int) = q.2 - q.1.1 from by omega]
    exact sum_spread l _ (fun r hr => h r (by simp [hr]))
theorem sum_ok {xs : List Pr} (h : okS xs) (x y : Int) (hx : 0 ≤ x) : sumP (partsP xs x y) = sumT xs x y := by
  by_cases hxy : x ≤ y
  · have h1 := sum_spread (partsP xs x y) 0 partsP_lt
    rw [spread_ok h x y hx hxy] at h1
    exact h1.symm
  · rw [partsP_turned xs x y (by omega), sumT, show (y - x).toNat = 0 from by omega]; rfl

theorem atP_range {xs : List Pr} (h : okS xs) (t : Int) : 0 ≤ atP xs t ∧ atP xs t ≤ 20 := by
  have hall : ∀ p ∈ xs, 0 ≤ p.2 ∧ p.2 ≤ 20 := by
    intro p hp
    obtain ⟨j, hj, rfl⟩ := List.getElem_of_mem hp
    have := h.2.2.2 j hj
    unfold goodP at this
    simp only [List.getD, List.getElem?_eq_getElem hj, Option.getD_some] at this
    exact ⟨this.2.2.1, this.2.2.2.1⟩
  have hgen : ∀ (l : List Pr) (n : Int), (∀ p ∈ l, 0 ≤ p.2 ∧ p.2 ≤ 20) → 0 ≤ n ∧ n ≤ 20 → 0 ≤ l.foldl (fun n s => if s.1 ≤ t then s.2 else n) n ∧ l.foldl (fun n s => if s.1 ≤ t then s.2 else n) n ≤ 20 := by
    intro l
    induction l with
    | nil => intro n _ hn; exact hn
    | cons p l ih =>
      intro n hl hn
      rw [List.foldl_cons]
      refine ih _ (fun q hq => hl q (by simp [hq])) ?_
      split
      · exact hl p (by simp)
      · exact hn
  exact hgen xs 0 hall (by omega)

/-- The steps without those that repeat the capacity before them. -/
def keepP : Option Int → List Pr → List Pr
  | _, [] => []
  | v, p :: l => if v = some p.2 then keepP v l else p :: keepP (some p.2) l
def lowP (l : List Pr) : List Pr := keepP none l
/-- The capacity that stands last. -/
def endC (v : Option Int) (l : List Pr) : Option Int := match l.getLast? with | some q => some q.2 | none => v
theorem endC_cons (v : Option Int) (p : Pr) (l : List Pr) : endC v (p :: l) = endC (some p.2) l := by
  unfold endC
  cases l with
  | nil => rfl
  | cons q l => rw [List.getLast?_cons_cons]; simp [List.getLast?_cons]
theorem keepP_snoc (p : Pr) : ∀ (l : List Pr) (v : Option Int), keepP v (l ++ [p]) = keepP v l ++ if endC v l = some p.2 then [] else [p]
  | [], v => by by_cases h : v = some p.2 <;> simp [keepP, endC, h]
  | q :: l, v => by
    rw [endC_cons, List.cons_append, keepP, keepP]
    by_cases h : v = some q.2
    · rw [if_pos h, if_pos h, keepP_snoc p l v, h]
    · rw [if_neg h, if_neg h, keepP_snoc p l (some q.2)]; rfl
theorem keepP_end : ∀ (l : List Pr) (v : Option Int), endC v (keepP v l) = endC v l
  | [], _ => rfl
  | p :: l, v => by
    rw [endC_cons, keepP]
    by_cases h : v = some p.2
    · rw [if_pos h, keepP_end l v, h]
    · rw [if_neg h, endC_cons, keepP_end l (some p.2)]
theorem lowP_snoc (l : List Pr) (p : Pr) : lowP (l ++ [p]) = lowP l ++ if endC none l = some p.2 then [] else [p] := keepP_snoc p l none
theorem lowP_end (l : List Pr) : endC none (lowP l) = endC none l := keepP_end l none
theorem endC_snoc (l : List Pr) (p : Pr) (v : Option Int) : endC v (l ++ [p]) = some p.2 := by simp [endC]
theorem endC_take {l : List Pr} {k : Nat} (hk : 0 < k) (hl : k ≤ l.length) : endC none (l.take k) = some (l[k - 1]'(by omega)).2 := by
  obtain ⟨j, rfl⟩ : ∃ j, k = j + 1 := ⟨k - 1, by omega⟩
  rw [List.take_succ_eq_append_getElem (by omega), endC_snoc]; rfl
theorem endC_getD {l : List Pr} (h : 0 < l.length) : endC none l = some (l[l.length - 1]'(by omega)).2 := by
  have := endC_take (l := l) h (Nat.le_refl _)
  rwa [List.take_length] at this
theorem keepP_len : ∀ (l : List Pr) (v : Option Int), (keepP v l).length ≤ l.length
  | [], _ => Nat.le_refl _
  | p :: l, v => by
    rw [keepP]
    split
    · have := keepP_len l v; simp; omega
    · have := keepP_len l (some p.2); simp; omega
theorem lowP_len (l : List Pr) : (lowP l).length ≤ l.length := keepP_len l none
theorem keepP_sub : ∀ (l : List Pr) (v : Option Int), (keepP v l).Sublist l
  | [], _ => List.Sublist.refl _
  | p :: l, v => by
    rw [keepP]
    split
    · exact (keepP_sub l v).cons p
    · exact (keepP_sub l (some p.2)).cons_cons p
theorem lowP_nil {l : List Pr} : lowP l = [] ↔ l = [] := by
  cases l with
  | nil => simp [lowP, keepP]
  | cons p l => simp [lowP, keepP]

theorem keepP_run (c : Int) (r : List Pr) : ∀ (k : Nat) (a : Int), keepP (some c) (runP a c k ++ r) = keepP (some c) r
  | 0, _ => rfl
  | k + 1, a => by rw [runP, List.cons_append, keepP, if_pos rfl, keepP_run c r k]
theorem keepP_spread : ∀ (l : List (Pr × Int)) (v : Option Int), (∀ q ∈ l, q.1.1 < q.2) → keepP v (spreadP l) = keepP v (l.map (·.1))
  | [], _, _ => rfl
  | q :: l, v, h => by
    have hq := h q (by simp)
    have ih := keepP_spread l
    rw [show spreadP (q :: l) = runP q.1.1 q.1.2 (q.2 - q.1.1).toNat ++ spreadP l from by simp [spreadP]]
    obtain ⟨k, hk⟩ : ∃ k, (q.2 - q.1.1).toNat = k + 1 := ⟨(q.2 - q.1.1).toNat - 1, by omega⟩
    rw [hk, runP, List.cons_append, keepP, List.map_cons, keepP]
    by_cases hv : v = some q.1.2
    · rw [if_pos hv, if_pos hv, hv, keepP_run, ih _ (fun r hr => h r (by simp [hr]))]
    · rw [if_neg hv, if_neg hv, keepP_run, ih _ (fun r hr => h r (by simp [hr]))]

/-- What the steps with less capacity in the interval are, time by time. -/
def lessT (xs : List Pr) (x y n : Int) (t : Int) : Int := if x ≤ t ∧ t < y then atP xs t - n else atP xs t
def redP (xs : List Pr) (x y n : Int) : List Pr := lowP (tabP (lessT xs x y n) 0 61)
/-- The parts that the program joins. -/
def joinP (xs : List Pr) (x y n : Int) : List Pr := (partsP xs 0 x).map (·.1) ++ (partsP xs x y).map (fun q => (q.1.1, q.1.2 - n)) ++ (partsP xs y 61).map (·.1)
theorem runP_less (c n : Int) : ∀ (k : Nat) (a : Int), runP a (c - n) k = (runP a c k).map fun p => (p.1, p.2 - n)
  | 0, _ => rfl
  | k + 1, a => by rw [runP, runP, List.map_cons, runP_less c n k (a + 1)]
theorem tabP_less (f : Int → Int) (n : Int) : ∀ (k : Nat) (a : Int), (tabP f a k).map (fun p => (p.1, p.2 - n)) = tabP (fun t => f t - n) a k
  | 0, _ => rfl
  | k + 1, a => by rw [tabP, tabP, List.map_cons, tabP_less f n k (a + 1)]
theorem red_ok {xs : List Pr} (h : okS xs) (x y n : Int) (hx : 0 ≤ x) (hxy : x ≤ y) (hy : y ≤ 60) : lowP (joinP xs x y n) = redP xs x y n := by
  have e : joinP xs x y n = (partsP xs 0 x ++ (partsP xs x y).map (fun q => ((q.1.1, q.1.2 - n), q.2)) ++ partsP xs y 61).map (·.1) := by
    simp [joinP, Function.comp_def]
  have hlt : ∀ q ∈ partsP xs 0 x ++ (partsP xs x y).map (fun q => ((q.1.1, q.1.2 - n), q.2)) ++ partsP xs y 61, q.1.1 < q.2 := by
    intro q hq
    simp only [List.mem_append, List.mem_map] at hq
    rcases hq with (hq | ⟨r, hr, rfl⟩) | hq
    · exact partsP_lt q hq
    · exact partsP_lt r hr
    · exact partsP_lt q hq
  have happ : ∀ a b : List (Pr × Int), spreadP (a ++ b) = spreadP a ++ spreadP b := fun a b => by simp [spreadP]
  have hmap : ∀ l : List (Pr × Int), spreadP (l.map (fun q => ((q.1.1, q.1.2 - n), q.2))) = (spreadP l).map fun p => (p.1, p.2 - n) := by
    intro l
    induction l with
    | nil => rfl
    | cons q l ih =>
      rw [List.map_cons, show ∀ (q : Pr × Int) (l : List (Pr × Int)), spreadP (q :: l) = runP q.1.1 q.1.2 (q.2 - q.1.1).toNat ++ spreadP l from fun q l => by simp [spreadP],
        show spreadP (q :: l) = runP q.1.1 q.1.2 (q.2 - q.1.1).toNat ++ spreadP l from by simp [spreadP], List.map_append, ih, runP_less]
  rw [e, lowP, ← keepP_spread _ none hlt, happ, happ, hmap, spread_ok h 0 x (by omega) hx, spread_ok h x y hx hxy, spread_ok h y 61 (by omega) (by omega), tabP_less]
  rw [redP, lowP]
  congr 1
  have e1 : tabP (lessT xs x y n) 0 61 = tabP (lessT xs x y n) 0 ((x - 0).toNat + ((y - x).toNat + (61 - y).toNat)) := by congr 1; omega
  rw [e1, tabP_add, tabP_add, show (0 : Int) + ((x - 0).toNat : Int) = x from by omega, show x + ((y - x).toNat : Int) = y from by omega, List.append_assoc]
  congr 1
  · exact tabP_congr _ _ _ _ fun t h1 h2 => by rw [lessT, if_neg (by omega)]
  · congr 1
    · exact tabP_congr _ _ _ _ fun t h1 h2 => by rw [lessT, if_pos (by omega)]
    · exact tabP_congr _ _ _ _ fun t h1 h2 => by rw [lessT, if_neg (by omega)]

/-- Valid steps, said by elements. -/
theorem okS_iff {xs : List Pr} : okS xs ↔ 1 ≤ xs.length ∧ xs.length ≤ 8 ∧ (xs.getD 0 (0, 0)).1 = 0 ∧ xs.Pairwise (fun p q => p.1 < q.1) ∧ ∀ p ∈ xs, 0 ≤ p.1 ∧ p.1 ≤ 60 ∧ 0 ≤ p.2 ∧ p.2 ≤ 20 := by
  constructor
  · rintro ⟨h1, h8, h0, hg⟩
    refine ⟨h1, h8, h0, ?_, ?_⟩
    · have ha := okS_asc hg
      clear hg h0 h8 h1
      induction xs with
      | nil => exact List.Pairwise.nil
      | cons p l ih =>
        refine List.Pairwise.cons (fun q hq => ascS_lt ha q hq) (ih ?_)
        cases l with
        | nil => trivial
        | cons q l => exact ha.2
    · intro p hp
      obtain ⟨j, hj, rfl⟩ := List.getElem_of_mem hp
      have := hg j hj
      unfold goodP at this
      simp only [List.getD, List.getElem?_eq_getElem hj, Option.getD_some] at this
      exact ⟨this.1, this.2.1, this.2.2.1, this.2.2.2.1⟩
  · rintro ⟨h1, h8, h0, hp, hr⟩
    refine ⟨h1, h8, h0, fun j hj => ?_⟩
    have hm := hr _ (List.getElem_mem hj)
    unfold goodP
    simp only [List.getD, List.getElem?_eq_getElem hj, Option.getD_some]
    refine ⟨hm.1, hm.2.1, hm.2.2.1, hm.2.2.2, fun h => ?_⟩
    rw [List.getElem?_eq_getElem (show j - 1 < xs.length by omega), Option.getD_some]
    exact (List.pairwise_iff_getElem.1 hp) (j - 1) j (by omega) hj (by omega)
theorem lowP_head (p : Pr) (l : List Pr) : ∃ m, lowP (p :: l) = p :: m := ⟨_, by rw [lowP, keepP, if_neg (by simp)]⟩
/-- Merged steps are valid where they are not too many. -/
theorem okS_low {xs : List Pr} (h1 : 1 ≤ xs.length) (h0 : (xs.getD 0 (0, 0)).1 = 0) (hp : xs.Pairwise (fun p q => p.1 < q.1)) (hr : ∀ p ∈ xs, 0 ≤ p.1 ∧ p.1 ≤ 60 ∧ 0 ≤ p.2 ∧ p.2 ≤ 20) : okS (lowP xs) ↔ (lowP xs).length ≤ 8 := by
  constructor
  · intro h; exact h.2.1
  · intro h8
    cases xs with
    | nil => simp at h1
    | cons p l =>
      obtain ⟨m, hm⟩ := lowP_head p l
      have hsub : (lowP (p :: l)).Sublist (p :: l) := keepP_sub _ none
      rw [okS_iff]
      exact ⟨by rw [hm]; simp, h8, by rw [hm]; simpa using h0, hp.sublist hsub, fun q hq => hr q (hsub.subset hq)⟩
theorem tabP_len (f : Int → Int) : ∀ (n : Nat) (x : Int), (tabP f x n).length = n
  | 0, _ => rfl
  | n + 1, x => by rw [tabP, List.length_cons, tabP_len f n]
theorem tabP_mem {f : Int → Int} {p : Pr} : ∀ {n : Nat} {x : Int}, p ∈ tabP f x n ↔ x ≤ p.1 ∧ p.1 < x + n ∧ p.2 = f p.1
  | 0, x => by simp [tabP]; omega
  | n + 1, x => by
    rw [tabP, List.mem_cons, tabP_mem]
    constructor
    · rintro (rfl | ⟨h1, h2, h3⟩)
      · exact ⟨Int.le_refl _, by show x < _; omega, rfl⟩
      · exact ⟨by omega, by omega, h3⟩
    · rintro ⟨h1, h2, h3⟩
      by_cases e : p.1 = x
      · left; rw [← e, ← h3]
      · right; exact ⟨by omega, by omega, h3⟩
theorem tabP_asc (f : Int → Int) : ∀ (n : Nat) (x : Int), (tabP f x n).Pairwise (fun p q => p.1 < q.1)
  | 0, _ => List.Pairwise.nil
  | n + 1, x => List.Pairwise.cons (fun q hq => by have := (tabP_mem.1 hq).1; show x < q.1; omega) (tabP_asc f n (x + 1))
theorem minT_le {xs : List Pr} {x y t : Int} (h1 : x ≤ t) (h2 : t < y) : minT xs x y ≤ atP xs t := by
  have hgen : ∀ (k : Nat), (t - x).toNat < k → foldT (fun n c => min n c) (atP xs) 20 x k ≤ atP xs t := by
    intro k
    induction k with
    | zero => intro h; omega
    | succ k ih =>
      intro h
      rw [foldT_succ]
      by_cases e : (t - x).toNat = k
      · rw [show x + (k : Int) = t from by omega]; omega
      · have := ih (by omega); omega
  exact hgen _ (by omega)
theorem minT_range {xs : List Pr} (h : okS xs) (x y : Int) : 0 ≤ minT xs x y ∧ minT xs x y ≤ 20 := by
  unfold minT
  generalize (y - x).toNat = k
  induction k with
  | zero => exact ⟨by simp [foldT, tabP], by simp [foldT, tabP]⟩
  | succ k ih => rw [foldT_succ]; have := atP_range h (x + k); omega
theorem red_okS {xs : List Pr} (h : okS xs) (x y n : Int) (hn : 0 ≤ n) (hm : n ≤ minT xs x y) : okS (redP xs x y n) ↔ (redP xs x y n).length ≤ 8 := by
  refine okS_low (by rw [tabP_len]; omega) (by simp [tabP]) (tabP_asc _ _ _) fun p hp => ?_
  obtain ⟨h1, h2, h3⟩ := tabP_mem.1 hp
  have hr := atP_range h p.1
  refine ⟨h1, by omega, ?_⟩
  rw [h3, lessT]
  split
  · rename_i hc
    have := minT_le (xs := xs) hc.1 hc.2
    omega
  · omega

theorem sumT_range {xs : List Pr} (h : okS xs) (x : Int) (k : Nat) : 0 ≤ foldT (fun n c => n + c) (atP xs) 0 x k ∧ foldT (fun n c => n + c) (atP xs) 0 x k ≤ 20 * k := by
  induction k with
  | zero => exact ⟨by simp [foldT, tabP], by simp [foldT, tabP]⟩
  | succ k ih => rw [foldT_succ]; have := atP_range h (x + k); omega
theorem minK_range {xs : List Pr} (h : okS xs) (x : Int) (k : Nat) : 0 ≤ foldT (fun n c => min n c) (atP xs) 20 x k ∧ foldT (fun n c => min n c) (atP xs) 20 x k ≤ 20 := by
  induction k with
  | zero => exact ⟨by simp [foldT, tabP], by simp [foldT, tabP]⟩
  | succ k ih => rw [foldT_succ]; have := atP_range h (x + k); omega

def inB (n lo hi : Int) : Bool := decide (lo ≤ n) && decide (n ≤ hi)
theorem inB_iff {n lo hi : Int} : inB n lo hi = true ↔ lo ≤ n ∧ n ≤ hi := by simp [inB]
theorem inB_yes {n lo hi : Int} (h : lo ≤ n ∧ n ≤ hi) : inB n lo hi = true := by simp [inB, h.1, h.2]
theorem inB_no {n lo hi : Int} (h : ¬ (lo ≤ n ∧ n ≤ hi)) : inB n lo hi = false := by simp [inB]; omega
noncomputable def spanB (xs : List Pr) (x y : Int) : Bool := okP xs && inB x 0 60 && inB y 0 60
noncomputable def capB (xs : List Pr) (t : Int) : Int := if okP xs && inB t 0 60 then atP xs t else 0
noncomputable def leastB (xs : List Pr) (x y : Int) : Int := if spanB xs x y then minT xs x y else 0
noncomputable def totalB (xs : List Pr) (x y : Int) : Int := if spanB xs x y then sumT xs x y else 0
theorem spanB_iff {xs : List Pr} {x y : Int} : spanB xs x y = true ↔ okS xs ∧ (0 ≤ x ∧ x ≤ 60) ∧ (0 ≤ y ∧ y ≤ 60) := by
  simp [spanB, Bool.and_eq_true, okP_iff, inB_iff, and_assoc]
noncomputable def mergeB (xs : List Pr) : List Pr := if okP xs then lowP xs else []
theorem len_mergeB (xs : List Pr) : (mergeB xs).length ≤ xs.length := by
  unfold mergeB
  split
  · exact lowP_len xs
  · simp
/-- What is left of the capacity, and whether it could be taken. -/
noncomputable def reduceB (xs : List Pr) (x y n : Int) : Bool := spanB xs x y && !decide (y ≤ x) && inB n 0 (leastB xs x y) && okP (redP xs x y n)
noncomputable def reducedB (xs : List Pr) (x y n : Int) : List Pr := if reduceB xs x y n then redP xs x y n else []
theorem len_reducedB (xs : List Pr) (x y n : Int) : (reducedB xs x y n).length ≤ 61 := by
  unfold reducedB
  split
  · have := lowP_len (tabP (lessT xs x y n) 0 61)
    rw [tabP_len] at this
    exact this
  · simp
end Go.Proofs.Ytfgmbgdbnjpclaa
