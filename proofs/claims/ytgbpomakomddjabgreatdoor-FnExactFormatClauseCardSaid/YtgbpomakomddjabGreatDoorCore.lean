/- DERIVED. The cells of blocks of four to six cells. No dump. -/
import Derived.Test.YtgbpomakomddjabGreatDoorChecked
import Derived.WalkKit
import Derived.ProofKit
import Derived.Below
import Derived.Laws.OwnMore
import Derived.Deep.Draws

section
namespace Go.Proofs.YtgbpomakomddjabGreatDoor
open Go.RowKit

/-- A slice of ints that came in: nil, or a row of 'cap' cells below the heap's size; the first 'len' are its elements. -/
def IsInts (w : World) (a : Option Addr) (len cap : Nat) (zs : List Int) : Prop :=
  (a = none ∧ len = 0 ∧ cap = 0 ∧ zs = []) ∨
  ∃ x, a = some x ∧ len ≤ cap ∧ cap ≤ maxLen ∧ zs.length = cap ∧ (0 < cap → x.block < w.heap.size) ∧ (∀ i, i < zs.length → w.cell? (x.add i) = some (.int .i64 (zs.getD i 0))) ∧ ∀ n ∈ zs, (Lit.int .i64 n).wf = true

def IsStrs (w : World) (a : Option Addr) (len cap : Nat) (zs : List ByteArray) : Prop :=
  (a = none ∧ len = 0 ∧ cap = 0 ∧ zs = []) ∨
  ∃ x, a = some x ∧ len ≤ cap ∧ cap ≤ maxLen ∧ zs.length = cap ∧ (0 < cap → x.block < w.heap.size) ∧ (∀ i, i < zs.length → w.cell? (x.add i) = some (.string (zs.getD i ByteArray.empty))) ∧ ∀ s ∈ zs, s.size ≤ maxLen

theorem mem_row_self {x : Addr} (n : Nat) (h : 0 < n) : MemPlace.cell x.block x.off ∈ MemPlace.row x n := MemPlace.mem_row.2 ⟨0, h, by simp⟩
end Go.Proofs.YtgbpomakomddjabGreatDoor
end

section
namespace Go.Proofs.YtgbpomakomddjabGreatDoor
open Go.RowKit

/-- The slice value v reads as xs. -/
def Rd (w : World) (v : Value) (xs : List Value) : Prop :=
  xs.length ≤ maxLen ∧ ∃ A c, v = .slice A xs.length c ∧ (xs = [] ∨ ∃ b o, A = some ⟨b, o, none⟩ ∧ b < w.heap.size ∧ ∀ j, (h : j < xs.length) → w.cell? ⟨b, o + j, none⟩ = some xs[j])

theorem Rd.below {w w' : World} {v : Value} {xs : List Value} {B : Nat} (h : Rd w v xs) (hb : Below B w w') (hB : w.heap.size ≤ B) : Rd w' v xs := by
  obtain ⟨hl, A, c, rfl, h⟩ := h
  refine ⟨hl, A, c, rfl, ?_⟩
  rcases h with h | ⟨b, o, rfl, hlt, hc⟩
  · exact .inl h
  · exact .inr ⟨b, o, rfl, by have := hb.size; omega, fun j hj => (hb.cell (p := ⟨b, o + j, none⟩) (by show b < B; omega)).trans (hc j hj)⟩

theorem own_rd {w : World} {base : Nat} {e : TypeId} {v : Value} {n : Nat} {xs : List Value} (h : w.ownsRow base e 1 v n xs) (hm : n ≤ maxLen) : Rd w v xs := by
  have hl : xs.length = n := by have := h.1; omega
  refine ⟨by omega, ?_⟩
  rcases h.2 with ⟨rfl, rfl⟩ | ⟨g, cap, cur, rfl, hg, hh, hnc, hcm, hcs, htake⟩
  · exact ⟨none, 0, by rw [hl], .inl (List.eq_nil_of_length_eq_zero hl)⟩
  · refine ⟨_, cap, by rw [hl], .inr ⟨g, 0, rfl, (Array.getElem?_eq_some_iff.1 hh).1, fun j hj => ?_⟩⟩
    have := h.cells (g := g) rfl j _ (List.getElem?_eq_getElem hj)
    have hadd : (⟨g, 0, none⟩ : Addr).add j = ⟨g, j, none⟩ := by unfold Addr.add; split <;> simp_all
    rw [hadd] at this
    simpa using this

theorem own_below {w w' : World} {base : Nat} {e : TypeId} {size : Nat} {v : Value} {n : Nat} {xs : List Value} {B : Nat} (h : w.ownsRow base e size v n xs) (hb : Below B w w') (hB : w.heap.size ≤ B) : w'.ownsRow base e size v n xs := by
  refine h.kept (row := none) ⟨hb.os, hb.tape, hb.output, hb.size, fun k hk _ => hb.block k (by omega)⟩ ?_
  cases v.ownBlock <;> simp

/-- A row owned from 'base' on, kept while one block other than its own is written. -/
theorem own_grown {w w' : World} {base : Nat} {e : TypeId} {size : Nat} {v : Value} {n : Nat} {xs : List Value} {row : Option Nat} (h : w.ownsRow base e size v n xs) (hg : w.grownBy w' row) (hr : ∀ k, row = some k → w.heap.size ≤ k ∨ v.ownBlock ≠ some k) : w'.ownsRow base e size v n xs := by
  refine h.kept hg ?_
  rcases row with _ | k
  · cases v.ownBlock <;> simp
  · rcases hr k rfl with hk | hk
    · right; intro e; have := (h.lt k e).2; omega
    · exact .inr hk

theorem str_beq {x y : ByteArray} : (x.toList == y.toList) = true ↔ x = y := by
  rw [beq_iff_eq, ByteArray.toList_eq, ByteArray.toList_eq]
  exact ⟨fun h => ByteArray.ext (Array.toList_inj.1 h), fun h => by rw [h]⟩
theorem str_ne {x y : ByteArray} (h : x ≠ y) : (x.toList == y.toList) = false := by
  rcases hb : (x.toList == y.toList) with _ | _
  · rfl
  · exact absurd (str_beq.1 hb) h

theorem str_some {x : ByteArray} (h : x ≠ ⟨#[]⟩) : x.toList.isEmpty = false := by
  rcases hb : x.toList.isEmpty with _ | _
  · rfl
  · refine absurd (str_beq.1 ?_) h
    rw [List.isEmpty_iff.1 hb, ByteArray.toList_eq]; rfl

theorem below_drewN {B : Nat} {a w : World} (h : Below B a w) (n : Nat) : Below B a (w.drewN n) := ⟨h.os, h.tape, h.output, h.size, h.block⟩
theorem below_drewN' (w : World) (n : Nat) : Below w.heap.size w (w.drewN n) := below_drewN (Below.refl _ _) n
theorem below_of_drewN {w w' : World} (h : ∃ n, w' = w.drewN n) : Below w.heap.size w w' := by obtain ⟨n, rfl⟩ := h; exact below_drewN' w n

theorem grown_trans {a b c : World} {row : Option Nat} (h : a.grownBy b row) (k : b.grownBy c row) : a.grownBy c row :=
  ⟨k.os.trans h.os, k.tape.trans h.tape, k.output.trans h.output, Nat.le_trans h.size k.size, fun i hi hr => (k.block i (by have := h.size; omega) hr).trans (h.block i hi hr)⟩
theorem grown_below {a b : World} {B : Nat} (h : Below B a b) (hB : a.heap.size ≤ B) (row : Option Nat) : a.grownBy b row := ⟨h.os, h.tape, h.output, h.size, fun i hi _ => h.block i (by omega)⟩

theorem new_cell (w : World) (x : Value) (t : TypeId) : ∀ j u, [x][j]? = some u → (w.alloc (.cells #[x] t)).cell? ((⟨w.heap.size, 0, none⟩ : Addr).add j) = some u := by
  intro j u hu
  obtain ⟨hj, rfl⟩ := List.getElem?_eq_some_iff.1 hu
  obtain rfl : j = 0 := by simpa using hj
  rw [show ((⟨w.heap.size, 0, none⟩ : Addr).add 0) = ⟨w.heap.size, 0, none⟩ from by simp [Addr.add], World.cell?_alloc_at _ _ _ _ rfl]; rfl

/-- After j rounds of marking: the first j are marks, the rest as before. -/
def mix (mk : Nat → Value) (xs : List Value) (j : Nat) : List Value := (List.range j).map mk ++ xs.drop j
theorem mix_zero (mk : Nat → Value) (xs : List Value) : mix mk xs 0 = xs := by simp [mix]
theorem mix_full (mk : Nat → Value) (xs : List Value) {n : Nat} (h : xs.length = n) : mix mk xs n = (List.range n).map mk := by simp [mix, ← h]
theorem mix_len (mk : Nat → Value) (xs : List Value) {j : Nat} (h : j ≤ xs.length) : (mix mk xs j).length = xs.length := by simp [mix]; omega
theorem mix_set (mk : Nat → Value) (xs : List Value) {j : Nat} (h : j < xs.length) : (mix mk xs j).set j (mk j) = mix mk xs (j + 1) := by
  unfold mix
  have e : (List.drop j xs).set 0 (mk j) = mk j :: List.drop (j + 1) xs := by rw [List.drop_eq_getElem_cons h]; rfl
  rw [List.set_append_right _ _ (by simp)]
  simp [List.range_succ, e]
theorem own_len {w : World} {base : Nat} {e : TypeId} {v : Value} {n : Nat} {xs : List Value} (h : w.ownsRow base e 1 v n xs) : xs.length = n := by have := h.1; omega

/-- Two rows of different element types lie in different blocks. -/
theorem own_ne {w : World} {b1 b2 : Nat} {e1 e2 : TypeId} {s1 s2 : Nat} {v1 v2 : Value} {n m : Nat} {xs ys : List Value} (h1 : w.ownsRow b1 e1 s1 v1 n xs) (h2 : w.ownsRow b2 e2 s2 v2 m ys) (hne : e1 ≠ e2) :
    ∀ k, v1.ownBlock = some k → v2.ownBlock ≠ some k := by
  intro k hk hk2
  rcases h1.2 with ⟨rfl, _⟩ | ⟨g, cap, cur, rfl, _, hg, _⟩
  · simp [Value.ownBlock] at hk
  · rcases h2.2 with ⟨rfl, _⟩ | ⟨g', cap', cur', rfl, _, hg', _⟩
    · simp [Value.ownBlock] at hk2
    · simp only [Value.ownBlock, Option.some.injEq] at hk hk2
      subst hk
      subst hk2
      rw [hg] at hg'
      simp only [Option.some.injEq, Obj.cells.injEq] at hg'
      exact hne hg'.2.1
end Go.Proofs.YtgbpomakomddjabGreatDoor
end

section
namespace Go.Proofs.YtgbpomakomddjabGreatDoor
open Go.RowKit

structure ORow where
  e : TypeId
  s : Nat
  v : Value
  n : Nat
  xs : List Value

/-- Each row is owned from B on, and no two lie in one block. -/
def ORows (w : World) (B : Nat) : List ORow → Prop
  | [] => True
  | r :: rs => w.ownsRow B r.e r.s r.v r.n r.xs ∧ (∀ s ∈ rs, ∀ k, r.v.ownBlock = some k → s.v.ownBlock ≠ some k) ∧ ORows w B rs

theorem ORows.below {w w' : World} {B : Nat} : ∀ {L : List ORow}, ORows w B L → Below w.heap.size w w' → ORows w' B L
  | [], _, _ => trivial
  | _ :: _, h, hb => ⟨own_below h.1 hb (Nat.le_refl _), h.2.1, h.2.2.below hb⟩
theorem ORows.lt {w : World} {B : Nat} : ∀ {L : List ORow}, ORows w B L → ∀ r ∈ L, ∀ k, r.v.ownBlock = some k → k < w.heap.size
  | _ :: _, h, r, hr, k, hk => by
    rcases List.mem_cons.1 hr with rfl | hr
    · exact (h.1.lt k hk).2
    · exact h.2.2.lt r hr k hk
theorem ORows.at {w : World} {B : Nat} : ∀ {L : List ORow} {i : Nat} {r : ORow}, ORows w B L → L[i]? = some r → w.ownsRow B r.e r.s r.v r.n r.xs
  | _ :: _, 0, _, h, hr => by simp at hr; subst hr; exact h.1
  | _ :: _, _ + 1, _, h, hr => h.2.2.at (by simpa using hr)
theorem ORows.grown {w w' : World} {B : Nat} {row : Option Nat} : ∀ {L : List ORow}, ORows w B L → w.grownBy w' row → (∀ s ∈ L, ∀ k, row = some k → s.v.ownBlock ≠ some k) → ORows w' B L
  | [], _, _, _ => trivial
  | _ :: _, h, hg, hd => ⟨own_grown h.1 hg (fun k hk => .inr (hd _ (by simp) k hk)), h.2.1, h.2.2.grown hg (fun s hs => hd s (by simp [hs]))⟩
theorem ORows.mark {w w' : World} {B : Nat} {e : TypeId} {z : Nat} {v : Value} {n : Nat} {xs ys : List Value} : ∀ {L : List ORow} {i : Nat}, ORows w B L → L[i]? = some ⟨e, z, v, n, xs⟩ → w'.ownsRow B e z v n ys → w.grownBy w' v.ownBlock → ORows w' B (L.set i ⟨e, z, v, n, ys⟩)
  | r :: rs, 0, h, hr, ho, hg => by
    simp at hr; subst hr
    exact ⟨ho, h.2.1, h.2.2.grown hg h.2.1⟩
  | r :: rs, i + 1, h, hr, ho, hg => by
    have hr' : rs[i]? = some ⟨e, z, v, n, xs⟩ := by simpa using hr
    have hmem := List.mem_of_getElem? hr'
    refine ⟨own_grown h.1 hg (fun k hk => .inr (fun hk2 => h.2.1 _ hmem k hk2 hk)), ?_, h.2.2.mark hr' ho hg⟩
    intro s hs k hk
    rcases List.mem_or_eq_of_mem_set hs with hs | rfl
    · exact h.2.1 s hs k hk
    · exact h.2.1 _ hmem k hk

theorem own_base1 {w : World} {base base' : Nat} {e : TypeId} {size : Nat} {v : Value} {n : Nat} {xs : List Value} (h : w.ownsRow base e size v n xs) (hb : base' ≤ base) : w.ownsRow base' e size v n xs := by
  refine ⟨h.1, ?_⟩
  rcases h.2 with h | ⟨g, cap, cur, h1, h2, h3⟩
  · exact .inl h
  · exact .inr ⟨g, cap, cur, h1, Nat.le_trans hb h2, h3⟩

/-- From w0 the walk came to w: below w0's size nothing changed, and the rows L are the walk's own. -/
def St (w0 w : World) (L : List ORow) : Prop := Below w0.heap.size w0 w ∧ ORows w w0.heap.size L

theorem St.start (w : World) : St w w [] := ⟨Below.refl _ _, trivial⟩
theorem St.go {w0 w w' : World} {L : List ORow} (h : St w0 w L) (hb : Below w.heap.size w w') : St w0 w' L := ⟨h.1.trans (hb.mono h.1.size), h.2.below hb⟩
theorem St.drew {w0 w : World} {L : List ORow} (h : St w0 w L) (n : Nat) : St w0 (w.drewN n) L := h.go (below_drewN' w n)
theorem St.new {w0 w w' : World} {L : List ORow} {e : TypeId} {z : Nat} {v : Value} {n : Nat} {xs : List Value} (h : St w0 w L) (o : w'.ownsRow w.heap.size e z v n xs) (hb : Below w.heap.size w w') : St w0 w' (⟨e, z, v, n, xs⟩ :: L) :=
  ⟨h.1.trans (hb.mono h.1.size), own_base1 o h.1.size, fun s hs k hk hk2 => by
    have h1 := (o.lt k hk).1
    have h2 := h.2.lt s hs k hk2
    omega, h.2.below hb⟩
theorem St.own {w0 w : World} {L : List ORow} {e : TypeId} {z : Nat} {v : Value} {n : Nat} {xs : List Value} (h : St w0 w L) (i : Nat) (hr : L[i]? = some ⟨e, z, v, n, xs⟩) : w.ownsRow w0.heap.size e z v n xs := h.2.at hr
theorem St.rd {w0 w : World} {L : List ORow} {e : TypeId} {v : Value} {n : Nat} {xs : List Value} (h : St w0 w L) (i : Nat) (hr : L[i]? = some ⟨e, 1, v, n, xs⟩) (hm : n ≤ maxLen) : Rd w v xs := own_rd (h.own i hr) hm
theorem St.mark {w0 w w' : World} {L : List ORow} {e : TypeId} {z : Nat} {v : Value} {n : Nat} {xs ys : List Value} (h : St w0 w L) (i : Nat) (hr : L[i]? = some ⟨e, z, v, n, xs⟩) (ho : w'.ownsRow w0.heap.size e z v n ys) (hg : w.grownBy w' v.ownBlock) : St w0 w' (L.set i ⟨e, z, v, n, ys⟩) :=
  ⟨h.1.grown hg h.1.size (own_mem1 (h.own i hr)), h.2.mark hr ho hg⟩
where own_mem1 {w : World} {base : Nat} {e : TypeId} {size : Nat} {v : Value} {n : Nat} {xs : List Value} (h : w.ownsRow base e size v n xs) : ∀ i, v.ownBlock = some i → base ≤ i := fun i hi => (h.lt i hi).1
/-- A slice that came in stays as it was. -/
theorem St.old {w0 w : World} {L : List ORow} {v : Value} {xs : List Value} (h : St w0 w L) (hr : Rd w0 v xs) : Rd w v xs := hr.below h.1 (Nat.le_refl _)
end Go.Proofs.YtgbpomakomddjabGreatDoor
end

section
namespace Go.Proofs.YtgbpomakomddjabGreatDoor
open Go.RowKit

/-- The slice value v has n elements of s cells each, which read as cs. -/
def RdN (s : Nat) (w : World) (v : Value) (n : Nat) (cs : List Value) : Prop :=
  n ≤ maxLen ∧ cs.length = n * s ∧ ∃ A c, v = .slice A n c ∧ (n = 0 ∨ ∃ b o, A = some ⟨b, o, none⟩ ∧ b < w.heap.size ∧ ∀ j, (h : j < cs.length) → w.cell? ⟨b, o + j, none⟩ = some cs[j])

theorem RdN.below {s : Nat} {w w' : World} {v : Value} {n : Nat} {cs : List Value} {B : Nat} (h : RdN s w v n cs) (hb : Below B w w') (hB : w.heap.size ≤ B) : RdN s w' v n cs := by
  obtain ⟨hl, hs, A, c, rfl, h⟩ := h
  refine ⟨hl, hs, A, c, rfl, ?_⟩
  rcases h with h | ⟨b, o, rfl, hlt, hc⟩
  · exact .inl h
  · exact .inr ⟨b, o, rfl, by have := hb.size; omega, fun j hj => (hb.cell (p := ⟨b, o + j, none⟩) (by show b < B; omega)).trans (hc j hj)⟩

theorem own_rdN {w : World} {base : Nat} {e : TypeId} {s : Nat} {v : Value} {n : Nat} {xs : List Value} (h : w.ownsRow base e s v n xs) (hm : n ≤ maxLen) : RdN s w v n xs := by
  refine ⟨hm, h.1, ?_⟩
  rcases h.2 with ⟨rfl, rfl⟩ | ⟨g, cap, cur, rfl, hg, hh, hnc, hcm, hcs, htake⟩
  · exact ⟨none, 0, rfl, .inl rfl⟩
  · refine ⟨_, cap, rfl, .inr ⟨g, 0, rfl, (Array.getElem?_eq_some_iff.1 hh).1, fun j hj => ?_⟩⟩
    have := h.cells (g := g) rfl j _ (List.getElem?_eq_getElem hj)
    have hadd : (⟨g, 0, none⟩ : Addr).add j = ⟨g, j, none⟩ := by unfold Addr.add; split <;> simp_all
    rw [hadd] at this
    simpa using this

theorem St.rdN {w0 w : World} {L : List ORow} {e : TypeId} {s : Nat} {v : Value} {n : Nat} {xs : List Value} (h : St w0 w L) (i : Nat) (hr : L[i]? = some ⟨e, s, v, n, xs⟩) (hm : n ≤ maxLen) : RdN s w v n xs := own_rdN (h.own i hr) hm
theorem St.oldN {w0 w : World} {L : List ORow} {s : Nat} {v : Value} {n : Nat} {cs : List Value} (h : St w0 w L) (hr : RdN s w0 v n cs) : RdN s w v n cs := hr.below h.1 (Nat.le_refl _)

/-- The cells of a row of pairs. -/
def cellsP : List (Int × Int) → List Value
  | [] => []
  | p :: l => .int .i64 p.1 :: .int .i64 p.2 :: cellsP l
theorem cellsP_len : ∀ l : List (Int × Int), (cellsP l).length = l.length * 2
  | [] => rfl
  | _ :: l => by simp [cellsP, cellsP_len l]; omega
theorem cellsP_app : ∀ l m : List (Int × Int), cellsP (l ++ m) = cellsP l ++ cellsP m
  | [], _ => rfl
  | _ :: l, m => by simp [cellsP, cellsP_app l m]
theorem cellsP_0 : ∀ (l : List (Int × Int)) (j : Nat) (h : j < l.length), (cellsP l)[j * 2]? = some (.int .i64 l[j].1)
  | _ :: _, 0, _ => rfl
  | _ :: l, j + 1, h => by
    have := cellsP_0 l j (by simpa using h)
    rw [show (j + 1) * 2 = j * 2 + 1 + 1 from by omega]
    simpa [cellsP] using this
theorem cellsP_1 : ∀ (l : List (Int × Int)) (j : Nat) (h : j < l.length), (cellsP l)[j * 2 + 1]? = some (.int .i64 l[j].2)
  | _ :: _, 0, _ => rfl
  | _ :: l, j + 1, h => by
    have := cellsP_1 l j (by simpa using h)
    rw [show (j + 1) * 2 + 1 = j * 2 + 1 + 1 + 1 from by omega]
    simpa [cellsP] using this
theorem cellsP_set0 : ∀ (l : List (Int × Int)) (j : Nat) (h : j < l.length) (x : Int), (cellsP l).set (j * 2) (.int .i64 x) = cellsP (l.set j (x, l[j].2))
  | _ :: _, 0, _, _ => rfl
  | _ :: l, j + 1, h, x => by
    have := cellsP_set0 l j (by simpa using h) x
    rw [show (j + 1) * 2 = j * 2 + 1 + 1 from by omega]
    simpa [cellsP] using this
theorem cellsP_set1 : ∀ (l : List (Int × Int)) (j : Nat) (h : j < l.length) (x : Int), (cellsP l).set (j * 2 + 1) (.int .i64 x) = cellsP (l.set j (l[j].1, x))
  | _ :: _, 0, _, _ => rfl
  | _ :: l, j + 1, h, x => by
    have := cellsP_set1 l j (by simpa using h) x
    rw [show (j + 1) * 2 + 1 = j * 2 + 1 + 1 + 1 from by omega]
    simpa [cellsP] using this
/-- Any cells of an even number that are ints are pairs: the way back is not needed; a made row is one of zeros. -/
theorem cellsP_zeros : ∀ n : Nat, cellsP (List.replicate n (0, 0)) = List.replicate (n * 2) (.int .i64 0)
  | 0 => rfl
  | n + 1 => by rw [show (n + 1) * 2 = n * 2 + 1 + 1 from by omega]; simp [List.replicate_succ, cellsP, cellsP_zeros n]

/-- The slice value v reads as the pairs xs. -/
def RdP (w : World) (v : Value) (xs : List (Int × Int)) : Prop := RdN 2 w v xs.length (cellsP xs)
theorem RdP.below {w w' : World} {v : Value} {xs : List (Int × Int)} {B : Nat} (h : RdP w v xs) (hb : Below B w w') (hB : w.heap.size ≤ B) : RdP w' v xs := RdN.below h hb hB
theorem own_rdP {w : World} {base : Nat} {e : TypeId} {v : Value} {n : Nat} {xs : List (Int × Int)} (h : w.ownsRow base e 2 v n (cellsP xs)) (hm : n ≤ maxLen) : RdP w v xs := by
  have h1 := h.1
  rw [cellsP_len] at h1
  obtain rfl : n = xs.length := by omega
  exact own_rdN h hm
theorem ownP_len {w : World} {base : Nat} {e : TypeId} {v : Value} {n : Nat} {xs : List (Int × Int)} (h : w.ownsRow base e 2 v n (cellsP xs)) : xs.length = n := by
  have h1 := h.1
  rw [cellsP_len] at h1
  omega
theorem RdP.le {w : World} {v : Value} {xs : List (Int × Int)} (h : RdP w v xs) : xs.length ≤ 9223372036854775807 := by have := h.1; unfold maxLen at this; exact this
/-- A slice of pairs opened. -/
theorem rdP {w : World} {v : Value} {xs : List (Int × Int)} (h : RdP w v xs) : ∃ A c, v = .slice A xs.length c ∧ (xs = [] ∨ ∃ b o, A = some ⟨b, o, none⟩ ∧ b < w.heap.size ∧
    ∀ j, (hj : j < xs.length) → w.cell? ⟨b, o + j * 2, none⟩ = some (.int .i64 xs[j].1) ∧ w.cell? ⟨b, o + j * 2 + 1, none⟩ = some (.int .i64 xs[j].2)) := by
  obtain ⟨_, _, A, c, rfl, h⟩ := h
  refine ⟨A, c, rfl, ?_⟩
  rcases h with h | ⟨b, o, rfl, hb, hc⟩
  · exact .inl (List.eq_nil_of_length_eq_zero h)
  · refine .inr ⟨b, o, rfl, hb, fun j hj => ⟨?_, ?_⟩⟩
    · have := hc (j * 2) (by rw [cellsP_len]; omega)
      rw [this, ← List.getElem?_eq_getElem, cellsP_0 xs j hj]
    · have := hc (j * 2 + 1) (by rw [cellsP_len]; omega)
      rw [show o + j * 2 + 1 = o + (j * 2 + 1) from by omega, this, ← List.getElem?_eq_getElem, cellsP_1 xs j hj]
/-- A slice of pairs opened, without a parting. -/
theorem rdPk {w : World} {v : Value} {xs : List (Int × Int)} (h : RdP w v xs) : ∃ A c, v = .slice A xs.length c ∧ ∀ k, k < xs.length → ∃ b o, A = some ⟨b, o, none⟩ ∧ b < w.heap.size ∧
    ∀ j, (hj : j < xs.length) → w.cell? ⟨b, o + j * 2, none⟩ = some (.int .i64 xs[j].1) ∧ w.cell? ⟨b, o + j * 2 + 1, none⟩ = some (.int .i64 xs[j].2) := by
  obtain ⟨A, c, rfl, g⟩ := rdP h
  refine ⟨A, c, rfl, fun k hk => ?_⟩
  rcases g with rfl | g
  · simp at hk
  · exact g
end Go.Proofs.YtgbpomakomddjabGreatDoor
end

section
namespace Go.Proofs.YtgbpomakomddjabGreatDoor
open Go.RowKit

inductive Tr where
  | one (x : Value)
  | agg (ts : List Tr)
  | row (e : TypeId) (s n : Nat) (cs : List Tr)

mutual
/-- The value reads as the tree. -/
def Tr.rd (w : World) : Tr → Value → Prop
  | .one x, v => v = x
  | .agg ts, v => ∃ vs : List Value, v = .agg ⟨vs⟩ ∧ rdL w ts vs
  | .row _ s n cs, v => ∃ vs, RdN s w v n vs ∧ rdL w cs vs
def rdL (w : World) : List Tr → List Value → Prop
  | [], vs => vs = []
  | t :: ts, vs => ∃ v us, vs = v :: us ∧ t.rd w v ∧ rdL w ts us
end
mutual
/-- The value reads as the tree, and the blocks F, from B on, are its own. -/
def Tr.own (w : World) (B : Nat) : Tr → Value → List Nat → Prop
  | .one x, v, F => v = x ∧ F = []
  | .agg ts, v, F => ∃ vs : List Value, v = .agg ⟨vs⟩ ∧ ownL w B ts vs F
  | .row e s n cs, v, F => ∃ vs G, w.ownsRow B e s v n vs ∧ ownL w B cs vs G ∧ F = v.ownBlock.toList ++ G
def ownL (w : World) (B : Nat) : List Tr → List Value → List Nat → Prop
  | [], vs, F => vs = [] ∧ F = []
  | t :: ts, vs, F => ∃ v us G H, vs = v :: us ∧ t.own w B v G ∧ ownL w B ts us H ∧ F = G ++ H
end

mutual
theorem Tr.rd_below {w w' : World} {B : Nat} (hb : Below B w w') (hB : w.heap.size ≤ B) : ∀ (t : Tr) (v : Value), t.rd w v → t.rd w' v
  | .one _, _, h => h
  | .agg ts, _, ⟨vs, h, g⟩ => ⟨vs, h, rdL_below hb hB ts vs g⟩
  | .row _ _ _ cs, _, ⟨vs, h, g⟩ => ⟨vs, h.below hb hB, rdL_below hb hB cs vs g⟩
theorem rdL_below {w w' : World} {B : Nat} (hb : Below B w w') (hB : w.heap.size ≤ B) : ∀ (ts : List Tr) (vs : List Value), rdL w ts vs → rdL w' ts vs
  | [], _, h => h
  | t :: ts, _, ⟨v, us, h, g, k⟩ => ⟨v, us, h, t.rd_below hb hB v g, rdL_below hb hB ts us k⟩
end

theorem own_le {w : World} {B : Nat} {e : TypeId} {s : Nat} {v : Value} {n : Nat} {xs : List Value} (h : w.ownsRow B e s v n xs) : n ≤ maxLen := by
  rcases h.2 with ⟨_, rfl⟩ | ⟨g, cap, cur, _, _, _, hnc, hcm, _⟩
  · unfold maxLen; omega
  · omega
theorem own_keep1 {w w' : World} {B : Nat} {e : TypeId} {s : Nat} {v : Value} {n : Nat} {xs : List Value} (h : w.ownsRow B e s v n xs) (hk : ∀ k, v.ownBlock = some k → w'.heap[k]? = w.heap[k]?) : w'.ownsRow B e s v n xs := by
  refine ⟨h.1, ?_⟩
  rcases h.2 with h | ⟨g, cap, cur, rfl, hg, hh, rest⟩
  · exact .inl h
  · exact .inr ⟨g, cap, cur, rfl, hg, (hk g rfl).trans hh, rest⟩
theorem own_baseN {w : World} {B B' : Nat} {e : TypeId} {s : Nat} {v : Value} {n : Nat} {xs : List Value} (h : w.ownsRow B e s v n xs) (hb : B' ≤ B) : w.ownsRow B' e s v n xs := by
  refine ⟨h.1, ?_⟩
  rcases h.2 with h | ⟨g, cap, cur, h1, h2, h3⟩
  · exact .inl h
  · exact .inr ⟨g, cap, cur, h1, Nat.le_trans hb h2, h3⟩
theorem mem_own {v : Value} {k : Nat} : k ∈ v.ownBlock.toList ↔ v.ownBlock = some k := by
  cases v.ownBlock <;> simp [eq_comm]

mutual
theorem Tr.own_rd {w : World} {B : Nat} : ∀ (t : Tr) (v : Value) (F : List Nat), t.own w B v F → t.rd w v
  | .one _, _, _, h => h.1
  | .agg ts, _, F, ⟨vs, h, g⟩ => ⟨vs, h, ownL_rd ts vs F g⟩
  | .row _ _ _ cs, _, _, ⟨vs, G, h, g, _⟩ => ⟨vs, own_rdN h (own_le h), ownL_rd cs vs G g⟩
theorem ownL_rd {w : World} {B : Nat} : ∀ (ts : List Tr) (vs : List Value) (F : List Nat), ownL w B ts vs F → rdL w ts vs
  | [], _, _, h => h.1
  | t :: ts, _, _, ⟨v, us, G, H, h, g, k, _⟩ => ⟨v, us, h, t.own_rd v G g, ownL_rd ts us H k⟩
end
mutual
theorem Tr.own_lt {w : World} {B : Nat} : ∀ (t : Tr) (v : Value) (F : List Nat), t.own w B v F → ∀ k ∈ F, B ≤ k ∧ k < w.heap.size
  | .one _, _, _, h => by intro k hk; rw [h.2] at hk; simp at hk
  | .agg ts, _, F, ⟨vs, _, g⟩ => ownL_lt ts vs F g
  | .row _ _ _ cs, v, _, ⟨vs, G, h, g, hF⟩ => by
    intro k hk
    rw [hF, List.mem_append, mem_own] at hk
    rcases hk with hk | hk
    · exact h.lt k hk
    · exact ownL_lt cs vs G g k hk
theorem ownL_lt {w : World} {B : Nat} : ∀ (ts : List Tr) (vs : List Value) (F : List Nat), ownL w B ts vs F → ∀ k ∈ F, B ≤ k ∧ k < w.heap.size
  | [], _, _, h => by intro k hk; rw [h.2] at hk; simp at hk
  | t :: ts, _, _, ⟨v, us, G, H, _, g, k', hF⟩ => by
    intro k hk
    rw [hF, List.mem_append] at hk
    rcases hk with hk | hk
    · exact t.own_lt v G g k hk
    · exact ownL_lt ts us H k' k hk
end
mutual
theorem Tr.own_keep {w w' : World} {B : Nat} : ∀ (t : Tr) (v : Value) (F : List Nat), t.own w B v F → (∀ k ∈ F, w'.heap[k]? = w.heap[k]?) → t.own w' B v F
  | .one _, _, _, h, _ => h
  | .agg ts, _, F, ⟨vs, h, g⟩, hk => ⟨vs, h, ownL_keep ts vs F g hk⟩
  | .row _ _ _ cs, v, _, ⟨vs, G, h, g, hF⟩, hk => ⟨vs, G, own_keep1 h (fun k hv => hk k (by rw [hF, List.mem_append, mem_own]; exact .inl hv)), ownL_keep cs vs G g (fun k hG => hk k (by rw [hF, List.mem_append]; exact .inr hG)), hF⟩
theorem ownL_keep {w w' : World} {B : Nat} : ∀ (ts : List Tr) (vs : List Value) (F : List Nat), ownL w B ts vs F → (∀ k ∈ F, w'.heap[k]? = w.heap[k]?) → ownL w' B ts vs F
  | [], _, _, h, _ => h
  | t :: ts, _, _, ⟨v, us, G, H, h, g, k', hF⟩, hk => ⟨v, us, G, H, h, t.own_keep v G g (fun k hG => hk k (by rw [hF, List.mem_append]; exact .inl hG)), ownL_keep ts us H k' (fun k hH => hk k (by rw [hF, List.mem_append]; exact .inr hH)), hF⟩
end
mutual
theorem Tr.own_base {w : World} {B B' : Nat} (hB : B' ≤ B) : ∀ (t : Tr) (v : Value) (F : List Nat), t.own w B v F → t.own w B' v F
  | .one _, _, _, h => h
  | .agg ts, _, F, ⟨vs, h, g⟩ => ⟨vs, h, ownL_base hB ts vs F g⟩
  | .row _ _ _ cs, _, _, ⟨vs, G, h, g, hF⟩ => ⟨vs, G, own_baseN h hB, ownL_base hB cs vs G g, hF⟩
theorem ownL_base {w : World} {B B' : Nat} (hB : B' ≤ B) : ∀ (ts : List Tr) (vs : List Value) (F : List Nat), ownL w B ts vs F → ownL w B' ts vs F
  | [], _, _, h => h
  | t :: ts, _, _, ⟨v, us, G, H, h, g, k', hF⟩ => ⟨v, us, G, H, h, t.own_base hB v G g, ownL_base hB ts us H k', hF⟩
end

theorem rdL_len {w : World} : ∀ {ts : List Tr} {vs : List Value}, rdL w ts vs → vs.length = ts.length
  | [], _, h => by rw [h]; rfl
  | _ :: _, _, ⟨_, _, h, _, k⟩ => by rw [h]; simp [rdL_len k]
theorem rdL_app {w : World} : ∀ {ts us : List Tr} {vs xs : List Value}, rdL w ts vs → rdL w us xs → rdL w (ts ++ us) (vs ++ xs)
  | [], _, _, _, h, k => by rw [h]; exact k
  | _ :: _, _, _, _, ⟨v, vs, h, g, k⟩, k2 => ⟨v, vs ++ _, by rw [h]; rfl, g, rdL_app k k2⟩
theorem rdL_split {w : World} : ∀ {ts us : List Tr} {vs : List Value}, rdL w (ts ++ us) vs → ∃ xs ys, vs = xs ++ ys ∧ rdL w ts xs ∧ rdL w us ys
  | [], _, vs, h => ⟨[], vs, rfl, rfl, h⟩
  | _ :: _, _, _, ⟨v, vs, h, g, k⟩ => by
    obtain ⟨xs, ys, e, h1, h2⟩ := rdL_split k
    exact ⟨v :: xs, ys, by rw [h, e]; rfl, ⟨v, xs, rfl, g, h1⟩, h2⟩
theorem rdL_get {w : World} : ∀ {ts : List Tr} {vs : List Value} {i : Nat} {t : Tr}, rdL w ts vs → ts[i]? = some t → ∃ v, vs[i]? = some v ∧ t.rd w v
  | _ :: _, _, 0, _, ⟨v, _, h, g, _⟩, hi => by simp at hi; subst hi; exact ⟨v, by rw [h]; rfl, g⟩
  | _ :: _, _, i + 1, _, ⟨_, _, h, _, k⟩, hi => by
    obtain ⟨v, h1, h2⟩ := rdL_get k (i := i) (by simpa using hi)
    exact ⟨v, by rw [h]; simpa using h1, h2⟩
theorem ownL_len {w : World} {B : Nat} : ∀ {ts : List Tr} {vs : List Value} {F : List Nat}, ownL w B ts vs F → vs.length = ts.length := fun h => rdL_len (ownL_rd _ _ _ h)

/-- One tree of a list in focus: it may be replaced. -/
theorem ownL_focus {w : World} {B : Nat} : ∀ {ts : List Tr} {vs : List Value} {F : List Nat} {i : Nat} {t : Tr}, ownL w B ts vs F → ts[i]? = some t →
    ∃ v G F1 F2, vs[i]? = some v ∧ t.own w B v G ∧ F = F1 ++ (G ++ F2) ∧ ∀ (w' : World) (t' : Tr) (v' : Value) (G' : List Nat), t'.own w' B v' G' → (∀ k, k ∈ F1 ∨ k ∈ F2 → w'.heap[k]? = w.heap[k]?) → ownL w' B (ts.set i t') (vs.set i v') (F1 ++ (G' ++ F2))
  | _ :: ts, _, _, 0, t, ⟨v, us, G, H, h, g, k, hF⟩, hi => by
    simp at hi
    subst hi
    refine ⟨v, G, [], H, by rw [h]; rfl, g, by simpa using hF, fun w' t' v' G' ho hk => ?_⟩
    exact ⟨v', us, G', H, by rw [h]; rfl, ho, ownL_keep ts us H k (fun j hj => hk j (.inr hj)), by simp⟩
  | t0 :: ts, _, _, i + 1, t, ⟨v, us, G, H, h, g, k, hF⟩, hi => by
    obtain ⟨v1, G1, F1, F2, h1, h2, h3, h4⟩ := ownL_focus k (i := i) (by simpa using hi)
    refine ⟨v1, G1, G ++ F1, F2, by rw [h]; simpa using h1, h2, by rw [hF, h3, List.append_assoc], fun w' t' v' G' ho hk => ?_⟩
    refine ⟨v, us.set i v', G, F1 ++ (G' ++ F2), by rw [h]; rfl, t0.own_keep v G g (fun j hj => hk j (.inl (by simp [hj]))), h4 w' t' v' G' ho (fun j hj => hk j ?_), by simp⟩
    rcases hj with hj | hj
    · exact .inl (by simp [hj])
    · exact .inr hj

/-- Only the blocks F, and what is new, have turned. -/
structure Wr (F : List Nat) (w w' : World) : Prop where
  os : w'.os = w.os
  tape : w'.tape = w.tape
  output : w'.output = w.output
  size : w.heap.size ≤ w'.heap.size
  block : ∀ k, k < w.heap.size → k ∉ F → w'.heap[k]? = w.heap[k]?
theorem Wr.refl (F : List Nat) (w : World) : Wr F w w := ⟨rfl, rfl, rfl, Nat.le_refl _, fun _ _ _ => rfl⟩
theorem Wr.trans {F : List Nat} {a b c : World} (h : Wr F a b) (k : Wr F b c) : Wr F a c :=
  ⟨k.os.trans h.os, k.tape.trans h.tape, k.output.trans h.output, Nat.le_trans h.size k.size, fun i hi hr => (k.block i (by have := h.size; omega) hr).trans (h.block i hi hr)⟩
theorem Wr.sub {F G : List Nat} {a b : World} (h : Wr F a b) (hs : ∀ k ∈ F, k ∈ G) : Wr G a b := ⟨h.os, h.tape, h.output, h.size, fun i hi hr => h.block i hi (fun e => hr (hs i e))⟩
theorem Wr.of_below {F : List Nat} {a b : World} {B : Nat} (h : Below B a b) (hB : a.heap.size ≤ B) : Wr F a b := ⟨h.os, h.tape, h.output, h.size, fun i hi _ => h.block i (by omega)⟩
theorem Wr.of_grown {a b : World} {row : Option Nat} (h : a.grownBy b row) : Wr row.toList a b := ⟨h.os, h.tape, h.output, h.size, fun i hi hr => h.block i hi (fun e => hr (by rw [← e]; simp))⟩
theorem Wr.below {F : List Nat} {w0 a b : World} {B : Nat} (h : Below B w0 a) (hw : Wr F a b) (hB : B ≤ a.heap.size) (hF : ∀ k ∈ F, B ≤ k) : Below B w0 b :=
  ⟨hw.os.trans h.os, hw.tape.trans h.tape, hw.output.trans h.output, Nat.le_trans h.size hw.size, fun i hi => (hw.block i (by omega) (fun e => by have := hF i e; omega)).trans (h.block i hi)⟩
theorem Wr.setCell (w : World) {F : List Nat} (p : Addr) (hp : p.block ∈ F) (u : Value) : Wr F w (w.setCell p u) :=
  ⟨rfl, rfl, rfl, by simp [World.setCell], fun i _ hne => Below.heap_setCell w p u i (fun e => hne (by rw [e]; exact hp))⟩

theorem nodup_mid {F1 G F2 : List Nat} (h : (F1 ++ (G ++ F2)).Nodup) : G.Nodup ∧ (∀ k ∈ G, k ∉ F1 ∧ k ∉ F2) ∧ ∀ G' : List Nat, G'.Nodup → (∀ k ∈ G', k ∉ F1 ∧ k ∉ F2) → (F1 ++ (G' ++ F2)).Nodup := by
  simp only [List.nodup_append, List.mem_append] at h ⊢
  obtain ⟨h1, ⟨h2, h3, h4⟩, h5⟩ := h
  refine ⟨h2, fun k hk => ⟨fun e => h5 k e k (.inl hk) rfl, fun e => h4 k hk k e rfl⟩, fun G' hn hd => ⟨h1, ⟨hn, h3, fun a ha b hb e => (hd a ha).2 (e ▸ hb)⟩, fun a ha b hb e => ?_⟩⟩
  rcases hb with hb | hb
  · exact (hd b hb).1 (e ▸ ha)
  · exact h5 a ha b (.inr hb) e

/-- An own row at an address. -/
abbrev RowAt (w : World) (B : Nat) (e : TypeId) (s n g cap : Nat) (cs : List Tr) (F : List Nat) : Prop := (Tr.row e s n cs).own w B (.slice (some ⟨g, 0, none⟩) n cap) F ∧ F.Nodup

theorem RowAt.len {w : World} {B : Nat} {e : TypeId} {s n g cap : Nat} {cs : List Tr} {F : List Nat} (h : RowAt w B e s n g cap cs F) : cs.length = n * s := by
  obtain ⟨⟨vs, G, h1, h2, _⟩, _⟩ := h
  rw [← ownL_len h2]; exact h1.1
theorem RowAt.lt {w : World} {B : Nat} {e : TypeId} {s n g cap : Nat} {cs : List Tr} {F : List Nat} (h : RowAt w B e s n g cap cs F) : B ≤ g ∧ g < w.heap.size := by
  obtain ⟨⟨vs, G, h1, h2, _⟩, _⟩ := h
  exact h1.lt g rfl
theorem RowAt.mem {w : World} {B : Nat} {e : TypeId} {s n g cap : Nat} {cs : List Tr} {F : List Nat} (h : RowAt w B e s n g cap cs F) : g ∈ F := by
  obtain ⟨⟨vs, G, _, _, hF⟩, _⟩ := h
  rw [hF]; simp [Value.ownBlock]
/-- What a cell of an own row holds. -/
theorem RowAt.cell {w : World} {B : Nat} {e : TypeId} {s n g cap : Nat} {cs : List Tr} {F : List Nat} (h : RowAt w B e s n g cap cs F) {i : Nat} {t : Tr} (hi : cs[i]? = some t) :
    ∃ x H, w.cell? ⟨g, i, none⟩ = some x ∧ w.frozen? ⟨g, i, none⟩ = false ∧ t.own w B x H ∧ H.Nodup ∧ (∀ k ∈ H, k ∈ F ∧ k ≠ g) := by
  have hlen := h.len
  obtain ⟨⟨vs, G, h1, h2, hF⟩, hn⟩ := h
  obtain ⟨x, H, F1, F2, hx, ho, hG, _⟩ := ownL_focus h2 hi
  rw [hF, hG] at hn
  simp only [Value.ownBlock, Option.toList] at hn
  have hn' : (([g] ++ F1) ++ (H ++ F2)).Nodup := by simpa using hn
  obtain ⟨m1, m2, _⟩ := nodup_mid hn'
  have hil : i < cs.length := (List.getElem?_eq_some_iff.1 hi).1
  refine ⟨x, H, ?_, h1.frozenAt i, ho, m1, fun k hk => ⟨?_, fun e => (m2 k hk).1 (by simp [e])⟩⟩
  · rw [h1.cellAt i (by omega), hx]
  · rw [hF, hG]; simp [hk]
/-- A cell of an own row written, with a tree whose blocks are not the row's. -/
theorem RowAt.put {w : World} {B : Nat} {e : TypeId} {s n g cap : Nat} {cs : List Tr} {F : List Nat} (h : RowAt w B e s n g cap cs F) {i : Nat} (hi : i < cs.length) {t' : Tr} {x' : Value} {H' : List Nat}
    (ho : t'.own w B x' H') (hn' : H'.Nodup) (hd : ∀ k ∈ H', k ∉ F) :
    ∃ F', RowAt (w.setCell ⟨g, i, none⟩ x') B e s n g cap (cs.set i t') F' ∧ (∀ k ∈ F', k ∈ F ∨ k ∈ H') := by
  have hgF := h.mem
  obtain ⟨⟨vs, G, h1, h2, hF⟩, hn⟩ := h
  obtain ⟨x, H, F1, F2, hx, _, hG, hback⟩ := ownL_focus h2 (List.getElem?_eq_getElem hi)
  rw [hF, hG] at hn
  simp only [Value.ownBlock, Option.toList] at hn
  have hn2 : (([g] ++ F1) ++ (H ++ F2)).Nodup := by simpa using hn
  obtain ⟨m1, m2, m3⟩ := nodup_mid hn2
  have hsub : ∀ k, k ∈ g :: F1 ∨ k ∈ F2 → k ∈ F := by
    intro k hk; rw [hF, hG]; simp only [Value.ownBlock, Option.toList, List.mem_append, List.mem_cons, List.not_mem_nil] at hk ⊢
    rcases hk with (rfl | hk) | hk
    · exact .inl (.inl rfl)
    · exact .inr (.inl hk)
    · exact .inr (.inr (.inr hk))
  have hm3 := m3 H' hn' (fun k hk => ⟨fun e => hd k hk (hsub k (.inl (by simpa using e))), fun e => hd k hk (hsub k (.inr e))⟩)
  have hgH : g ∉ H' := fun e => hd g e hgF
  have hgF1 : g ∉ F1 ∧ g ∉ F2 := by
    have hn3 := hn
    simp only [List.singleton_append, List.nodup_cons, List.mem_append, not_or] at hn3
    exact ⟨hn3.1.1, hn3.1.2.2⟩
  have hs := (h1.stored i x').1
  refine ⟨([g] ++ F1) ++ (H' ++ F2), ⟨⟨vs.set i x', F1 ++ (H' ++ F2), hs, hback _ t' x' H' ?_ ?_, by simp [Value.ownBlock]⟩, hm3⟩, fun k hk => ?_⟩
  · exact t'.own_keep x' H' ho (fun k hk => Below.heap_setCell w _ _ k (fun e => hgH (by have e' : k = g := e; exact e' ▸ hk)))
  · intro k hk
    refine Below.heap_setCell w _ _ k (fun e => ?_)
    have e' : k = g := e
    subst e'
    rcases hk with hk | hk
    · exact hgF1.1 hk
    · exact hgF1.2 hk
  · simp only [List.mem_append, List.mem_cons, List.not_mem_nil, or_false] at hk
    rcases hk with (rfl | hk) | hk | hk
    · exact .inl hgF
    · exact .inl (hsub k (.inl (by simp [hk])))
    · exact .inr hk
    · exact .inl (hsub k (.inr hk))
/-- A plain cell of an own row written. -/
theorem RowAt.put1 {w : World} {B : Nat} {e : TypeId} {s n g cap : Nat} {cs : List Tr} {F : List Nat} (h : RowAt w B e s n g cap cs F) {i : Nat} (hi : i < cs.length) (y : Value) :
    ∃ F', RowAt (w.setCell ⟨g, i, none⟩ y) B e s n g cap (cs.set i (.one y)) F' ∧ (∀ k ∈ F', k ∈ F) := by
  obtain ⟨F', h1, h2⟩ := h.put hi (t' := .one y) (x' := y) (H' := []) ⟨rfl, rfl⟩ (by simp) (by simp)
  exact ⟨F', h1, fun k hk => by simpa using h2 k hk⟩
/-- What lies behind a cell of an own row has turned. -/
theorem RowAt.turn {w w' : World} {B : Nat} {e : TypeId} {s n g cap : Nat} {cs : List Tr} {F : List Nat} (h : RowAt w B e s n g cap cs F) {i : Nat} {t : Tr} (hi : cs[i]? = some t) :
    ∃ x H, w.cell? ⟨g, i, none⟩ = some x ∧ t.own w B x H ∧ H.Nodup ∧ (∀ k ∈ H, k ∈ F ∧ k ≠ g) ∧ ∀ (t' : Tr) (H' : List Nat), t'.own w' B x H' → H'.Nodup → (∀ k ∈ H', k ∈ H) → Wr H w w' →
      ∃ F', RowAt w' B e s n g cap (cs.set i t') F' ∧ (∀ k ∈ F', k ∈ F) := by
  have hlen := h.len
  have hlt := h.lt
  have hgF := h.mem
  have hall := Tr.own_lt _ _ _ h.1
  obtain ⟨⟨vs, G, h1, h2, hF⟩, hn⟩ := h
  obtain ⟨x, H, F1, F2, hx, ho, hG, hback⟩ := ownL_focus h2 hi
  rw [hF, hG] at hn
  simp only [Value.ownBlock, Option.toList] at hn
  have hn' : (([g] ++ F1) ++ (H ++ F2)).Nodup := by simpa using hn
  obtain ⟨m1, m2, m3⟩ := nodup_mid hn'
  have hil : i < cs.length := (List.getElem?_eq_some_iff.1 hi).1
  have hsub : ∀ k, k ∈ g :: F1 ∨ k ∈ F2 ∨ k ∈ H → k ∈ F := by
    intro k hk; rw [hF, hG]; simp only [Value.ownBlock, Option.toList, List.mem_append, List.mem_cons, List.not_mem_nil] at hk ⊢
    rcases hk with (rfl | hk) | hk | hk
    · exact .inl (.inl rfl)
    · exact .inr (.inl hk)
    · exact .inr (.inr (.inr hk))
    · exact .inr (.inr (.inl hk))
  refine ⟨x, H, by rw [h1.cellAt i (by omega), hx], ho, m1, fun k hk => ⟨hsub k (.inr (.inr hk)), fun e => (m2 k hk).1 (by simp [e])⟩, fun t' H' ho' hn2 hs hw => ?_⟩
  have hkeep : ∀ k, k ∈ g :: F1 ∨ k ∈ F2 → w'.heap[k]? = w.heap[k]? := by
    intro k hk
    refine hw.block k (hall k (hsub k (hk.imp id .inl))).2 (fun e => ?_)
    rcases hk with hk | hk
    · exact (m2 k e).1 (by simpa using hk)
    · exact (m2 k e).2 hk
  refine ⟨([g] ++ F1) ++ (H' ++ F2), ⟨⟨vs, F1 ++ (H' ++ F2), own_keep1 h1 (fun k hk => ?_), ?_, by simp [Value.ownBlock]⟩, m3 H' hn2 (fun k hk => m2 k (hs k hk))⟩, fun k hk => ?_⟩
  · simp only [Value.ownBlock, Option.some.injEq] at hk
    exact hkeep k (.inl (by simp [hk]))
  · have := hback w' t' x H' ho' (fun k hk => hkeep k (hk.imp (fun h => by simp [h]) id))
    rwa [show vs.set i x = vs from by
      obtain ⟨hj, he⟩ := List.getElem?_eq_some_iff.1 hx
      exact he ▸ List.set_getElem_self hj] at this
  · simp only [List.mem_append, List.mem_cons, List.not_mem_nil, or_false] at hk
    rcases hk with (rfl | hk) | hk | hk
    · exact hgF
    · exact hsub k (.inl (by simp [hk]))
    · exact hsub k (.inr (.inr (hs k hk)))
    · exact hsub k (.inr (.inl hk))

/-- A walk's own trees, side by side. -/
structure Item where
  t : Tr
  v : Value
  F : List Nat
def Items (w : World) (B : Nat) : List Item → Prop
  | [] => True
  | r :: rs => r.t.own w B r.v r.F ∧ r.F.Nodup ∧ (∀ s ∈ rs, ∀ k ∈ r.F, k ∉ s.F) ∧ Items w B rs
theorem Items.keep {w w' : World} {B : Nat} : ∀ {L : List Item}, Items w B L → (∀ s ∈ L, ∀ k ∈ s.F, w'.heap[k]? = w.heap[k]?) → Items w' B L
  | [], _, _ => trivial
  | r :: _, h, hk => ⟨r.t.own_keep _ _ h.1 (hk r (by simp)), h.2.1, h.2.2.1, h.2.2.2.keep (fun s hs => hk s (by simp [hs]))⟩
theorem Items.lt {w : World} {B : Nat} : ∀ {L : List Item}, Items w B L → ∀ r ∈ L, ∀ k ∈ r.F, B ≤ k ∧ k < w.heap.size
  | r0 :: _, h, r, hr, k, hk => by
    rcases List.mem_cons.1 hr with rfl | hr
    · exact r.t.own_lt _ _ h.1 k hk
    · exact h.2.2.2.lt r hr k hk
theorem Items.at {w : World} {B : Nat} : ∀ {L : List Item} {i : Nat} {r : Item}, Items w B L → L[i]? = some r → r.t.own w B r.v r.F ∧ r.F.Nodup
  | _ :: _, 0, _, h, hr => by simp at hr; subst hr; exact ⟨h.1, h.2.1⟩
  | _ :: _, _ + 1, _, h, hr => h.2.2.2.at (by simpa using hr)
theorem Items.mark {w w' : World} {B : Nat} {t t' : Tr} {v v' : Value} {F F' : List Nat} (ho : t'.own w' B v' F') (hn : F'.Nodup) (hs : ∀ k ∈ F', k ∈ F) (hw : Wr F w w') : ∀ {L : List Item} {i : Nat}, Items w B L → L[i]? = some ⟨t, v, F⟩ → Items w' B (L.set i ⟨t', v', F'⟩)
  | r :: rs, 0, h, hr => by
    simp at hr; subst hr
    have hlt := h.2.2.2.lt
    exact ⟨ho, hn, fun s hs' k hk => h.2.2.1 s hs' k (hs k hk), h.2.2.2.keep (fun s hs' k hk => hw.block k (hlt s hs' k hk).2 (fun e => h.2.2.1 s hs' k e hk))⟩
  | r :: rs, i + 1, h, hr => by
    have hr' : rs[i]? = some ⟨t, v, F⟩ := by simpa using hr
    have hmem := List.mem_of_getElem? hr'
    have hlt := r.t.own_lt _ _ h.1
    refine ⟨r.t.own_keep _ _ h.1 (fun k hk => hw.block k (hlt k hk).2 (fun e => h.2.2.1 _ hmem k hk e)), h.2.1, ?_, h.2.2.2.mark ho hn hs hw hr'⟩
    intro s hs' k hk
    rcases List.mem_or_eq_of_mem_set hs' with hs' | rfl
    · exact h.2.2.1 s hs' k hk
    · exact fun e => h.2.2.1 _ hmem k hk (hs k e)
theorem Items.base {w : World} {B B' : Nat} (hB : B' ≤ B) : ∀ {L : List Item}, Items w B L → Items w B' L
  | [], _ => trivial
  | r :: _, h => ⟨r.t.own_base hB _ _ h.1, h.2.1, h.2.2.1, h.2.2.2.base hB⟩

/-- From w0 the walk came to w: below w0's size nothing changed, and the trees L are the walk's own. -/
def Sn (w0 w : World) (L : List Item) : Prop := Below w0.heap.size w0 w ∧ Items w w0.heap.size L
theorem Sn.start (w : World) : Sn w w [] := ⟨Below.refl _ _, trivial⟩
theorem Sn.go {w0 w w' : World} {L : List Item} (h : Sn w0 w L) (hb : Below w.heap.size w w') : Sn w0 w' L := ⟨h.1.trans (hb.mono h.1.size), h.2.keep (fun s hs k hk => hb.block k (h.2.lt s hs k hk).2)⟩
theorem Sn.drew {w0 w : World} {L : List Item} (h : Sn w0 w L) (n : Nat) : Sn w0 (w.drewN n) L := h.go (below_drewN' w n)
theorem Sn.new {w0 w w' : World} {L : List Item} {t : Tr} {v : Value} {F : List Nat} (h : Sn w0 w L) (o : t.own w' w.heap.size v F) (hn : F.Nodup) (hb : Below w.heap.size w w') : Sn w0 w' (⟨t, v, F⟩ :: L) :=
  ⟨h.1.trans (hb.mono h.1.size), t.own_base h.1.size _ _ o, hn, fun s hs k hk hk2 => by
    have h1 := (t.own_lt _ _ o k hk).1
    have h2 := (h.2.lt s hs k hk2).2
    omega, h.2.keep (fun s hs k hk => hb.block k (h.2.lt s hs k hk).2)⟩
theorem Sn.own {w0 w : World} {L : List Item} {t : Tr} {v : Value} {F : List Nat} (h : Sn w0 w L) (i : Nat) (hr : L[i]? = some ⟨t, v, F⟩) : t.own w w0.heap.size v F ∧ F.Nodup := h.2.at hr
theorem Sn.rd {w0 w : World} {L : List Item} {t : Tr} {v : Value} {F : List Nat} (h : Sn w0 w L) (i : Nat) (hr : L[i]? = some ⟨t, v, F⟩) : t.rd w v := t.own_rd _ _ (h.own i hr).1
theorem Sn.mark {w0 w w' : World} {L : List Item} {t t' : Tr} {v v' : Value} {F F' : List Nat} (h : Sn w0 w L) (i : Nat) (hr : L[i]? = some ⟨t, v, F⟩) (ho : t'.own w' w0.heap.size v' F') (hn : F'.Nodup) (hs : ∀ k ∈ F', k ∈ F) (hw : Wr F w w') : Sn w0 w' (L.set i ⟨t', v', F'⟩) :=
  ⟨hw.below h.1 h.1.size (fun k hk => ((Tr.own_lt _ _ _ (h.own i hr).1) k hk).1), h.2.mark ho hn hs hw hr⟩
/-- What came in stays as it was. -/
theorem Sn.old {w0 w : World} {L : List Item} {t : Tr} {v : Value} (h : Sn w0 w L) (hr : t.rd w0 v) : t.rd w v := t.rd_below h.1 (Nat.le_refl _) v hr

theorem Tr.own_setCell {w : World} {B : Nat} {t : Tr} {v : Value} {F : List Nat} (h : t.own w B v F) {p : Addr} (hp : p.block < B) (x : Value) : t.own (w.setCell p x) B v F :=
  t.own_keep v F h (fun k hk => Below.heap_setCell w p x k (fun e => by have := (t.own_lt v F h k hk).1; omega))
theorem Tr.own_below {w w' : World} {B K : Nat} {t : Tr} {v : Value} {F : List Nat} (h : t.own w B v F) (hb : Below K w w') (hK : w.heap.size ≤ K) : t.own w' B v F :=
  t.own_keep v F h (fun k hk => hb.block k (by have := (t.own_lt v F h k hk).2; omega))
theorem Tr.own_alloc {w : World} {B : Nat} {t : Tr} {v : Value} {F : List Nat} (h : t.own w B v F) (o : Obj) : t.own (w.alloc o) B v F :=
  Tr.own_below h ((Below.refl w.heap.size w).alloc (Nat.le_refl _) o) (Nat.le_refl _)

theorem nodup_apart {F G : List Nat} {K : Nat} (hF : F.Nodup) (hG : G.Nodup) (h1 : ∀ k ∈ F, k < K) (h2 : ∀ k ∈ G, K ≤ k) : (F ++ G).Nodup :=
  List.nodup_append.2 ⟨hF, hG, fun a ha b hb e => by have := h1 a ha; have := h2 b hb; omega⟩

-- Rows of plain cells.
theorem rdL_ones {w : World} : ∀ {xs vs : List Value}, rdL w (xs.map .one) vs ↔ vs = xs
  | [], _ => Iff.rfl
  | x :: xs, vs => by
    constructor
    · rintro ⟨v, us, rfl, hv, h⟩
      rw [rdL_ones.1 h]; exact congrArg (· :: xs) hv
    · rintro rfl
      exact ⟨x, xs, rfl, rfl, rdL_ones.2 rfl⟩
theorem ownL_ones {w : World} {B : Nat} : ∀ {xs vs : List Value} {F : List Nat}, ownL w B (xs.map .one) vs F ↔ vs = xs ∧ F = []
  | [], _, _ => Iff.rfl
  | x :: xs, vs, F => by
    constructor
    · rintro ⟨v, us, G, H, rfl, hv, h, rfl⟩
      obtain ⟨h1, h2⟩ := ownL_ones.1 h
      exact ⟨by rw [h1]; exact congrArg (· :: xs) hv.1, by rw [hv.2, h2]; rfl⟩
    · rintro ⟨rfl, rfl⟩
      exact ⟨x, xs, [], [], rfl, ⟨rfl, rfl⟩, ownL_ones.2 ⟨rfl, rfl⟩, rfl⟩
/-- A row of plain cells. -/
def flat (e : TypeId) (xs : List Value) : Tr := .row e 1 xs.length (xs.map .one)
theorem rd_flat {w : World} {e : TypeId} {xs : List Value} {v : Value} (h : (flat e xs).rd w v) : Rd w v xs := by
  obtain ⟨vs, ⟨hl, _, A, c, rfl, h⟩, hv⟩ := h
  have hv' := rdL_ones.1 hv
  subst hv'
  refine ⟨hl, A, c, rfl, ?_⟩
  rcases h with h | h
  · exact .inl (List.eq_nil_of_length_eq_zero h)
  · exact .inr h
theorem flat_rd {w : World} {e : TypeId} {xs : List Value} {v : Value} (h : Rd w v xs) : (flat e xs).rd w v := by
  obtain ⟨hl, A, c, rfl, h⟩ := h
  refine ⟨xs, ⟨hl, by simp, A, c, rfl, ?_⟩, rdL_ones.2 rfl⟩
  rcases h with rfl | h
  · exact .inl rfl
  · exact .inr h
theorem flat_own {w : World} {B : Nat} {e : TypeId} {n : Nat} {xs : List Value} {v : Value} (h : w.ownsRow B e 1 v n xs) : (flat e xs).own w B v v.ownBlock.toList ∧ v.ownBlock.toList.Nodup := by
  obtain rfl := own_len h
  exact ⟨⟨xs, [], h, ownL_ones.2 ⟨rfl, rfl⟩, by simp⟩, by cases v.ownBlock <;> simp⟩
theorem own_flat {w : World} {B : Nat} {e : TypeId} {xs : List Value} {v : Value} {F : List Nat} (h : (flat e xs).own w B v F) : w.ownsRow B e 1 v xs.length xs ∧ F = v.ownBlock.toList := by
  obtain ⟨vs, G, ho, hv, hF⟩ := h
  obtain ⟨rfl, rfl⟩ := ownL_ones.1 hv
  exact ⟨ho, by simpa using hF⟩

-- Slices of structs: s cells an element.
theorem flatMap_len {α : Type} {f : α → List Tr} {s : Nat} (hs : ∀ x, (f x).length = s) : ∀ xs : List α, (xs.flatMap f).length = xs.length * s
  | [] => by simp
  | x :: xs => by simp [flatMap_len hs xs, hs, Nat.succ_mul]; omega
theorem flatMap_get {α : Type} {f : α → List Tr} {s : Nat} (hs : ∀ x, (f x).length = s) : ∀ (xs : List α) (j : Nat) (h : j < xs.length) (i : Nat), i < s → (xs.flatMap f)[j * s + i]? = (f xs[j])[i]?
  | x :: xs, 0, _, i, hi => by
    simp only [List.flatMap_cons, Nat.zero_mul, Nat.zero_add, List.getElem_cons_zero]
    rw [List.getElem?_append_left (by rw [hs]; exact hi)]
  | x :: xs, j + 1, h, i, hi => by
    have := flatMap_get hs xs j (by simpa using h) i hi
    rw [List.flatMap_cons, List.getElem?_append_right (by rw [hs, Nat.succ_mul]; omega), hs, show (j + 1) * s + i - s = j * s + i from by rw [Nat.succ_mul]; omega, this]
    simp
theorem flatMap_set {α : Type} {f : α → List Tr} {s : Nat} (hs : ∀ x, (f x).length = s) : ∀ (xs : List α) (j : Nat) (h : j < xs.length) (i : Nat), i < s → ∀ (t : Tr) (y : α), f y = (f xs[j]).set i t → (xs.flatMap f).set (j * s + i) t = (xs.set j y).flatMap f
  | x :: xs, 0, _, i, hi, t, y, hy => by
    simp only [List.flatMap_cons, Nat.zero_mul, Nat.zero_add, List.set_cons_zero, List.getElem_cons_zero] at hy ⊢
    rw [List.set_append_left _ _ (by rw [hs]; exact hi), hy]
  | x :: xs, j + 1, h, i, hi, t, y, hy => by
    have := flatMap_set hs xs j (by simpa using h) i hi t y (by simpa using hy)
    rw [List.flatMap_cons, List.set_append_right _ _ (by rw [hs, Nat.succ_mul]; omega), hs, show (j + 1) * s + i - s = j * s + i from by rw [Nat.succ_mul]; omega, this]
    simp
theorem rdL_flatMap {α : Type} {w : World} {f : α → List Tr} {s : Nat} (hs : ∀ x, (f x).length = s) : ∀ {xs : List α} {vs : List Value}, rdL w (xs.flatMap f) vs → ∀ j, (h : j < xs.length) → ∃ us, rdL w (f xs[j]) us ∧ ∀ i, i < s → vs[j * s + i]? = us[i]?
  | x :: xs, vs, h, 0, _ => by
    rw [List.flatMap_cons] at h
    obtain ⟨us, ys, rfl, h1, _⟩ := rdL_split h
    have hl := rdL_len h1
    rw [hs] at hl
    refine ⟨us, h1, fun i hi => ?_⟩
    rw [Nat.zero_mul, Nat.zero_add, List.getElem?_append_left (by omega)]
  | x :: xs, vs, h, j + 1, hj => by
    rw [List.flatMap_cons] at h
    obtain ⟨us, ys, rfl, h1, h2⟩ := rdL_split h
    have hl := rdL_len h1
    rw [hs] at hl
    obtain ⟨zs, h3, h4⟩ := rdL_flatMap hs h2 j (by simpa using hj)
    refine ⟨zs, by simpa using h3, fun i hi => ?_⟩
    rw [List.getElem?_append_right (by rw [Nat.succ_mul]; omega), hl, show (j + 1) * s + i - s = j * s + i from by rw [Nat.succ_mul]; omega, h4 i hi]
/-- A slice of elements of s cells. -/
def rows {α : Type} (e : TypeId) (s : Nat) (f : α → List Tr) (xs : List α) : Tr := .row e s xs.length (xs.flatMap f)
/-- Such a slice opened, without a parting. -/
theorem rd_rows {α : Type} {w : World} {e : TypeId} {f : α → List Tr} {s : Nat} (hs : ∀ x, (f x).length = s) {xs : List α} {v : Value} (h : (rows e s f xs).rd w v) :
    xs.length ≤ 9223372036854775807 ∧ ∃ A c, v = .slice A xs.length c ∧ ∀ k, k < xs.length → ∃ b o, A = some ⟨b, o, none⟩ ∧ b < w.heap.size ∧ ∀ j, (hj : j < xs.length) → ∃ us, rdL w (f xs[j]) us ∧ ∀ i, i < s → w.cell? ⟨b, o + (j * s + i), none⟩ = us[i]? := by
  obtain ⟨vs, ⟨hm, hl, A, c, rfl, g⟩, hv⟩ := h
  refine ⟨by unfold maxLen at hm; exact hm, A, c, rfl, fun k hk => ?_⟩
  rcases g with g | ⟨b, o, rfl, hb, hc⟩
  · omega
  · refine ⟨b, o, rfl, hb, fun j hj => ?_⟩
    obtain ⟨us, h1, h2⟩ := rdL_flatMap hs hv j hj
    refine ⟨us, h1, fun i hi => ?_⟩
    have hx : j * s + i < vs.length := by
      rw [hl]
      have : j * s + s ≤ xs.length * s := by rw [← Nat.succ_mul]; exact Nat.mul_le_mul_right _ hj
      omega
    rw [hc _ hx, ← h2 i hi, List.getElem?_eq_getElem hx]

theorem RowAt.frozen {w : World} {B : Nat} {e : TypeId} {s n g cap : Nat} {cs : List Tr} {F : List Nat} (h : RowAt w B e s n g cap cs F) (i : Nat) : w.frozen? ⟨g, i, none⟩ = false := by
  obtain ⟨⟨vs, G, h1, h2, hF⟩, hn⟩ := h
  exact h1.frozenAt i
theorem RowAt.some {w : World} {B : Nat} {e : TypeId} {s n g cap : Nat} {cs : List Tr} {F : List Nat} (h : RowAt w B e s n g cap cs F) {i : Nat} (hi : i < cs.length) : ∃ z, w.cell? ⟨g, i, none⟩ = some z := by
  obtain ⟨x, _, hx, _⟩ := h.cell (List.getElem?_eq_getElem hi)
  exact ⟨x, hx⟩
theorem RowAt.below {w w' : World} {B K : Nat} {e : TypeId} {s n g cap : Nat} {cs : List Tr} {F : List Nat} (h : RowAt w B e s n g cap cs F) (hb : Below K w w') (hK : w.heap.size ≤ K) : RowAt w' B e s n g cap cs F :=
  ⟨Tr.own_below h.1 hb hK, h.2⟩
theorem RowAt.allLt {w : World} {B : Nat} {e : TypeId} {s n g cap : Nat} {cs : List Tr} {F : List Nat} (h : RowAt w B e s n g cap cs F) : ∀ k ∈ F, B ≤ k ∧ k < w.heap.size := Tr.own_lt _ _ _ h.1
/-- Cells written one after another. -/
def setL (w : World) (g i : Nat) : List Value → World
  | [] => w
  | x :: xs => setL (w.setCell ⟨g, i, none⟩ x) g (i + 1) xs
def setT (cs : List Tr) (i : Nat) : List Tr → List Tr
  | [] => cs
  | t :: ts => setT (cs.set i t) (i + 1) ts
theorem setL_below {w0 : World} {B g : Nat} (hg : B ≤ g) : ∀ (xs : List Value) (w : World) (i : Nat), Below B w0 w → Below B w0 (setL w g i xs)
  | [], _, _, h => h
  | x :: xs, _, i, h => setL_below hg xs _ _ (h.setCell (p := ⟨g, i, none⟩) hg x)
theorem RowAt.putL {B K : Nat} (hK : B ≤ K) {e : TypeId} {s n g cap : Nat} (hg : g < K) : ∀ (ts : List Tr) (xs : List Value) (w : World) (cs : List Tr) (F H : List Nat) (i : Nat), RowAt w B e s n g cap cs F → i + ts.length ≤ cs.length → ownL w K ts xs H → H.Nodup → (∀ k ∈ H, k ∉ F) →
    ∃ F', RowAt (setL w g i xs) B e s n g cap (setT cs i ts) F' ∧ ∀ k ∈ F', k ∈ F ∨ k ∈ H
  | [], xs, _, _, F, H, _, h, _, ho, _, _ => by
    have hx : xs = [] := ho.1
    subst hx
    exact ⟨F, h, fun k hk => .inl hk⟩
  | t :: ts, xs, w, cs, F, H, i, h, hi, ⟨v, us, G, H2, hxs, g1, g2, hH⟩, hn, hd => by
    subst hxs
    subst hH
    obtain ⟨n1, n2, n3⟩ := List.nodup_append.1 hn
    obtain ⟨F1, h1, hs1⟩ := h.put (i := i) (by simp at hi; omega) (t.own_base hK v G g1) n1 (fun k hk => hd k (by simp [hk]))
    have g2' : ownL (w.setCell ⟨g, i, none⟩ v) K ts us H2 := ownL_keep ts us H2 g2 (fun k hk => Below.heap_setCell w _ _ k (fun e => by
      have e' : k = g := e
      have := (ownL_lt ts us H2 g2 k hk).1
      omega))
    obtain ⟨F', h2, hs2⟩ := RowAt.putL hK hg ts us _ _ F1 H2 (i + 1) h1 (by simp at hi ⊢; omega) g2' n2 (fun k hk hk1 => by
      rcases hs1 k hk1 with hf | hf
      · exact hd k (by simp [hk]) hf
      · exact n3 k hf k hk rfl)
    refine ⟨F', h2, fun k hk => ?_⟩
    rcases hs2 k hk with hf | hf
    · rcases hs1 k hf with hf | hf
      · exact .inl hf
      · exact .inr (by simp [hf])
    · exact .inr (by simp [hf])
theorem setT_app : ∀ (ts pre post : List Tr), ts.length ≤ post.length → setT (pre ++ post) pre.length ts = pre ++ (ts ++ post.drop ts.length)
  | [], pre, post, _ => by simp [setT]
  | t :: ts, pre, post, h => by
    match post, h with
    | p :: post, h =>
      have := setT_app ts (pre ++ [t]) post (by simpa using h)
      simp only [List.length_append, List.length_cons, List.length_nil, Nat.zero_add, List.append_assoc, List.singleton_append] at this
      simp only [setT, List.length_cons, List.drop_succ_cons]
      rw [List.set_append_right _ _ (Nat.le_refl _), Nat.sub_self, List.set_cons_zero, this]
      simp
/-- The first k elements written, the rest as made. -/
def mixR {α : Type} (f : α → List Tr) (s : Nat) (raw : List Value) (xs : List α) (k : Nat) : List Tr := (xs.take k).flatMap f ++ (raw.drop (k * s)).map .one
theorem mixR_zero {α : Type} (f : α → List Tr) (s : Nat) (raw : List Value) (xs : List α) : mixR f s raw xs 0 = raw.map .one := by simp [mixR]
theorem mixR_full {α : Type} {f : α → List Tr} {s : Nat} {raw : List Value} {xs : List α} (hr : raw.length = xs.length * s) : mixR f s raw xs xs.length = xs.flatMap f := by simp [mixR, ← hr]
theorem mixR_len {α : Type} {f : α → List Tr} {s : Nat} (hs : ∀ x, (f x).length = s) {raw : List Value} {xs : List α} (hr : raw.length = xs.length * s) {k : Nat} (hk : k ≤ xs.length) : (mixR f s raw xs k).length = xs.length * s := by
  have hm : k * s ≤ xs.length * s := Nat.mul_le_mul_right _ hk
  simp only [mixR, List.length_append, flatMap_len hs, List.length_take, Nat.min_eq_left hk, List.length_map, List.length_drop, hr]
  omega
theorem mixR_set {α : Type} {f : α → List Tr} {s : Nat} (hs : ∀ x, (f x).length = s) {raw : List Value} {xs : List α} (hr : raw.length = xs.length * s) {k : Nat} (hk : k < xs.length) : setT (mixR f s raw xs k) (k * s) (f xs[k]) = mixR f s raw xs (k + 1) := by
  have hm : (k + 1) * s ≤ xs.length * s := Nat.mul_le_mul_right _ hk
  have hp : ((xs.take k).flatMap f).length = k * s := by rw [flatMap_len hs, List.length_take, Nat.min_eq_left (by omega)]
  have := setT_app (f xs[k]) ((xs.take k).flatMap f) ((raw.drop (k * s)).map .one) (by
    rw [hs, List.length_map, List.length_drop, hr]; rw [Nat.succ_mul] at hm; omega)
  rw [hp] at this
  unfold mixR
  rw [this, List.take_succ_eq_append_getElem hk, List.flatMap_append, hs]
  simp only [List.flatMap_cons, List.flatMap_nil, List.append_nil, List.append_assoc, ← List.map_drop, List.drop_drop]
  rw [Nat.succ_mul]
theorem row_made {w : World} {B : Nat} {e : TypeId} {s n g cap : Nat} {raw : List Value} (h : w.ownsRow B e s (.slice (some ⟨g, 0, none⟩) n cap) n raw) : RowAt w B e s n g cap (raw.map .one) [g] :=
  ⟨⟨raw, [], h, ownL_ones.2 ⟨rfl, rfl⟩, by simp [Value.ownBlock]⟩, by simp⟩
end Go.Proofs.YtgbpomakomddjabGreatDoor
end

section
namespace Go.Proofs.YtgbpomakomddjabGreatDoor
open Go.RowKit

/-- Block g is just the cells cs. -/
def Bk (w : World) (g : Nat) (t : TypeId) (cs : Array Value) : Prop := w.heap[g]? = some (.cells cs t (0, 0))
section
variable {w w' : World} {g : Nat} {t : TypeId} {cs : Array Value}
theorem Bk.lt (h : Bk w g t cs) : g < w.heap.size := (Array.getElem?_eq_some_iff.1 h).1
theorem Bk.cell (h : Bk w g t cs) (i : Nat) : w.cell? ⟨g, i, none⟩ = cs[i]? := cell_of_row w g i cs t (0, 0) h
theorem Bk.frozen (h : Bk w g t cs) (i : Nat) : w.frozen? ⟨g, i, none⟩ = false := by unfold Bk at h; simp [World.frozen?, h]
theorem Bk.new (w : World) (t : TypeId) (cs : Array Value) : Bk (w.alloc (.cells cs t)) w.heap.size t cs := heap_alloc_new w _
theorem Bk.alloc (h : Bk w g t cs) (o : Obj) : Bk (w.alloc o) g t cs := (Below.heap_alloc w o g h.lt).trans h
theorem Bk.drewN (h : Bk w g t cs) (n : Nat) : Bk (w.drewN n) g t cs := h
theorem Bk.set (h : Bk w g t cs) (i : Nat) (u : Value) : Bk (w.setCell ⟨g, i, none⟩ u) g t (cs.setIfInBounds i u) := by
  unfold Bk at h ⊢
  simp [World.setCell, Array.getElem?_modify, h]
theorem Bk.far (h : Bk w g t cs) {p : Addr} (hp : g ≠ p.block) (u : Value) : Bk (w.setCell p u) g t cs := (Below.heap_setCell w p u g hp).trans h
theorem Bk.below {B : Nat} (h : Bk w g t cs) (hb : Below B w w') (hB : w.heap.size ≤ B) : Bk w' g t cs := (hb.block g (by have := h.lt; omega)).trans h
theorem Bk.wr {F : List Nat} (h : Bk w g t cs) (hb : Wr F w w') (hg : g ∉ F) : Bk w' g t cs := (hb.block g h.lt hg).trans h
/-- The cells of a small block, to lay before a walk. -/
theorem Bk.c1 {a : Value} (h : Bk w g t #[a]) : w.cell? ⟨g, 0, none⟩ = some a ∧ ∀ i, w.frozen? ⟨g, i, none⟩ = false := ⟨h.cell 0, h.frozen⟩
theorem Bk.c2 {a b : Value} (h : Bk w g t #[a, b]) : w.cell? ⟨g, 0, none⟩ = some a ∧ w.cell? ⟨g, 1, none⟩ = some b ∧ ∀ i, w.frozen? ⟨g, i, none⟩ = false := ⟨h.cell 0, h.cell 1, h.frozen⟩
theorem Bk.c3 {a b c : Value} (h : Bk w g t #[a, b, c]) : w.cell? ⟨g, 0, none⟩ = some a ∧ w.cell? ⟨g, 1, none⟩ = some b ∧ w.cell? ⟨g, 2, none⟩ = some c ∧ ∀ i, w.frozen? ⟨g, i, none⟩ = false := ⟨h.cell 0, h.cell 1, h.cell 2, h.frozen⟩
end
theorem boxes1 (w : World) (t1 : TypeId) (a : Array Value) :
    Below w.heap.size w (w.alloc (.cells a t1)) ∧ Bk (w.alloc (.cells a t1)) w.heap.size t1 a ∧ (w.alloc (.cells a t1)).heap.size = w.heap.size + 1 :=
  ⟨(Below.refl _ _).alloc (Nat.le_refl _) _, Bk.new _ _ _, by simp⟩
theorem boxes2 (w : World) (t1 t2 : TypeId) (a b : Array Value) :
    Below w.heap.size w ((w.alloc (.cells a t1)).alloc (.cells b t2)) ∧ Bk ((w.alloc (.cells a t1)).alloc (.cells b t2)) w.heap.size t1 a ∧ Bk ((w.alloc (.cells a t1)).alloc (.cells b t2)) (w.heap.size + 1) t2 b ∧
      ((w.alloc (.cells a t1)).alloc (.cells b t2)).heap.size = w.heap.size + 1 + 1 := by
  have h2 := Bk.new (w.alloc (.cells a t1)) t2 b
  simp only [World.size_alloc] at h2
  exact ⟨((Below.refl _ _).alloc (Nat.le_refl _) _).alloc (by simp) _, (Bk.new _ _ _).alloc _, h2, by simp⟩
theorem boxes3 (w : World) (t1 t2 t3 : TypeId) (a b c : Array Value) :
    Below w.heap.size w (((w.alloc (.cells a t1)).alloc (.cells b t2)).alloc (.cells c t3)) ∧ Bk (((w.alloc (.cells a t1)).alloc (.cells b t2)).alloc (.cells c t3)) w.heap.size t1 a ∧
      Bk (((w.alloc (.cells a t1)).alloc (.cells b t2)).alloc (.cells c t3)) (w.heap.size + 1) t2 b ∧ Bk (((w.alloc (.cells a t1)).alloc (.cells b t2)).alloc (.cells c t3)) (w.heap.size + 1 + 1) t3 c ∧
      (((w.alloc (.cells a t1)).alloc (.cells b t2)).alloc (.cells c t3)).heap.size = w.heap.size + 1 + 1 + 1 := by
  obtain ⟨h1, k1, k2, hs⟩ := boxes2 w t1 t2 a b
  have h3 := Bk.new ((w.alloc (.cells a t1)).alloc (.cells b t2)) t3 c
  rw [hs] at h3
  exact ⟨h1.alloc (by omega) _, k1.alloc _, k2.alloc _, h3, by rw [World.size_alloc, hs]⟩
end Go.Proofs.YtgbpomakomddjabGreatDoor
end

section
namespace Go.Proofs.YtgbpomakomddjabGreatDoor
open Go.RowKit

/-- A box: an own row of one element. -/
def boxI (g : Nat) (t : TypeId) (cs : List Value) : Item := ⟨.row t cs.length 1 (cs.map .one), .slice (some ⟨g, 0, none⟩) 1 1, [g]⟩
theorem Bk.own {w : World} {g : Nat} {t : TypeId} {cs : List Value} (h : Bk w g t ⟨cs⟩) {B : Nat} (hB : B ≤ g) : (boxI g t cs).t.own w B (boxI g t cs).v (boxI g t cs).F :=
  ⟨cs, [], ⟨by simp, .inr ⟨g, 1, ⟨cs⟩, rfl, hB, h, Nat.le_refl _, by unfold maxLen; omega, by simp, by simp⟩⟩, ownL_ones.2 ⟨rfl, rfl⟩, by simp [boxI, Value.ownBlock]⟩
theorem own_bk {w : World} {B g : Nat} {t : TypeId} {cs : List Value} (h : (boxI g t cs).t.own w B (boxI g t cs).v (boxI g t cs).F) : Bk w g t ⟨cs⟩ := by
  obtain ⟨vs, G, ⟨hl, ho⟩, hv, _⟩ := h
  have hvs := (ownL_ones.1 hv).1
  clear hv
  subst hvs
  rcases ho with ⟨he, _⟩ | ⟨g', cap, cur, he, _, hh, _, _, hs, ht⟩
  · cases he
  · injection he with he _ hc
    injection he with he
    injection he with he _ _
    subst he
    subst hc
    have hcur : cur = ⟨vs⟩ := by
      apply Array.ext'
      rw [← ht, List.take_of_length_le (by simp [hs])]
    unfold Bk
    rw [hh, hcur]
theorem Sn.box {w0 w : World} {L : List Item} (h : Sn w0 w L) (t : TypeId) (cs : List Value) : Sn w0 (w.alloc (.cells ⟨cs⟩ t)) (boxI w.heap.size t cs :: L) :=
  h.new (Bk.own (Bk.new w t ⟨cs⟩) (Nat.le_refl _)) (by simp) ((Below.refl _ _).alloc (Nat.le_refl _) _)
theorem Sn.bk {w0 w : World} {L : List Item} {g : Nat} {t : TypeId} {cs : List Value} (h : Sn w0 w L) (i : Nat) (hr : L[i]? = some (boxI g t cs)) : Bk w g t ⟨cs⟩ := own_bk (h.own i hr).1
theorem Sn.drew1 {w0 w : World} {L : List Item} (h : Sn w0 w L) : Sn w0 w.drew L := h.go (Below.refl _ _).drew
theorem Sn.newI {w0 w w' : World} {L : List Item} {e : TypeId} {v : Value} {n : Nat} {xs : List Value} (h : Sn w0 w L) (o : w'.ownsRow w.heap.size e 1 v n xs) (hb : Below w.heap.size w w') : Sn w0 w' (⟨flat e xs, v, v.ownBlock.toList⟩ :: L) :=
  h.new (flat_own o).1 (flat_own o).2 hb
theorem Sn.rdI {w0 w : World} {L : List Item} {e : TypeId} {v : Value} {xs : List Value} {F : List Nat} (h : Sn w0 w L) (i : Nat) (hr : L[i]? = some ⟨flat e xs, v, F⟩) : Rd w v xs := rd_flat (h.rd i hr)
theorem Sn.ownI {w0 w : World} {L : List Item} {e : TypeId} {v : Value} {xs : List Value} {F : List Nat} (h : Sn w0 w L) (i : Nat) (hr : L[i]? = some ⟨flat e xs, v, F⟩) : w.ownsRow w0.heap.size e 1 v xs.length xs := (own_flat (h.own i hr).1).1
theorem Sn.markI {w0 w w' : World} {L : List Item} {e : TypeId} {v : Value} {xs ys : List Value} {F : List Nat} {n : Nat} (h : Sn w0 w L) (i : Nat) (hr : L[i]? = some ⟨flat e xs, v, F⟩) (o : w'.ownsRow w0.heap.size e 1 v n ys) (hg : w.grownBy w' v.ownBlock) : Sn w0 w' (L.set i ⟨flat e ys, v, F⟩) := by
  have hF := (own_flat (h.own i hr).1).2
  refine h.mark i hr (hF ▸ (flat_own o).1) (h.own i hr).2 (fun _ hk => hk) (hF ▸ Wr.of_grown hg)
end Go.Proofs.YtgbpomakomddjabGreatDoor
end

section
namespace Go.Proofs.YtgbpomakomddjabGreatDoor
open Go.RowKit

theorem Sn.boxSet {w0 w : World} {L : List Item} {g : Nat} {t : TypeId} {cs : List Value} (h : Sn w0 w L) (i : Nat) (hr : L[i]? = some (boxI g t cs)) (k : Nat) (x : Value) :
    Sn w0 (w.setCell ⟨g, k, none⟩ x) (L.set i (boxI g t (cs.set k x))) := by
  have ho := h.own i hr
  have hb := own_bk ho.1
  have hB : w0.heap.size ≤ g := (Tr.own_lt _ _ _ ho.1 g (by simp)).1
  have hn : Bk (w.setCell ⟨g, k, none⟩ x) g t ⟨cs.set k x⟩ := by
    have := hb.set k x
    simpa using this
  have hm := h.mark i hr (Bk.own hn hB) (by simp [boxI]) (fun k hk => hk) (Wr.setCell w ⟨g, k, none⟩ (by simp) x)
  exact hm
theorem Items.apart {w : World} {B : Nat} : ∀ {L : List Item} {i j : Nat} {a b : Item}, Items w B L → L[i]? = some a → L[j]? = some b → i < j → ∀ k ∈ a.F, k ∉ b.F
  | _ :: _, 0, j + 1, _, _, h, ha, hb, _ => by
    simp at ha; subst ha
    exact h.2.2.1 _ (List.mem_of_getElem? (by simpa using hb))
  | _ :: _, i + 1, j + 1, _, _, h, ha, hb, hij => h.2.2.2.apart (i := i) (j := j) (by simpa using ha) (by simpa using hb) (by omega)
theorem Sn.apart {w0 w : World} {L : List Item} {a b : Item} (h : Sn w0 w L) (i j : Nat) (ha : L[i]? = some a) (hb : L[j]? = some b) (hij : i < j) : (b.F ++ a.F).Nodup :=
  List.nodup_append.2 ⟨(h.own j hb).2, (h.own i ha).2, fun _ hx y hy e => h.2.apart ha hb hij y hy (e ▸ hx)⟩
/-- A row of strings opened at an index. -/
theorem rdS_at {w : World} {v : Value} {xs : List ByteArray} (h : Rd w v (xs.map .string)) : ∃ A c, v = .slice A xs.length c ∧ ∀ k, k < xs.length → ∃ b o, A = some ⟨b, o, none⟩ ∧ b < w.heap.size ∧ ∀ j, (hj : j < xs.length) → w.cell? ⟨b, o + j, none⟩ = some (.string xs[j]) := by
  obtain ⟨_, A, c, rfl, h⟩ := h
  simp only [List.length_map] at *
  refine ⟨A, c, rfl, fun k hk => ?_⟩
  rcases h with h | ⟨b, o, rfl, hb, hc⟩
  · have : xs = [] := by simpa using h
    subst this
    exact absurd hk (by simp)
  · exact ⟨b, o, rfl, hb, fun j hj => by simpa using hc j hj⟩
theorem wr_cell {F : List Nat} {a b : World} (h : Wr F a b) {p : Addr} (hp : p.block < a.heap.size) (hn : p.block ∉ F) : b.cell? p = a.cell? p := World.cell?_of_block (w := a) (h.block p.block hp hn)
theorem wr_cells (g : Nat) : ∀ (vs : List Value) (o : Nat) (w : World), Wr [g] w (w.setCells g o vs)
  | [], o, w => Wr.refl _ _
  | v :: vs, o, w => (Wr.setCell w ⟨g, o, none⟩ (by simp) v).trans (wr_cells g vs (o + 1) _)
end Go.Proofs.YtgbpomakomddjabGreatDoor
end

section
namespace Go.Proofs.YtgbpomakomddjabGreatDoor
open Go.RowKit

section
variable {w w' : World} {g : Nat} {t : TypeId} {a b c d e f : Value}
theorem Bk.c4 (h : Bk w g t #[a, b, c, d]) : w.cell? ⟨g, 0, none⟩ = some a ∧ w.cell? ⟨g, 1, none⟩ = some b ∧ w.cell? ⟨g, 2, none⟩ = some c ∧ w.cell? ⟨g, 3, none⟩ = some d ∧ ∀ i, w.frozen? ⟨g, i, none⟩ = false := ⟨h.cell 0, h.cell 1, h.cell 2, h.cell 3, h.frozen⟩
theorem Bk.c5 (h : Bk w g t #[a, b, c, d, e]) : w.cell? ⟨g, 0, none⟩ = some a ∧ w.cell? ⟨g, 1, none⟩ = some b ∧ w.cell? ⟨g, 2, none⟩ = some c ∧ w.cell? ⟨g, 3, none⟩ = some d ∧ w.cell? ⟨g, 4, none⟩ = some e ∧ ∀ i, w.frozen? ⟨g, i, none⟩ = false := ⟨h.cell 0, h.cell 1, h.cell 2, h.cell 3, h.cell 4, h.frozen⟩
theorem Bk.c6 (h : Bk w g t #[a, b, c, d, e, f]) : w.cell? ⟨g, 0, none⟩ = some a ∧ w.cell? ⟨g, 1, none⟩ = some b ∧ w.cell? ⟨g, 2, none⟩ = some c ∧ w.cell? ⟨g, 3, none⟩ = some d ∧ w.cell? ⟨g, 4, none⟩ = some e ∧ w.cell? ⟨g, 5, none⟩ = some f ∧ ∀ i, w.frozen? ⟨g, i, none⟩ = false := ⟨h.cell 0, h.cell 1, h.cell 2, h.cell 3, h.cell 4, h.cell 5, h.frozen⟩
end
end Go.Proofs.YtgbpomakomddjabGreatDoor
end
