/- DERIVED. Slices of structs that read as flat rows of cells; slices of pairs of ints. No dump. -/
import Derived.Test.YtfgmbgdbnjpclaaRd
import Derived.Test.YtfgmbgdbnjpclaaSt
namespace Go.Proofs.Ytfgmbgdbnjpclaa
open Go.RowKit

/-- The slice value v has n elements of s cells each, which read as cs. -/
def RdN (s : Nat) (w : World) (v : Value) (n : Nat) (cs : List Value) : Prop :=
  n ≤ maxLen ∧ cs.length = n * s ∧ ∃ A c, v = .slice A n c ∧ (n = 0 ∨ ∃ b o, A = some ⟨b, o, none⟩ ∧ b < w.heap.size ∧ ∀ j, (h : j < cs.length) → w.cell? ⟨b, o + j, none⟩ = some cs[j])

theorem RdN.below {s : Nat} {w w' : World} {v : Value} {n : Nat} {cs : List Value} {B : Nat} (h : RdN s w v n cs) (hb : Below B w w') (hB : w.heap.size ≤ B) : RdN s w' v n cs := by
  obtain ⟨hl, hs, A, c, rfl, h⟩ := h
  refine ⟨hl, hs, A, c, rfl, ?_⟩
  rcases h with h | ⟨b, o, rfl, hlt, hc⟩
  · exact .inl h
  · exact .inr ⟨b, o, rfl, by have := hb.size; omega, fun j hj => (hb.cell (p := ⟨b, o + j, none⟩) (by show b < B; omega)).trans (hc j hj)⟩

theorem own_rdN {w : World} {base : Nat} {e : TypeId} {s : Nat} {v : Value} {n : Nat} {xs : List Value} (h : w.ownsRow base e s v n xs) (hm : n ≤ maxLen) : RdN s w v n xs := by
  refine ⟨hm, h.1, ?_⟩
  rcases h.2 with ⟨rfl, rfl⟩ | ⟨g, cap, cur, rfl, hg, hh, hnc, hcm, hcs, htake⟩
  · exact ⟨none, 0, rfl, .inl rfl⟩
  · refine ⟨_, cap, rfl, .inr ⟨g, 0, rfl, (Array.getElem?_eq_some_iff.1 hh).1, fun j hj => ?_⟩⟩
    have := h.cells (g := g) rfl j _ (List.getElem?_eq_getElem hj)
    have hadd : (⟨g, 0, none⟩ : Addr).add j = ⟨g, j, none⟩ := by unfold Addr.add; split <;> simp_all
    rw [hadd] at this
    simpa using this

theorem St.rdN {w0 w : World} {L : List ORow} {e : TypeId} {s : Nat} {v : Value} {n : Nat} {xs : List Value} (h : St w0 w L) (i : Nat) (hr : L[i]? = some ⟨e, s, v, n, xs⟩) (hm : n ≤ maxLen) : RdN s w v n xs := own_rdN (h.own i hr) hm
theorem St.oldN {w0 w : World} {L : List ORow} {s : Nat} {v : Value} {n : Nat} {cs : List Value} (h : St w0 w L) (hr : RdN s w0 v n cs) : RdN s w v n cs := hr.below h.1 (Nat.le_refl _)

/-- The cells of a row of pairs. -/
def cellsP : List (Int × Int) → List Value
  | [] => []
  | p :: l => .int .i64 p.1 :: .int .i64 p.2 :: cellsP l
theorem cellsP_len : ∀ l : List (Int × Int), (cellsP l).length = l.length * 2
  | [] => rfl
  | _ :: l => by simp [cellsP, cellsP_len l]; omega
theorem cellsP_app : ∀ l m : List (Int × Int), cellsP (l ++ m) = cellsP l ++ cellsP m
  | [], _ => rfl
  | _ :: l, m => by simp [cellsP, cellsP_app l m]
theorem cellsP_0 : ∀ (l : List (Int × Int)) (j : Nat) (h : j < l.length), (cellsP l)[j * 2]? = some (.int .i64 l[j].1)
  | _ :: _, 0, _ => rfl
  | _ :: l, j + 1, h => by
    have := cellsP_0 l j (by simpa using h)
    rw [show (j + 1) * 2 = j * 2 + 1 + 1 from by omega]
    simpa [cellsP] using this
theorem cellsP_1 : ∀ (l : List (Int × Int)) (j : Nat) (h : j < l.length), (cellsP l)[j * 2 + 1]? = some (.int .i64 l[j].2)
  | _ :: _, 0, _ => rfl
  | _ :: l, j + 1, h => by
    have := cellsP_1 l j (by simpa using h)
    rw [show (j + 1) * 2 + 1 = j * 2 + 1 + 1 + 1 from by omega]
    simpa [cellsP] using this
theorem cellsP_set0 : ∀ (l : List (Int × Int)) (j : Nat) (h : j < l.length) (x : Int), (cellsP l).set (j * 2) (.int .i64 x) = cellsP (l.set j (x, l[j].2))
  | _ :: _, 0, _, _ => rfl
  | _ :: l, j + 1, h, x => by
    have := cellsP_set0 l j (by simpa using h) x
    rw [show (j + 1) * 2 = j * 2 + 1 + 1 from by omega]
    simpa [cellsP] using this
theorem cellsP_set1 : ∀ (l : List (Int × Int)) (j : Nat) (h : j < l.length) (x : Int), (cellsP l).set (j * 2 + 1) (.int .i64 x) = cellsP (l.set j (l[j].1, x))
  | _ :: _, 0, _, _ => rfl
  | _ :: l, j + 1, h, x => by
    have := cellsP_set1 l j (by simpa using h) x
    rw [show (j + 1) * 2 + 1 = j * 2 + 1 + 1 + 1 from by omega]
    simpa [cellsP] using this
/-- Any cells of an even number that are ints are pairs: the way back is not needed; a made row is one of zeros. -/
theorem cellsP_zeros : ∀ n : Nat, cellsP (List.replicate n (0, 0)) = List.replicate (n * 2) (.int .i64 0)
  | 0 => rfl
  | n + 1 => by rw [show (n + 1) * 2 = n * 2 + 1 + 1 from by omega]; simp [List.replicate_succ, cellsP, cellsP_zeros n]

/-- The slice value v reads as the pairs xs. -/
def RdP (w : World) (v : Value) (xs : List (Int × Int)) : Prop := RdN 2 w v xs.length (cellsP xs)
theorem RdP.below {w w' : World} {v : Value} {xs : List (Int × Int)} {B : Nat} (h : RdP w v xs) (hb : Below B w w') (hB : w.heap.size ≤ B) : RdP w' v xs := RdN.below h hb hB
theorem own_rdP {w : World} {base : Nat} {e : TypeId} {v : Value} {n : Nat} {xs : List (Int × Int)} (h : w.ownsRow base e 2 v n (cellsP xs)) (hm : n ≤ maxLen) : RdP w v xs := by
  have h1 := h.1
  rw [cellsP_len] at h1
  obtain rfl : n = xs.length := by omega
  exact own_rdN h hm
theorem ownP_len {w : World} {base : Nat} {e : TypeId} {v : Value} {n : Nat} {xs : List (Int × Int)} (h : w.ownsRow base e 2 v n (cellsP xs)) : xs.length = n := by
  have h1 := h.1
  rw [cellsP_len] at h1
  omega
theorem RdP.le {w : World} {v : Value} {xs : List (Int × Int)} (h : RdP w v xs) : xs.length ≤ 9223372036854775807 := by have := h.1; unfold maxLen at this; exact this
/-- A slice of pairs opened. -/
theorem rdP {w : World} {v : Value} {xs : List (Int × Int)} (h : RdP w v xs) : ∃ A c, v = .slice A xs.length c ∧ (xs = [] ∨ ∃ b o, A = some ⟨b, o, none⟩ ∧ b < w.heap.size ∧
    ∀ j, (hj : j < xs.length) → w.cell? ⟨b, o + j * 2, none⟩ = some (.int .i64 xs[j].1) ∧ w.cell? ⟨b, o + j * 2 + 1, none⟩ = some (.int .i64 xs[j].2)) := by
  obtain ⟨_, _, A, c, rfl, h⟩ := h
  refine ⟨A, c, rfl, ?_⟩
  rcases h with h | ⟨b, o, rfl, hb, hc⟩
  · exact .inl (List.eq_nil_of_length_eq_zero h)
  · refine .inr ⟨b, o, rfl, hb, fun j hj => ⟨?_, ?_⟩⟩
    · have := hc (j * 2) (by rw [cellsP_len]; omega)
      rw [this, ← List.getElem?_eq_getElem, cellsP_0 xs j hj]
    · have := hc (j * 2 + 1) (by rw [cellsP_len]; omega)
      rw [show o + j * 2 + 1 = o + (j * 2 + 1) from by omega, this, ← List.getElem?_eq_getElem, cellsP_1 xs j hj]
/-- A slice of pairs opened, without a parting. -/
theorem rdPk {w : World} {v : Value} {xs : List (Int × Int)} (h : RdP w v xs) : ∃ A c, v = .slice A xs.length c ∧ ∀ k, k < xs.length → ∃ b o, A = some ⟨b, o, none⟩ ∧ b < w.heap.size ∧
    ∀ j, (hj : j < xs.length) → w.cell? ⟨b, o + j * 2, none⟩ = some (.int .i64 xs[j].1) ∧ w.cell? ⟨b, o + j * 2 + 1, none⟩ = some (.int .i64 xs[j].2) := by
  obtain ⟨A, c, rfl, g⟩ := rdP h
  refine ⟨A, c, rfl, fun k hk => ?_⟩
  rcases g with rfl | g
  · simp at hk
  · exact g
end Go.Proofs.Ytfgmbgdbnjpclaa
