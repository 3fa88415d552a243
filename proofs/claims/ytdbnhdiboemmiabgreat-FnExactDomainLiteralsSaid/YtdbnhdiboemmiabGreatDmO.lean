/- DERIVED. Rows of rows of one's own: their cells, a row put in the place of another. -/
import Derived.Test.YtdbnhdiboemmiabGreatRowG
import Derived.Test.YtdbnhdiboemmiabGreatDats
namespace Go.Proofs.YtdbnhdiboemmiabGreat
open Go.RowKit
set_option linter.unusedVariables false

theorem own_rowsI {w : World} {B : Nat} {xs : List (List Int)} {v : Value} {F : List Nat} (h : (trSu xs).own w B v F) :
    xs.length ≤ 9223372036854775807 ∧ ∃ A c, v = .slice A xs.length c ∧ ∀ k, k < xs.length → ∃ b o, A = some ⟨b, o, none⟩ ∧ b < w.heap.size ∧ ∀ j, (hj : j < xs.length) → ∃ A0 c0, w.cell? ⟨b, o + j, none⟩ = some (.slice A0 xs[j].length c0) ∧ (trI xs[j]).rd w (.slice A0 xs[j].length c0) ∧ NilOk (.slice A0 xs[j].length c0) := by
  obtain ⟨vs, G, ow, ol, _⟩ := rowsD_raw h
  obtain ⟨hl, hs, A, c, rfl, hc⟩ := own_rdN ow (own_le ow)
  unfold maxLen at hl
  refine ⟨hl, A, c, rfl, fun k hk => ?_⟩
  rcases hc with h0 | ⟨b, o, rfl, hb, hc⟩
  · omega
  refine ⟨b, o, rfl, hb, fun j hj => ?_⟩
  obtain ⟨v, H, F1, F2, hv, ho, _, _⟩ := ownL_focus ol (flatI_get hj)
  obtain ⟨hjv, e⟩ := List.getElem?_eq_some_iff.1 hv
  have hcj := hc j hjv
  rw [e] at hcj
  have hr := (own_flat ho).1
  obtain ⟨A0, c0, rfl⟩ := slice_ints (Tr.own_rd _ _ _ ho)
  exact ⟨A0, c0, hcj, Tr.own_rd _ _ _ ho, nilOk_own hr⟩
theorem Sn.newW {w0 W : World} {L : List Item} (h : Sn w0 W L) (e : TypeId) (vs : List Value) (hv : vs.length ≤ maxLen) : Sn w0 (W.alloc (.cells ⟨vs⟩ e)) (⟨flat e vs, .slice (some ⟨W.heap.size, 0, none⟩) vs.length vs.length, [W.heap.size]⟩ :: L) :=
  h.new (t := flat e vs) ⟨vs, [], ⟨by simp, .inr ⟨W.heap.size, vs.length, ⟨vs⟩, rfl, Nat.le_refl _, heap_alloc_new W _, by simp, hv, by simp, List.take_of_length_le (by simp)⟩⟩, ownL_ones.2 ⟨rfl, rfl⟩, by simp [Value.ownBlock]⟩ (by simp) ((Below.refl _ _).alloc (Nat.le_refl _) _)
section
variable {w0 W : World} {L : List Item}
theorem Sn.putR {D : List (List Int)} {r : List Int} {x : Value} {H F : List Nat} {g c n : Nat} (h : Sn w0 W (⟨trI r, x, H⟩ :: ⟨trSu D, .slice (some ⟨g, 0, none⟩) n c, F⟩ :: L)) (hn : n = D.length) {i : Nat} (hi : i < D.length) :
    ∃ F', Sn w0 (W.setCell ⟨g, i, none⟩ x) (⟨trSu (D.set i r), .slice (some ⟨g, 0, none⟩) n c, F'⟩ :: L) := by
  subst hn
  obtain ⟨oa, na, pa, od, nd, pd, rest⟩ := h.2
  have hra : RowAt W w0.heap.size 25 1 D.length g c (D.flatMap cellsI1) F := ⟨od, nd⟩
  obtain ⟨F', r', sub⟩ := hra.put (i := i) (t' := trI r) (x' := x) (by rw [flatMap_len cellsI1_len]; omega) oa na (fun k hk hk2 => pa ⟨trSu D, .slice (some ⟨g, 0, none⟩) D.length c, F⟩ (by simp) k hk hk2)
  refine ⟨F', h.merge2.turn (t' := trSu (D.set i r)) ?_ r'.2 (fun k hk => .inl ?_) (Wr.setCell W ⟨g, i, none⟩ ?_ _)⟩
  · have e : trSu (D.set i r) = Tr.row 25 1 D.length ((D.flatMap cellsI1).set i (trI r)) := by
      rw [trSu, rows, List.length_set, flatI_set hi]
    rw [e]; exact r'.1
  · show k ∈ F ++ (H ++ [])
    rcases sub k hk with h | h
    · exact List.mem_append.2 (.inl h)
    · exact List.mem_append.2 (.inr (by simpa using h))
  · show g ∈ F ++ (H ++ [])
    exact List.mem_append.2 (.inl hra.mem)
theorem Sn.formR {D : List (List Int)} {A : Option Addr} {n c : Nat} {F : List Nat} (h : Sn w0 W (⟨trSu D, .slice A n c, F⟩ :: L)) (hn : 0 < n) : ∃ g, A = some ⟨g, 0, none⟩ ∧ n ≤ c ∧ g < W.heap.size := by
  obtain ⟨vs, G, ow, _, _⟩ := rowsD_raw (h.own 0 rfl).1
  have hlt := ow.lt
  rcases ow.2 with ⟨he, _⟩ | ⟨g, cap, cur, he, _, _, hc, _⟩
  · injection he; omega
  · injection he with h1 h2 h3
    subst h1 h3
    exact ⟨g, rfl, by omega, (hlt g rfl).2⟩
end
/-- A domain of one's own: its three rows, none of which is a nil slice with room. -/
theorem own_dom {w : World} {B : Nat} {d : Dm} {v : Value} {F : List Nat} (h : (trDm d).own w B v F) : ∃ v1 v2 v3 F1 F2 F3, v = .agg #[v1, v2, v3] ∧ (trI d.mn).own w B v1 F1 ∧ (trI d.mx).own w B v2 F2 ∧ (trSu d.md).own w B v3 F3 := by
  obtain ⟨vs, rfl, v1, us, F1, G1, rfl, o1, ⟨v2, us, F2, G2, rfl, o2, ⟨v3, us, F3, G3, rfl, o3, ⟨rfl, rfl⟩, rfl⟩, rfl⟩, rfl⟩ := h
  exact ⟨v1, v2, v3, F1, F2, F3, rfl, o1, o2, o3⟩
theorem nil_int {w : World} {B : Nat} {xs : List Int} {v : Value} {F : List Nat} (h : (trI xs).own w B v F) : NilOk v := nilOk_own (own_flat h).1
theorem dm_sz (d : Dm) : (trDm d).sz = d.mn.length + (d.mx.length + ((trSu d.md).sz + 0)) := by
  show szL (cellsDm d) = _
  simp only [cellsDm, szL, trI_sz]
theorem su_sz (xs : List (List Int)) : (trSu xs).sz = xs.length + szL (xs.flatMap cellsI1) := rfl
theorem su_at {xs : List (List Int)} {j : Nat} (h : j < xs.length) : xs[j].length ≤ (trSu xs).sz := by
  have h1 := szL_flat_at (f := cellsI1) h
  have h2 : szL (cellsI1 xs[j]) = xs[j].length := by simp [cellsI1, szL, trI_sz]
  rw [su_sz]
  omega
end Go.Proofs.YtdbnhdiboemmiabGreat
