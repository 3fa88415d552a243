/- DERIVED. Modes and activities as data, and their trees. -/
import Derived.Test.YtfgmbgdbnjpclaaChecked
import Derived.Test.YtfgmbgdbnjpclaaTr
import Derived.Test.YtfgmbgdbnjpclaaIntS
namespace Go.Proofs.Ytfgmbgdbnjpclaa
open Go.RowKit

structure Md where
  du : Int
  us : List Int
  co : List Int
structure Ac where
  nm : ByteArray
  fa : Int
  ms : List Md
theorem md_ext {m n : Md} : m = n ↔ m.du = n.du ∧ m.us = n.us ∧ m.co = n.co := by
  cases m; cases n; simp
theorem ac_ext {a b : Ac} : a = b ↔ a.nm = b.nm ∧ a.fa = b.fa ∧ a.ms = b.ms := by
  cases a; cases b; simp
instance instDecMd : DecidableEq Md := fun m n => decidable_of_iff _ (md_ext (m := m) (n := n)).symm
instance instDecAc : DecidableEq Ac := fun a b => decidable_of_iff _ (ac_ext (a := a) (b := b)).symm

abbrev trI (xs : List Int) : Tr := flat 3 (xs.map (.int .i64))
def cellsM (m : Md) : List Tr := [.one (.int .i64 m.du), trI m.us, trI m.co]
theorem cellsM_len (m : Md) : (cellsM m).length = 3 := rfl
def trM (m : Md) : Tr := .agg (cellsM m)
def trMs (ms : List Md) : Tr := rows 70 3 cellsM ms
def cellsA (a : Ac) : List Tr := [.one (.string a.nm), .one (.int .i64 a.fa), trMs a.ms]
def trA (a : Ac) : Tr := .agg (cellsA a)

theorem rdI_slice {w : World} {v : Value} {xs : List Int} (h : Rd w v (xs.map (.int .i64))) : ∃ A c, v = .slice A xs.length c ∧ xs.length ≤ 9223372036854775807 := by
  obtain ⟨hl, A, c, rfl, _⟩ := h
  unfold maxLen at hl
  simp only [List.length_map] at *
  exact ⟨A, c, rfl, hl⟩

theorem rd_cellsM {w : World} {m : Md} {vs : List Value} (h : rdL w (cellsM m) vs) : ∃ U cu C cc, vs = [.int .i64 m.du, .slice U m.us.length cu, .slice C m.co.length cc] ∧ Rd w (.slice U m.us.length cu) (m.us.map (.int .i64)) ∧ Rd w (.slice C m.co.length cc) (m.co.map (.int .i64)) := by
  obtain ⟨v0, vs, rfl, h0, v1, vs, rfl, h1, v2, vs, rfl, h2, h3⟩ := h
  have h0' : v0 = .int .i64 m.du := h0
  have h3' : vs = [] := h3
  have r1 := rd_flat h1
  have r2 := rd_flat h2
  obtain ⟨U, cu, rfl, _⟩ := rdI_slice r1
  obtain ⟨C, cc, rfl, _⟩ := rdI_slice r2
  exact ⟨U, cu, C, cc, by rw [h0', h3'], r1, r2⟩
theorem mk_cellsM {w : World} {m : Md} {u c : Value} (hu : Rd w u (m.us.map (.int .i64))) (hc : Rd w c (m.co.map (.int .i64))) : rdL w (cellsM m) [.int .i64 m.du, u, c] :=
  ⟨_, _, rfl, rfl, _, _, rfl, flat_rd hu, _, _, rfl, flat_rd hc, rfl⟩
theorem rdM {w : World} {m : Md} {v : Value} (h : (trM m).rd w v) : ∃ U cu C cc, v = .agg #[.int .i64 m.du, .slice U m.us.length cu, .slice C m.co.length cc] ∧ Rd w (.slice U m.us.length cu) (m.us.map (.int .i64)) ∧ Rd w (.slice C m.co.length cc) (m.co.map (.int .i64)) := by
  obtain ⟨vs, rfl, h⟩ := h
  obtain ⟨U, cu, C, cc, rfl, h1, h2⟩ := rd_cellsM h
  exact ⟨U, cu, C, cc, rfl, h1, h2⟩
theorem mk_rdM {w : World} {m : Md} {u c : Value} (hu : Rd w u (m.us.map (.int .i64))) (hc : Rd w c (m.co.map (.int .i64))) : (trM m).rd w (.agg #[.int .i64 m.du, u, c]) :=
  ⟨_, rfl, mk_cellsM hu hc⟩
theorem rdMs {w : World} {ms : List Md} {v : Value} (h : (trMs ms).rd w v) :
    ms.length ≤ 9223372036854775807 ∧ ∃ A c, v = .slice A ms.length c ∧ ∀ k, k < ms.length → ∃ b o, A = some ⟨b, o, none⟩ ∧ b < w.heap.size ∧ ∀ j, (hj : j < ms.length) →
      ∃ U cu C cc, w.cell? ⟨b, o + j * 3, none⟩ = some (.int .i64 ms[j].du) ∧ w.cell? ⟨b, o + j * 3 + 1, none⟩ = some (.slice U ms[j].us.length cu) ∧ w.cell? ⟨b, o + j * 3 + 2, none⟩ = some (.slice C ms[j].co.length cc) ∧
        Rd w (.slice U ms[j].us.length cu) (ms[j].us.map (.int .i64)) ∧ Rd w (.slice C ms[j].co.length cc) (ms[j].co.map (.int .i64)) := by
  obtain ⟨hl, A, c, rfl, g⟩ := rd_rows cellsM_len h
  refine ⟨hl, A, c, rfl, fun k hk => ?_⟩
  obtain ⟨b, o, rfl, hb, hj⟩ := g k hk
  refine ⟨b, o, rfl, hb, fun j hjl => ?_⟩
  obtain ⟨us, h1, h2⟩ := hj j hjl
  obtain ⟨U, cu, C, cc, rfl, r1, r2⟩ := rd_cellsM h1
  exact ⟨U, cu, C, cc, h2 0 (by omega), h2 1 (by omega), h2 2 (by omega), r1, r2⟩
theorem rdA {w : World} {a : Ac} {v : Value} (h : (trA a).rd w v) : ∃ A c, v = .agg #[.string a.nm, .int .i64 a.fa, .slice A a.ms.length c] ∧ (trMs a.ms).rd w (.slice A a.ms.length c) := by
  obtain ⟨vs, rfl, v0, vs, rfl, h0, v1, vs, rfl, h1, v2, vs, rfl, h2, h3⟩ := h
  have h0' : v0 = .string a.nm := h0
  have h1' : v1 = .int .i64 a.fa := h1
  have h3' : vs = [] := h3
  obtain ⟨_, A, c, rfl, _⟩ := rdMs h2
  exact ⟨A, c, by rw [h0', h1', h3'], h2⟩
theorem mk_rdA {w : World} {a : Ac} {v : Value} (h : (trMs a.ms).rd w v) : (trA a).rd w (.agg #[.string a.nm, .int .i64 a.fa, v]) :=
  ⟨_, rfl, _, _, rfl, rfl, _, _, rfl, rfl, _, _, rfl, h, rfl⟩

theorem mk_ownM {w : World} {B : Nat} {m : Md} {u c : Value} {F G : List Nat} (hu : (trI m.us).own w B u F) (hc : (trI m.co).own w B c G) : (trM m).own w B (.agg #[.int .i64 m.du, u, c]) (F ++ G) :=
  ⟨_, rfl, _, _, [], _, rfl, ⟨rfl, rfl⟩, ⟨_, _, F, _, rfl, hu, ⟨_, _, G, [], rfl, hc, ⟨rfl, rfl⟩, rfl⟩, rfl⟩, by simp⟩
theorem ownM {w : World} {B : Nat} {m : Md} {v : Value} {F : List Nat} (h : (trM m).own w B v F) : ∃ u c G H, v = .agg #[.int .i64 m.du, u, c] ∧ (trI m.us).own w B u G ∧ (trI m.co).own w B c H ∧ F = G ++ H := by
  obtain ⟨vs, rfl, v0, vs, F0, G0, rfl, h0, ⟨v1, vs, F1, G1, rfl, h1, ⟨v2, vs, F2, G2, rfl, h2, h3, rfl⟩, rfl⟩, rfl⟩ := h
  obtain ⟨e0, f0⟩ : v0 = .int .i64 m.du ∧ F0 = [] := h0
  obtain ⟨e3, f3⟩ : vs = [] ∧ G2 = [] := h3
  exact ⟨v1, v2, F1, F2, by rw [e0, e3], h1, h2, by rw [f0, f3]; simp⟩
theorem mk_ownA {w : World} {B : Nat} {a : Ac} {v : Value} {F : List Nat} (h : (trMs a.ms).own w B v F) : (trA a).own w B (.agg #[.string a.nm, .int .i64 a.fa, v]) F :=
  ⟨_, rfl, _, _, [], _, rfl, ⟨rfl, rfl⟩, ⟨_, _, [], _, rfl, ⟨rfl, rfl⟩, ⟨_, _, F, [], rfl, h, ⟨rfl, rfl⟩, rfl⟩, rfl⟩, by simp⟩
theorem ownA {w : World} {B : Nat} {a : Ac} {v : Value} {F : List Nat} (h : (trA a).own w B v F) : ∃ x, v = .agg #[.string a.nm, .int .i64 a.fa, x] ∧ (trMs a.ms).own w B x F := by
  obtain ⟨vs, rfl, v0, vs, F0, G0, rfl, h0, ⟨v1, vs, F1, G1, rfl, h1, ⟨v2, vs, F2, G2, rfl, h2, h3, rfl⟩, rfl⟩, rfl⟩ := h
  obtain ⟨e0, f0⟩ : v0 = .string a.nm ∧ F0 = [] := h0
  obtain ⟨e1, f1⟩ : v1 = .int .i64 a.fa ∧ F1 = [] := h1
  obtain ⟨e3, f3⟩ : vs = [] ∧ G2 = [] := h3
  exact ⟨v2, by rw [e0, e1, e3], by rw [f0, f1, f3]; simpa using h2⟩

def szM (m : Md) : Nat := m.us.length + m.co.length
def szMs (ms : List Md) : Nat := (ms.map szM).sum
theorem szMs_take {ms : List Md} {k : Nat} (h : k < ms.length) : szMs (ms.take (k + 1)) = szMs (ms.take k) + szM ms[k] := by
  unfold szMs
  rw [List.take_succ_eq_append_getElem h, List.map_append, List.sum_append]
  simp only [List.map_cons, List.map_nil, List.sum_cons, List.sum_nil, Nat.add_zero]
theorem szMs_le (ms : List Md) (k : Nat) : szMs (ms.take k) ≤ szMs ms := by
  unfold szMs
  conv => rhs; rw [← List.take_append_drop k ms, List.map_append, List.sum_append]
  omega
theorem szMs_at {ms : List Md} {k : Nat} (h : k < ms.length) : szM ms[k] ≤ szMs ms := by
  have h1 := szMs_take h
  have h2 := szMs_le ms (k + 1)
  omega
end Go.Proofs.Ytfgmbgdbnjpclaa
