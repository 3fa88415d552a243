/- DERIVED. CONTRACTS of the laws' helpers: markModeS, markActivity. -/
import Derived.Test.YtlnbkhfjbpnbfaaDoorModT
import Derived.Test.YtlnbkhfjbpnbfaaDoorSn
namespace Go.Proofs.YtlnbkhfjbpnbfaaDoor
open Go.RowKit

def marksZ (k n : Nat) : List Int := (List.range n).map fun i => ((k + i : Nat) : Int)
theorem marksZ_I (k n : Nat) : marksI k n = (marksZ k n).map (.int .i64) := by simp [marksI, marksZ, mkI, Function.comp_def]
theorem marksZ_len (k n : Nat) : (marksZ k n).length = n := by simp [marksZ]
def markedM (k : Nat) (m : Md) : Md := ⟨(k : Int), marksZ (k + 1) m.us.length, marksZ (k + 1 + m.us.length) m.co.length⟩
def markedMs : Nat → List Md → List Md
  | _, [] => []
  | k, m :: ms => markedM k m :: markedMs (k + 1 + szM m) ms
theorem markedMs_len : ∀ (ms : List Md) (k : Nat), (markedMs k ms).length = ms.length
  | [], _ => rfl
  | m :: ms, k => by simp [markedMs, markedMs_len ms]
theorem szMs_cons (m : Md) (ms : List Md) : szMs (m :: ms) = szM m + szMs ms := by simp [szMs]
theorem markedMs_snoc (m : Md) : ∀ (ms : List Md) (k : Nat), markedMs k (ms ++ [m]) = markedMs k ms ++ [markedM (k + ms.length + szMs ms) m]
  | [], k => by simp [markedMs, szMs]
  | x :: ms, k => by
    simp only [List.cons_append, markedMs, markedMs_snoc m ms, List.length_cons, szMs_cons]
    rw [show k + 1 + szM x + ms.length + szMs ms = k + (ms.length + 1) + (szM x + szMs ms) from by omega]
/-- The first j modes marked, the rest as before. -/
def mixK (k : Nat) (ms : List Md) (j : Nat) : List Md := markedMs k (ms.take j) ++ ms.drop j
theorem mixK_zero (k : Nat) (ms : List Md) : mixK k ms 0 = ms := by simp [mixK, markedMs]
theorem mixK_full (k : Nat) (ms : List Md) : mixK k ms ms.length = markedMs k ms := by simp [mixK]
theorem mixK_len (k : Nat) (ms : List Md) {j : Nat} (h : j ≤ ms.length) : (mixK k ms j).length = ms.length := by simp [mixK, markedMs_len]; omega
theorem mixK_at (k : Nat) (ms : List Md) {j : Nat} (h : j < ms.length) : (mixK k ms j)[j]'(by rw [mixK_len k ms (by omega)]; exact h) = ms[j] := by
  unfold mixK
  rw [List.getElem_append_right (by simp [markedMs_len]; omega)]
  simp [markedMs_len, Nat.min_eq_left (Nat.le_of_lt h)]
theorem mixK_set (k : Nat) (ms : List Md) {j : Nat} (h : j < ms.length) : (mixK k ms j).set j (markedM (k + j + szMs (ms.take j)) ms[j]) = mixK k ms (j + 1) := by
  have hl : (markedMs k (ms.take j)).length = j := by rw [markedMs_len]; simp; omega
  unfold mixK
  have e : (List.drop j ms).set 0 (markedM (k + j + szMs (ms.take j)) ms[j]) = markedM (k + j + szMs (ms.take j)) ms[j] :: List.drop (j + 1) ms := by rw [List.drop_eq_getElem_cons h]; rfl
  rw [List.set_append_right _ _ (by omega), hl, Nat.sub_self, e, List.take_succ_eq_append_getElem h, markedMs_snoc]
  simp [Nat.min_eq_left (Nat.le_of_lt h)]

/-- A slice of ints behind a cell of an own row: it may turn. -/
theorem rowAt_turnI {w : World} {B : Nat} {e : TypeId} {s n g cap : Nat} {cs : List Tr} {F : List Nat} (h : RowAt w B e s n g cap cs F) {i : Nat} {xs : List Int} (hi : cs[i]? = some (trI xs)) :
    ∃ A c, w.cell? ⟨g, i, none⟩ = some (.slice A xs.length c) ∧ w.ownsRow B 3 1 (.slice A xs.length c) xs.length (xs.map (.int .i64)) ∧
      ∀ (w' : World) (ys : List Int), w'.ownsRow B 3 1 (.slice A xs.length c) xs.length (ys.map (.int .i64)) → w.grownBy w' (Value.slice A xs.length c).ownBlock → ∃ F', RowAt w' B e s n g cap (cs.set i (trI ys)) F' ∧ (∀ k ∈ F', k ∈ F) ∧ Wr F w w' ∧ w'.cell? ⟨g, i, none⟩ = some (.slice A xs.length c) := by
  obtain ⟨x0, H0, hx0, ho0, _, hs0, _⟩ := h.turn (w' := w) hi
  obtain ⟨o1, hH⟩ := own_flat ho0
  obtain ⟨A, c, rfl, _⟩ := rdI_slice (own_rd o1 (own_le o1))
  simp only [List.length_map] at o1
  refine ⟨A, c, hx0, o1, fun w' ys o2 hg => ?_⟩
  obtain ⟨x, H, hx, ho, hn, hs, hback⟩ := h.turn (w' := w') hi
  rw [hx0] at hx
  injection hx with hx
  subst hx
  obtain ⟨_, hH2⟩ := own_flat ho
  have hlen := own_len o2
  have hw : Wr H w w' := hH2 ▸ Wr.of_grown hg
  obtain ⟨F', h1, h2⟩ := hback (trI ys) H (hH2 ▸ (flat_own o2).1) hn (fun _ hk => hk) hw
  refine ⟨F', h1, h2, hw.sub (fun k hk => (hs k hk).1), ?_⟩
  exact (World.cell?_of_block (a := ⟨g, i, none⟩) (hw.block g h.lt.2 (fun e => (hs g e).2 rfl))).trans hx0

def markedA (k : Nat) (a : Ac) : Ac := ⟨a.nm, a.fa, markedMs k a.ms⟩
end Go.Proofs.YtlnbkhfjbpnbfaaDoor
