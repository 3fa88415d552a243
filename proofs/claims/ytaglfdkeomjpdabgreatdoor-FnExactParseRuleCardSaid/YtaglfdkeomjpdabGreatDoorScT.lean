/- DERIVED. Schedules as text: mathematics, and the contracts of FormatSchedule of the program and of the model. -/
import Derived.Test.YtaglfdkeomjpdabGreatDoorScG
import Derived.Test.YtaglfdkeomjpdabGreatDoorFmt
import Derived.Test.YtaglfdkeomjpdabGreatDoorJoinI
import Derived.Test.YtaglfdkeomjpdabGreatDoorModF
import Derived.Test.YtaglfdkeomjpdabGreatDoorRegZ
import Derived.Test.YtaglfdkeomjpdabGreatDoorRuA
import Derived.Deep.AppendLies
namespace Go.Proofs.YtaglfdkeomjpdabGreatDoor
open Go.RowKit Go.Shelf
set_option linter.unusedVariables false

def ampS : ByteArray := ⟨#[64]⟩
def spS : ByteArray := ⟨#[32]⟩
def nmA (p : Pj) (a : Nat) : ByteArray := match p.acts[a]? with | some x => x.nm | none => ⟨#[]⟩
theorem nmA_at {p : Pj} {a : Nat} (h : a < p.acts.length) : nmA p a = p.acts[a].nm := by simp [nmA, List.getElem?_eq_getElem h]
def wordA (p : Pj) (s : Sc) (a : Nat) : ByteArray := nmA p a ++ ampS ++ fmtB (stA s a) ++ slash ++ fmtB (moA s a)
def wordsK (p : Pj) (s : Sc) (k : Nat) : List ByteArray := (List.range k).map (wordA p s)
theorem wordsK_len (p : Pj) (s : Sc) (k : Nat) : (wordsK p s k).length = k := by simp [wordsK]
theorem wordsK_succ (p : Pj) (s : Sc) (k : Nat) : wordsK p s (k + 1) = wordsK p s k ++ [wordA p s k] := by simp [wordsK, List.range_succ]
noncomputable def fmtScB (p : Pj) (s : Sc) : ByteArray := if formB p s = true then joinB (wordsK p s p.acts.length) spS else ⟨#[]⟩
theorem fmtSc_bad {p : Pj} {s : Sc} (h : formB p s = false) : fmtScB p s = ⟨#[]⟩ := by rw [fmtScB, h]; simp
theorem fmtSc_yes {p : Pj} {s : Sc} (h : formB p s = true) : fmtScB p s = joinB (wordsK p s p.acts.length) spS := by rw [fmtScB, if_pos h]
theorem join5 (a b c d e : ByteArray) : joinB [a, b, c, d, e] ⟨#[]⟩ = a ++ b ++ c ++ d ++ e := by
  simp only [joinB, List.length_cons, List.length_nil, jn]
  have he : ∀ x : ByteArray, x ++ ⟨#[]⟩ = x := fun x => by
    apply ByteArray.ext
    simp [ByteArray.data_append]
  have h0 : ∀ x : ByteArray, (⟨#[]⟩ : ByteArray) ++ x = x := fun x => by
    apply ByteArray.ext
    simp [ByteArray.data_append]
  simp [he, h0]
theorem aok_nm {a : Ac} {r s : Int} (h : aokB a r s = true) : a.nm.size ≤ 8 := by
  simp only [aokB, Bool.and_eq_true] at h
  have h2 := h.2.1
  simp only [nmB, Bool.and_eq_true] at h2
  first
    | exact (by have := inB_iff.1 h2.1; omega)
    | exact (by have := inB_iff.1 h2.2; omega)
    | (simp at h2; omega)
theorem Form.nm {p : Pj} {s : Sc} (h : Form p s) {a : Nat} (ha : a < p.acts.length) : (nmA p a).size ≤ 8 := by
  rw [nmA_at ha]
  exact aok_nm ((pok_acts h.ok).2 _ (List.getElem_mem ha))
theorem word_size {p : Pj} {s : Sc} (h : Form p s) {a : Nat} (ha : a < p.acts.length) : (wordA p s a).size ≤ 24 := by
  have := h.nm ha
  have := fmtB_size (stA s a)
  have := fmtB_size (moA s a)
  simp only [wordA, ByteArray.size_append]
  have : ampS.size = 1 := rfl
  have : slash.size = 1 := rfl
  omega
theorem tot_app (xs ys : List ByteArray) : tot (xs ++ ys) = tot xs + tot ys := by
  simp [tot]
theorem words_tot {p : Pj} {s : Sc} (h : Form p s) : ∀ k, k ≤ p.acts.length → tot (wordsK p s k) ≤ 24 * k
  | 0, _ => by simp [wordsK, tot]
  | k + 1, hk => by
    have i := words_tot h k (by omega)
    have w := word_size h (a := k) (by omega)
    rw [wordsK_succ, tot_app]
    have : tot [wordA p s k] = (wordA p s k).size := by simp [tot]
    omega

/-- joinAll of the five parts of a word. -/
theorem joinFive_any (f0 f1 f2 f3 f4 : ByteArray) (T : TypeId) (W : World) (hs0 : f0.size ≤ 1000) (hs1 : f1.size ≤ 1000) (hs2 : f2.size ≤ 1000) (hs3 : f3.size ≤ 1000) (hs4 : f4.size ≤ 1000) :
    Calls Tryz.prog 46 #[.string ⟨#[]⟩, .slice (some ⟨W.heap.size, 0, none⟩) 5 5] (W.alloc (.cells #[.string f0, .string f1, .string f2, .string f3, .string f4] T)) fun e w' => e = .returned (.string (f0 ++ f1 ++ f2 ++ f3 ++ f4)) ∧ Below W.heap.size W w' := by
  obtain ⟨hb0, hk, hs⟩ := boxes1 W T #[.string f0, .string f1, .string f2, .string f3, .string f4]
  obtain ⟨c0, c1, c2, c3, c4, _⟩ := hk.c5
  have hrd : Rd (W.alloc (.cells #[.string f0, .string f1, .string f2, .string f3, .string f4] T)) (.slice (some ⟨W.heap.size, 0, none⟩) 5 5) ([f0, f1, f2, f3, f4].map .string) := by
    refine ⟨by simp [maxLen], _, _, rfl, .inr ⟨W.heap.size, 0, rfl, by omega, fun j hj => ?_⟩⟩
    match j, hj with
    | 0, _ => simp [c0]
    | 1, _ => simp [c1]
    | 2, _ => simp [c2]
    | 3, _ => simp [c3]
    | 4, _ => simp [c4]
  refine (joinAll_any [f0, f1, f2, f3, f4] ⟨#[]⟩ _ _ hrd (by simp [tot]; omega) (by simp) (by decide)).mono ?_
  rintro e w' ⟨rfl, hb2⟩
  exact ⟨by rw [join5], hb0.trans (hb2.mono (by omega))⟩
def wV (p : Pj) (s : Sc) : Nat → Value := fun a => .string (wordA p s a)
theorem wV_all (p : Pj) (s : Sc) (n : Nat) : (List.range n).map (wV p s) = (wordsK p s n).map .string := by simp [wordsK, wV]

end Go.Proofs.YtaglfdkeomjpdabGreatDoor
