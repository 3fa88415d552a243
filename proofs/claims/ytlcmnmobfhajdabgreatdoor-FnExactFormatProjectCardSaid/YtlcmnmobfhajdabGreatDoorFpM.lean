/- DERIVED. A project as text: mathematics. No dump. -/
import Derived.Test.YtlcmnmobfhajdabGreatDoorNmQ
import Derived.Test.YtlcmnmobfhajdabGreatDoorStpTxt
import Derived.Test.YtlcmnmobfhajdabGreatDoorModTxt
import Derived.Test.YtlcmnmobfhajdabGreatDoorSetsS
namespace Go.Proofs.YtlcmnmobfhajdabGreatDoor
open Go.RowKit
set_option linter.unusedVariables false

def spB : ByteArray := ⟨#[32]⟩
def nlB : ByteArray := ⟨#[10]⟩
def rsWd : ByteArray := ⟨#[114, 101, 115, 111, 117, 114, 99, 101]⟩
def acWd : ByteArray := ⟨#[97, 99, 116, 105, 118, 105, 116, 121]⟩
def dlWd : ByteArray := ⟨#[100, 101, 97, 100, 108, 105, 110, 101]⟩
def stWd : ByteArray := ⟨#[115, 116, 111, 99, 107]⟩
def lkWd (fe : Bool) : ByteArray := if fe = true then ⟨#[101, 110, 100]⟩ else ⟨#[115, 116, 97, 114, 116]⟩
theorem join2P (x y b : ByteArray) : joinB [x, y] b = x ++ b ++ y := by
  unfold joinB
  show jn [x, y] b 2 = _
  rw [jn_succ (by omega) (by simp), jn_one (by simp)]; rfl
theorem join4P (x y z u b : ByteArray) : joinB [x, y, z, u] b = x ++ b ++ y ++ b ++ z ++ b ++ u := by
  show joinB ([x, y, z] ++ [u]) b = _
  rw [join_snoc _ _ _ (by simp), join3]
def dlLine (p : Pj) : ByteArray := dlWd ++ spB ++ fmtB p.dl
def stLine (n : Int) : ByteArray := stWd ++ spB ++ fmtB n
noncomputable def rsHead (r : Rs) : ByteArray := rsWd ++ spB ++ fmtSteps r.st
noncomputable def rsLine (r : Rs) : ByteArray := if r.su.length = 0 then rsHead r else rsHead r ++ spB ++ fmtsB (catB r.su)
def mdW (m : Md) : ByteArray := fmtMd m.du m.us m.co
def acHead (a : Ac) : ByteArray := acWd ++ spB ++ a.nm ++ spB ++ fmtB a.fa
def acK (a : Ac) (k : Nat) : List ByteArray := [acWd, a.nm, fmtB a.fa] ++ (a.ms.take k).map mdW
def acLineK (a : Ac) (k : Nat) : ByteArray := joinB (acK a k) spB
def acLine (a : Ac) : ByteArray := acLineK a a.ms.length
def lkLine (p : Pj) (l : Lk) : ByteArray := lkWd l.fe ++ spB ++ nmA p l.fr.toNat ++ spB ++ nmA p l.to.toNat ++ spB ++ fmtB l.lag
noncomputable def linesR (p : Pj) (k : Nat) : List ByteArray := [dlLine p] ++ (p.ress.take k).map rsLine
noncomputable def linesS (p : Pj) (k : Nat) : List ByteArray := linesR p p.ress.length ++ (p.stk.take k).map stLine
noncomputable def linesA (p : Pj) (k : Nat) : List ByteArray := linesS p p.stk.length ++ (p.acts.take k).map acLine
noncomputable def linesL (p : Pj) (k : Nat) : List ByteArray := linesA p p.acts.length ++ (p.lks.take k).map (lkLine p)
noncomputable def fmtPj (p : Pj) : ByteArray := if pokB p = true then joinB (linesL p p.lks.length) nlB ++ nlB else ⟨#[]⟩
theorem fmtPj_no {p : Pj} (h : pokB p = false) : fmtPj p = ⟨#[]⟩ := by rw [fmtPj, h]; simp
theorem fmtPj_yes {p : Pj} (h : pokB p = true) : fmtPj p = joinB (linesL p p.lks.length) nlB ++ nlB := by rw [fmtPj, if_pos h]
theorem take_mapP {α β : Type} {f : α → β} {xs : List α} {k : Nat} (h : k < xs.length) : (xs.take (k + 1)).map f = (xs.take k).map f ++ [f xs[k]] := by
  rw [List.take_succ_eq_append_getElem h, List.map_append]; rfl
theorem linesR_succ {p : Pj} {k : Nat} (h : k < p.ress.length) : linesR p (k + 1) = linesR p k ++ [rsLine p.ress[k]] := by rw [linesR, take_mapP h, ← List.append_assoc]; rfl
theorem linesS_succ {p : Pj} {k : Nat} (h : k < p.stk.length) : linesS p (k + 1) = linesS p k ++ [stLine p.stk[k]] := by rw [linesS, take_mapP h, ← List.append_assoc]; rfl
theorem linesA_succ {p : Pj} {k : Nat} (h : k < p.acts.length) : linesA p (k + 1) = linesA p k ++ [acLine p.acts[k]] := by rw [linesA, take_mapP h, ← List.append_assoc]; rfl
theorem linesL_succ {p : Pj} {k : Nat} (h : k < p.lks.length) : linesL p (k + 1) = linesL p k ++ [lkLine p p.lks[k]] := by rw [linesL, take_mapP h, ← List.append_assoc]; rfl
theorem linesR_0 (p : Pj) : linesR p 0 = [dlLine p] := by simp [linesR]
theorem linesS_0 (p : Pj) : linesS p 0 = linesR p p.ress.length := by simp [linesS]
theorem linesA_0 (p : Pj) : linesA p 0 = linesS p p.stk.length := by simp [linesA]
theorem linesL_0 (p : Pj) : linesL p 0 = linesA p p.acts.length := by simp [linesL]
theorem linesR_len (p : Pj) (k : Nat) : (linesR p k).length ≤ 1 + p.ress.length := by simp [linesR]; omega
theorem linesS_len (p : Pj) (k : Nat) : (linesS p k).length ≤ 1 + p.ress.length + p.stk.length := by have := linesR_len p p.ress.length; simp [linesS]; omega
theorem linesA_len (p : Pj) (k : Nat) : (linesA p k).length ≤ 1 + p.ress.length + p.stk.length + p.acts.length := by have := linesS_len p p.stk.length; simp [linesA]; omega
theorem linesL_len (p : Pj) (k : Nat) : (linesL p k).length ≤ 1 + p.ress.length + p.stk.length + p.acts.length + p.lks.length := by have := linesA_len p p.acts.length; simp [linesL]; omega
theorem acK_succ {a : Ac} {k : Nat} (h : k < a.ms.length) : acK a (k + 1) = acK a k ++ [mdW a.ms[k]] := by rw [acK, take_mapP h, ← List.append_assoc]; rfl
theorem acK_len (a : Ac) (k : Nat) : (acK a k).length ≤ 3 + a.ms.length := by simp [acK]; omega
theorem acK_0 (a : Ac) : acK a 0 = [acWd, a.nm, fmtB a.fa] := by simp [acK]
theorem acLineK_0 (a : Ac) : acLineK a 0 = acHead a := by rw [acLineK, acK_0, join3]; rfl
theorem acLineK_succ {a : Ac} {k : Nat} (h : k < a.ms.length) : acLineK a (k + 1) = acLineK a k ++ spB ++ mdW a.ms[k] := by
  rw [acLineK, acK_succ h, join_snoc _ _ _ (by simp [acK])]; rfl

-- sizes
theorem join_sizeP (xs : List ByteArray) (b : ByteArray) : (joinB xs b).size ≤ tot xs + xs.length * b.size := by
  have := jn_size xs b xs.length (Nat.le_refl _)
  rw [List.take_length] at this
  exact this
theorem tot_leP {n : Nat} : ∀ {xs : List ByteArray}, (∀ x ∈ xs, x.size ≤ n) → tot xs ≤ xs.length * n
  | [], _ => by simp [tot]
  | x :: xs, h => by
    have h1 := h x (by simp)
    have h2 := tot_leP (n := n) (xs := xs) fun y hy => h y (by simp [hy])
    have e : tot (x :: xs) = x.size + tot xs := by simp [tot]
    rw [e, List.length_cons, Nat.add_mul]
    omega
theorem fmtSteps_size {xs : List Pr} : (fmtSteps xs).size ≤ 16 * xs.length := by
  unfold fmtSteps
  split
  · have h1 := join_sizeP (xs.map fmtStep) comma
    have h2 := fmtSteps_tot xs
    have h3 : comma.size = 1 := rfl
    rw [h3, List.length_map] at h1
    omega
  · show 0 ≤ _; omega
theorem rsLine_size {r : Rs} (h : rokB r = true) : (rsLine r).size ≤ 1000 := by
  simp only [rokB, Bool.and_eq_true, Bool.or_eq_true, decide_eq_true_eq, List.all_eq_true] at h
  have hs := fmtSteps_size (xs := r.st)
  have h8 := (okP_iff.1 h.2.1).2.1
  have hh : (rsHead r).size ≤ 8 + 1 + 16 * r.st.length := by
    unfold rsHead
    rw [size_app, size_app]
    have e1 : rsWd.size = 8 := rfl
    have e2 : spB.size = 1 := rfl
    omega
  unfold rsLine
  split
  · omega
  · have hc := fmts_size (catB r.su)
    have hl : (catB r.su).length ≤ r.su.length * 4 := by
      unfold catB
      have : ∀ l : List (List Int), (∀ row ∈ l, row.length = 4) → l.flatten.length ≤ l.length * 4 := by
        intro l
        induction l with
        | nil => intro _; simp
        | cons x l ih =>
          intro hx
          have := ih fun row hr => hx row (by simp [hr])
          have := hx x (by simp)
          simp only [List.flatten_cons, List.length_append, List.length_cons]
          omega
      refine this _ fun row hr => ?_
      have := h.1 row hr
      simp only [rowB, Bool.and_eq_true, decide_eq_true_eq] at this
      omega
    rw [size_app, size_app]
    have e2 : spB.size = 1 := rfl
    omega
theorem mdW_size {m : Md} (hu : m.us.length ≤ 3) (hc : m.co.length ≤ 2) : (mdW m).size ≤ 100 := by
  unfold mdW fmtMd
  split
  · rw [join3]
    simp only [size_app]
    have e2 : slash.size = 1 := rfl
    have h0 := fmtB_size m.du
    have h1 := fmts_size m.us
    have h2 := fmts_size m.co
    omega
  · show 0 ≤ _; omega
theorem acLineK_size {a : Ac} (hn : a.nm.size ≤ 8) (hm : a.ms.length ≤ 3) (h : ∀ m ∈ a.ms, m.us.length ≤ 3 ∧ m.co.length ≤ 2) (k : Nat) : (acLineK a k).size ≤ 1000 := by
  have h1 := join_sizeP (acK a k) spB
  have h2 := acK_len a k
  have h3 : tot (acK a k) ≤ (acK a k).length * 100 := tot_leP fun x hx => by
    simp only [acK, List.mem_append, List.mem_cons, List.not_mem_nil, or_false, List.mem_map] at hx
    rcases hx with (rfl | rfl | rfl) | ⟨m, hm2, rfl⟩
    · decide
    · omega
    · have := fmtB_size a.fa; omega
    · have := h m (List.mem_of_mem_take hm2)
      exact mdW_size this.1 this.2
  have e2 : spB.size = 1 := rfl
  unfold acLineK
  rw [e2] at h1
  omega
theorem nm_smallP {s : ByteArray} (h : nmB s = true) : s.size ≤ 8 := by
  simp only [nmB, Bool.and_eq_true, decide_eq_true_eq] at h
  exact h.2.1
theorem nmA_small {p : Pj} (hp : pokB p = true) (a : Nat) : (nmA p a).size ≤ 8 := by
  by_cases h : a < p.acts.length
  · exact nm_smallP (nmA_good hp h).1
  · unfold nmA
    rw [List.getElem?_eq_none (by omega)]
    show 0 ≤ 8; omega
theorem lkLine_size {p : Pj} (hp : pokB p = true) (l : Lk) : (lkLine p l).size ≤ 1000 := by
  have h1 := nmA_small hp l.fr.toNat
  have h2 := nmA_small hp l.to.toNat
  have h3 := fmtB_size l.lag
  have h4 : (lkWd l.fe).size ≤ 5 := by unfold lkWd; split <;> decide
  have e2 : spB.size = 1 := rfl
  unfold lkLine
  simp only [size_app]
  omega
/-- What a valid project gives for its modes. -/
theorem act_parts {p : Pj} (hp : pokB p = true) {a : Ac} (ha : a ∈ p.acts) : nmB a.nm = true ∧ a.ms.length ≤ 3 ∧ (0 ≤ a.fa ∧ a.fa ≤ 3) ∧ ∀ m ∈ a.ms, (m.us.length ≤ 3 ∧ m.co.length ≤ 2) ∧ (∀ x ∈ m.us, 0 ≤ x ∧ x ≤ 20) ∧ (∀ x ∈ m.co, 0 ≤ x ∧ x ≤ 20) := by
  have h := (pok_acts hp).2 a ha
  have h2 := aok_modes h
  simp only [pokB, Bool.and_eq_true, decide_eq_true_eq] at hp
  have hr := hp.2.2.1
  have hs := hp.2.2.2.1
  simp only [aokB, Bool.and_eq_true] at h
  refine ⟨h.2.1, h2.1, inB_iff.1 h2.2.2, fun m hm => ?_⟩
  have hmk := h2.2.1 m hm
  simp only [mokB, numsB, Bool.and_eq_true, decide_eq_true_eq, List.all_eq_true] at hmk
  exact ⟨⟨by omega, by omega⟩, fun x hx => inB_iff.1 (hmk.2.1.1 x hx), fun x hx => inB_iff.1 (hmk.2.2.1 x hx)⟩
theorem lines_tot {p : Pj} (hp : pokB p = true) (k : Nat) : tot (linesL p k) ≤ (linesL p k).length * 1000 := tot_leP fun x hx => by
  have hq := hp
  simp only [pokB, Bool.and_eq_true, decide_eq_true_eq, List.all_eq_true] at hq
  have fm := fun n => fmtB_size n
  simp only [linesL, linesA, linesS, linesR, List.mem_append, List.mem_cons, List.not_mem_nil, or_false, List.mem_map] at hx
  rcases hx with (((rfl | ⟨r, hr, rfl⟩) | ⟨n, hn, rfl⟩) | ⟨a, ha, rfl⟩) | ⟨l, hl, rfl⟩
  · unfold dlLine
    simp only [size_app]
    have e1 : dlWd.size = 8 := rfl
    have e2 : spB.size = 1 := rfl
    have := fm p.dl
    omega
  · exact rsLine_size (hq.2.2.2.2.2.2.2.1 r (List.mem_of_mem_take hr))
  · unfold stLine
    simp only [size_app]
    have e1 : stWd.size = 5 := rfl
    have e2 : spB.size = 1 := rfl
    have := fm n
    omega
  · have := act_parts hp (List.mem_of_mem_take ha)
    exact acLineK_size (nm_smallP this.1) this.2.1 (fun m hm => (this.2.2.2 m hm).1) _
  · exact lkLine_size hp l
end Go.Proofs.YtlcmnmobfhajdabGreatDoor
