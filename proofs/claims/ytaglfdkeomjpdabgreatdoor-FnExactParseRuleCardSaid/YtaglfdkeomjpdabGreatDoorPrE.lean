/- DERIVED. CONTRACTS: elementAt over resources and activities; IsMachine, SetupTime, ProjectStats, of the model and of the program. -/
import Derived.Test.YtaglfdkeomjpdabGreatDoorPrD
import Derived.Deep.QuietTactic
namespace Go.Proofs.YtaglfdkeomjpdabGreatDoor
open Go.RowKit Go.Shelf
set_option linter.unusedVariables false

def atI {α : Type} (xs : List α) (i : Int) : Option α := if 0 ≤ i then xs[i.toNat]? else none
theorem atI_no {α : Type} {xs : List α} {i : Int} (h : ¬ (0 ≤ i ∧ i < (xs.length : Int))) : atI xs i = none := by
  unfold atI
  by_cases h0 : 0 ≤ i
  · rw [if_pos h0, List.getElem?_eq_none (by omega)]
  · rw [if_neg h0]
theorem atI_yes {α : Type} {xs : List α} {n : Nat} (h : n < xs.length) : atI xs (n : Int) = some xs[n] := by
  unfold atI
  rw [if_pos (by omega), Int.toNat_natCast, List.getElem?_eq_getElem h]
def machB (p : Pj) (r : Int) : Bool := match atI p.ress r with | some x => decide (0 < (x.su.length : Int)) | none => false
theorem machB_no {p : Pj} {r : Int} (h : ¬ (0 ≤ r ∧ r < (p.ress.length : Int))) : machB p r = false := by rw [machB, atI_no h]
theorem machB_yes {p : Pj} {n : Nat} (h : n < p.ress.length) : machB p (n : Int) = decide (0 < (p.ress[n].su.length : Int)) := by rw [machB, atI_yes h]

set_option maxRecDepth 100000 in
set_option maxHeartbeats 1000000 in
theorem elemResource_no (xs : List Rs) (i : Int) (v : Value) (w : World) (hr : (trRs xs).rd w v) (h : ¬ (0 ≤ i ∧ i < (xs.length : Int))) :
    Calls Tryz.prog 163 #[v, .int .i64 i] w fun e w' => e = .returned (.tuple #[.agg #[.slice none 0 0, .slice none 0 0], .bool false]) ∧ Below w.heap.size w w' := by
  obtain ⟨hla, A, c, rfl, _⟩ := rdResourceS_t hr
  clear hr
  by_cases h0 : i < 0
  · clear h
    go_enter Tryz.func163, Tryz.ntmps163
    go_wp2
    refine bodyPost_ret (v := .tuple #[.agg #[.slice none 0 0, .slice none 0 0], .bool false]) (by simp [results, Tryz.results163, go_sem]) rfl ⟨rfl, ?_⟩
    repeat (first | exact Below.refl _ _ | refine Below.setCell ?_ (by simp) _ | refine Below.alloc ?_ (by first | (simp; done) | (simp; omega)) _)
  · have h1 : (xs.length : Int) ≤ i := by omega
    clear h
    go_enter Tryz.func163, Tryz.ntmps163
    go_wp2
    refine bodyPost_ret (v := .tuple #[.agg #[.slice none 0 0, .slice none 0 0], .bool false]) (by simp [results, Tryz.results163, go_sem]) rfl ⟨rfl, ?_⟩
    repeat (first | exact Below.refl _ _ | refine Below.setCell ?_ (by simp) _ | refine Below.alloc ?_ (by first | (simp; done) | (simp; omega)) _)

set_option maxRecDepth 100000 in
set_option maxHeartbeats 1000000 in
theorem elemResource_yes (xs : List Rs) (n : Nat) (hn : n < xs.length) (v : Value) (w : World) (hr : (trRs xs).rd w v) :
    Calls Tryz.prog 163 #[v, .int .i64 (n : Int)] w fun e w' => ∃ A0 a0 A1 a1, e = .returned (.tuple #[.agg #[.slice A0 xs[n].st.length a0, .slice A1 xs[n].su.length a1], .bool true]) ∧ (trR xs[n]).rd w (.agg #[.slice A0 xs[n].st.length a0, .slice A1 xs[n].su.length a1]) ∧ Below w.heap.size w w' := by
  obtain ⟨hla, A, c, rfl, ga⟩ := rdResourceS_t hr
  clear hr
  obtain ⟨b, o, rfl, hb, hc⟩ := ga n hn
  obtain ⟨A0, a0, A1, a1, x0, x1, r0, r1⟩ := hc n hn
  have HM := Lib.hid (mk_rdResource_t (d := xs[n]) r0 r1)
  have h0 : (0 : Int) ≤ (n : Int) := by omega
  have h1 : (n : Int) < (xs.length : Int) := by omega
  clear ga hc r0 r1
  refine Calls.mono ?_ (fun e w' (h : e = .returned (.tuple #[.agg #[.slice A0 xs[n].st.length a0, .slice A1 xs[n].su.length a1], .bool true]) ∧ Below w.heap.size w w') => ⟨A0, a0, A1, a1, h.1, HM.out, h.2⟩)
  generalize xs[n] = m at x0 x1 ⊢
  clear HM
  go_enter Tryz.func163, Tryz.ntmps163
  go_wp2
  refine bodyPost_ret (v := .tuple #[.agg #[.slice A0 m.st.length a0, .slice A1 m.su.length a1], .bool true]) (by simp [results, Tryz.results163, go_sem]) rfl ⟨rfl, ?_⟩
  repeat (first | exact Below.refl _ _ | refine Below.setCell ?_ (by simp) _ | refine Below.alloc ?_ (by first | (simp; done) | (simp; omega)) _)

set_option maxRecDepth 100000 in
set_option maxHeartbeats 1000000 in
theorem specIsMachine_any (p : Pj) (r : Int) (v : Value) (w : World) (hv : (trPj p).rd w v) :
    Calls Tryz.prog 56 #[v, .int .i64 r] w fun e w' => e = .returned (.bool (machB p r)) ∧ Below w.heap.size w w' := by
  obtain ⟨A1, c1, A2, c2, A3, c3, A4, c4, rfl, r1, r2, r3, r4⟩ := rdProject_t hv
  obtain ⟨hl3, B3, d3, he, g3⟩ := rdResourceS_t r3
  injection he with he _ he2
  subst he he2
  have G3 := Lib.hid g3
  clear hv r1 r2 r3 r4 g3
  have HB := Lib.hid ((Below.refl w.heap.size w).alloc (Nat.le_refl _) (.cells #[.int .i64 p.dl, .slice A1 p.acts.length c1, .slice A2 p.lks.length c2, .slice A3 p.ress.length c3, .slice A4 p.stk.length c4] 37))
  by_cases h : 0 ≤ r ∧ r < (p.ress.length : Int)
  · obtain ⟨n, rfl⟩ : ∃ n : Nat, r = (n : Int) := ⟨r.toNat, by omega⟩
    have hn : n < p.ress.length := by omega
    obtain ⟨b, o, rfl, hb, hc⟩ := G3.out n hn
    obtain ⟨_, _, U, cu, y0, y1, _, _⟩ := hc n hn
    clear hc y0 G3
    rw [machB_yes hn]
    have HIN := Lib.hid (inB_yes (n := (n : Int)) (lo := 0) (hi := (p.ress.length : Int) - 1) (by omega))
    have hn' : (n : Int) < (p.ress.length : Int) := by omega
    clear h
    generalize p.ress[n].su.length = ls at y1
    go_enter Tryz.func56, Tryz.ntmps56
    go_wp2_with fail
    refine (inD_any _ _ _ _).mono ?_
    rintro e w1 ⟨rfl, rfl⟩
    rw [HIN.out]
    go_wp2
    go_ret
    exact ⟨by simp, HB.out⟩
  · rw [machB_no h]
    have HIN := Lib.hid (inB_no (n := r) (lo := 0) (hi := (p.ress.length : Int) - 1) (by omega))
    clear h
    go_enter Tryz.func56, Tryz.ntmps56
    go_wp2_with fail
    refine (inD_any _ _ _ _).mono ?_
    rintro e w1 ⟨rfl, rfl⟩
    rw [HIN.out]
    go_wp2
    go_ret
    exact ⟨by simp, HB.out⟩

set_option maxRecDepth 100000 in
set_option maxHeartbeats 1000000 in
theorem implIsMachine_any (p : Pj) (r : Int) (v : Value) (w : World) (hv : (trPj p).rd w v) :
    Calls Tryz.prog 162 #[v, .int .i64 r] w fun e w' => e = .returned (.bool (machB p r)) ∧ Below w.heap.size w w' := by
  obtain ⟨A1, c1, A2, c2, A3, c3, A4, c4, rfl, r1, r2, r3, r4⟩ := rdProject_t hv
  have R3 := Lib.hid r3
  clear hv r1 r2 r3 r4
  have S0 := Lib.hid ((Sn.start w).box 37 [.int .i64 p.dl, .slice A1 p.acts.length c1, .slice A2 p.lks.length c2, .slice A3 p.ress.length c3, .slice A4 p.stk.length c4])
  by_cases h : 0 ≤ r ∧ r < (p.ress.length : Int)
  · obtain ⟨n, rfl⟩ : ∃ n : Nat, r = (n : Int) := ⟨r.toNat, by omega⟩
    have hn : n < p.ress.length := by omega
    rw [machB_yes hn]
    clear h
    go_enter Tryz.func162, Tryz.ntmps162
    go_wp2_with fail
    refine (elemResource_yes p.ress n hn _ _ (by exact S0.out.old R3.out)).mono ?_
    rintro e w1 ⟨A0, a0, B1, a1, rfl, _, b⟩
    have S1 := Lib.hid ((S0.out.go b).box 86 [.slice A0 p.ress[n].st.length a0, .slice B1 p.ress[n].su.length a1])
    clear S0 b
    go_wp2
    go_ret
    exact ⟨by simp, S1.out.1⟩
  · rw [machB_no h]
    go_enter Tryz.func162, Tryz.ntmps162
    go_wp2_with fail
    refine (elemResource_no p.ress r _ _ (by exact S0.out.old R3.out) h).mono ?_
    rintro e w1 ⟨rfl, b⟩
    have S1 := Lib.hid ((S0.out.go b).box 86 [.slice none 0 0, .slice none 0 0])
    clear S0 b
    go_wp2
    go_ret
    exact ⟨rfl, S1.out.1⟩

/-- A slice of ints built at once. -/
theorem row1_new (w : World) (e : TypeId) (xs : List Int) (hx : xs.length ≤ maxLen) : (flat e (xs.map (.int .i64))).own (w.alloc (.cells ⟨xs.map (.int .i64)⟩ e)) w.heap.size (.slice (some ⟨w.heap.size, 0, none⟩) xs.length xs.length) [w.heap.size] ∧ Below w.heap.size w (w.alloc (.cells ⟨xs.map (.int .i64)⟩ e)) := by
  refine ⟨⟨xs.map (.int .i64), [], ⟨by simp, .inr ⟨w.heap.size, xs.length, ⟨xs.map (.int .i64)⟩, by simp, Nat.le_refl _, heap_alloc_new w _, by simp, hx, by simp, List.take_of_length_le (by simp)⟩⟩, ownL_ones.2 ⟨rfl, rfl⟩, by simp [Value.ownBlock]⟩, (Below.refl _ _).alloc (Nat.le_refl _) _⟩
def modesN (al : List Ac) : Nat := (al.map fun a => a.ms.length).sum
theorem modesN_take {al : List Ac} {k : Nat} (h : k < al.length) : modesN (al.take (k + 1)) = modesN (al.take k) + al[k].ms.length := by
  unfold modesN
  rw [List.take_succ_eq_append_getElem h, List.map_append, List.sum_append]
  simp
theorem modesN_le (al : List Ac) : ∀ {n : Nat}, (∀ a ∈ al, a.ms.length ≤ n) → modesN al ≤ al.length * n := by
  intro n h
  unfold modesN
  induction al with
  | nil => simp
  | cons a al ih =>
    have h1 := h a (by simp)
    have h2 := ih (fun x hx => h x (by simp [hx]))
    simp only [List.map_cons, List.sum_cons, List.length_cons, Nat.succ_mul]
    omega
noncomputable def statsB (p : Pj) : List Int := if pokB p = true then [(p.acts.length : Int), (modesN p.acts : Int), (p.lks.length : Int), (p.ress.length : Int), (p.stk.length : Int)] else []
theorem statsB_len (p : Pj) : (statsB p).length ≤ 5 := by unfold statsB; split <;> simp
theorem pok_acts {p : Pj} (h : pokB p = true) : p.acts.length ≤ 6 ∧ ∀ a ∈ p.acts, aokB a p.ress.length p.stk.length = true := by
  simp only [pokB, Bool.and_eq_true, List.all_eq_true] at h
  exact ⟨by have := (inB_iff.1 h.2.1).2; omega, h.2.2.2.2.2.1⟩
theorem aok_modes {a : Ac} {r s : Int} (h : aokB a r s = true) : a.ms.length ≤ 3 ∧ (∀ m ∈ a.ms, mokB m r s = true) ∧ inB a.fa 0 3 = true := by
  simp only [aokB, Bool.and_eq_true, List.all_eq_true] at h
  exact ⟨by have := (inB_iff.1 h.2.2.2).2; omega, h.1, h.2.2.1⟩
theorem mok_us {m : Md} {r s : Int} (h : mokB m r s = true) : (m.us.length : Int) = r ∧ ∀ x ∈ m.us, inB x 0 20 = true := by
  simp only [mokB, numsB, Bool.and_eq_true, List.all_eq_true, decide_eq_true_eq] at h
  exact ⟨h.2.1.2, h.2.1.1⟩

end Go.Proofs.YtaglfdkeomjpdabGreatDoor
