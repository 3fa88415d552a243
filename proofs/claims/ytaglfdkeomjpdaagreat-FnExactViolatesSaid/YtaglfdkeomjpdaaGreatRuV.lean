/- DERIVED. CONTRACTS of chapter 11: a rule as a condition behind an interface: ruleOf and conditionOf. -/
import Derived.Test.YtaglfdkeomjpdaaGreatRuM
import Derived.Test.YtaglfdkeomjpdaaGreatTRule
import Derived.Test.YtaglfdkeomjpdaaGreatDats
import Derived.Test.YtaglfdkeomjpdaaGreatRegZ
namespace Go.Proofs.YtaglfdkeomjpdaaGreat
open Go.RowKit Go.Shelf
set_option linter.unusedVariables false

def Cd.ty : Cd → TypeId
  | .lnk _ => 119
  | .fin _ => 121
  | .tim _ _ => 123
  | .wrk _ _ _ => 125
  | .par _ _ _ => 127
  | .stk _ => 129
def Cd.cs : Cd → List Value
  | .lnk a => [.int .i64 a]
  | .fin a => [.int .i64 a]
  | .tim a b => [.int .i64 a, .int .i64 b]
  | .wrk a b c => [.int .i64 a, .int .i64 b, .int .i64 c]
  | .par a b c => [.int .i64 a, .int .i64 b, .int .i64 c]
  | .stk a => [.int .i64 a]
def Cd.val (c : Cd) : Value := .iface c.ty (.agg ⟨c.cs⟩)
def ruV (r : Ru) : Value := .agg #[.int .i64 r.ki, .int .i64 r.a, .int .i64 r.b, .int .i64 r.c]
theorem as0_0 (v : Value) (w : World) : (Instr.typeAssert (.iface 119 v) 70 119 true).run Tryz.prog w = .ok (.tuple #[v, .bool true]) w := by kernel_rfl
theorem as1_1 (v : Value) (w : World) : (Instr.typeAssert (.iface 121 v) 70 121 true).run Tryz.prog w = .ok (.tuple #[v, .bool true]) w := by kernel_rfl
theorem as1_0 (v : Value) (w : World) : (Instr.typeAssert (.iface 121 v) 70 119 true).run Tryz.prog w = .ok (.tuple #[.agg #[.int .i64 0], .bool false]) w := by kernel_rfl
theorem as2_2 (v : Value) (w : World) : (Instr.typeAssert (.iface 123 v) 70 123 true).run Tryz.prog w = .ok (.tuple #[v, .bool true]) w := by kernel_rfl
theorem as2_0 (v : Value) (w : World) : (Instr.typeAssert (.iface 123 v) 70 119 true).run Tryz.prog w = .ok (.tuple #[.agg #[.int .i64 0], .bool false]) w := by kernel_rfl
theorem as2_1 (v : Value) (w : World) : (Instr.typeAssert (.iface 123 v) 70 121 true).run Tryz.prog w = .ok (.tuple #[.agg #[.int .i64 0], .bool false]) w := by kernel_rfl
theorem as3_3 (v : Value) (w : World) : (Instr.typeAssert (.iface 125 v) 70 125 true).run Tryz.prog w = .ok (.tuple #[v, .bool true]) w := by kernel_rfl
theorem as3_0 (v : Value) (w : World) : (Instr.typeAssert (.iface 125 v) 70 119 true).run Tryz.prog w = .ok (.tuple #[.agg #[.int .i64 0], .bool false]) w := by kernel_rfl
theorem as3_1 (v : Value) (w : World) : (Instr.typeAssert (.iface 125 v) 70 121 true).run Tryz.prog w = .ok (.tuple #[.agg #[.int .i64 0], .bool false]) w := by kernel_rfl
theorem as3_2 (v : Value) (w : World) : (Instr.typeAssert (.iface 125 v) 70 123 true).run Tryz.prog w = .ok (.tuple #[.agg #[.int .i64 0, .int .i64 0], .bool false]) w := by kernel_rfl
theorem as4_4 (v : Value) (w : World) : (Instr.typeAssert (.iface 127 v) 70 127 true).run Tryz.prog w = .ok (.tuple #[v, .bool true]) w := by kernel_rfl
theorem as4_0 (v : Value) (w : World) : (Instr.typeAssert (.iface 127 v) 70 119 true).run Tryz.prog w = .ok (.tuple #[.agg #[.int .i64 0], .bool false]) w := by kernel_rfl
theorem as4_1 (v : Value) (w : World) : (Instr.typeAssert (.iface 127 v) 70 121 true).run Tryz.prog w = .ok (.tuple #[.agg #[.int .i64 0], .bool false]) w := by kernel_rfl
theorem as4_2 (v : Value) (w : World) : (Instr.typeAssert (.iface 127 v) 70 123 true).run Tryz.prog w = .ok (.tuple #[.agg #[.int .i64 0, .int .i64 0], .bool false]) w := by kernel_rfl
theorem as4_3 (v : Value) (w : World) : (Instr.typeAssert (.iface 127 v) 70 125 true).run Tryz.prog w = .ok (.tuple #[.agg #[.int .i64 0, .int .i64 0, .int .i64 0], .bool false]) w := by kernel_rfl
theorem as5_5 (v : Value) (w : World) : (Instr.typeAssert (.iface 129 v) 70 129 true).run Tryz.prog w = .ok (.tuple #[v, .bool true]) w := by kernel_rfl
theorem as5_0 (v : Value) (w : World) : (Instr.typeAssert (.iface 129 v) 70 119 true).run Tryz.prog w = .ok (.tuple #[.agg #[.int .i64 0], .bool false]) w := by kernel_rfl
theorem as5_1 (v : Value) (w : World) : (Instr.typeAssert (.iface 129 v) 70 121 true).run Tryz.prog w = .ok (.tuple #[.agg #[.int .i64 0], .bool false]) w := by kernel_rfl
theorem as5_2 (v : Value) (w : World) : (Instr.typeAssert (.iface 129 v) 70 123 true).run Tryz.prog w = .ok (.tuple #[.agg #[.int .i64 0, .int .i64 0], .bool false]) w := by kernel_rfl
theorem as5_3 (v : Value) (w : World) : (Instr.typeAssert (.iface 129 v) 70 125 true).run Tryz.prog w = .ok (.tuple #[.agg #[.int .i64 0, .int .i64 0, .int .i64 0], .bool false]) w := by kernel_rfl
theorem as5_4 (v : Value) (w : World) : (Instr.typeAssert (.iface 129 v) 70 127 true).run Tryz.prog w = .ok (.tuple #[.agg #[.int .i64 0, .int .i64 0, .int .i64 0], .bool false]) w := by kernel_rfl

set_option maxRecDepth 100000 in
set_option maxHeartbeats 8000000 in
theorem neq_ru (x y : Ru) (w : World) : (binOp .neq 38 (ruV x) (ruV y)).run Tryz.prog w = .ok (.bool (!decide (x = y))) w := by
  have h : (binOp .neq 38 (ruV x) (ruV y)).run Tryz.prog w = .ok (.bool (!((x.ki == y.ki) && ((x.a == y.a) && ((x.b == y.b) && (x.c == y.c)))))) w := by
    unfold ruV
    rw [run_neq_struct, run_equalIn_struct w 9999 38 _ _ (by kernel_rfl) (by kernel_rfl)]
    simp only [Program.fieldsOf, Tryz.underlying38]
    cases h0 : (x.ki == y.ki) <;> cases h1 : (x.a == y.a) <;> cases h2 : (x.b == y.b) <;> cases h3 : (x.c == y.c) <;> go_simp <;> simp_all
  rw [h]
  congr 3
  rw [Bool.eq_iff_iff]
  simp [ru_ext]

set_option maxRecDepth 100000 in
set_option maxHeartbeats 8000000 in
theorem ruleOf_lnk (a : Int) (w : World) :
    Calls Tryz.prog 49 #[.iface 119 (.agg #[.int .i64 a])] w fun e w' => e = .returned (.agg #[.int .i64 1, .int .i64 a, .int .i64 0, .int .i64 0]) ∧ Below w.heap.size w w' := by
  have q0 := as0_0
  go_enter Tryz.func49, Tryz.ntmps49
  go_wp2
  refine bodyPost_ret (v := .agg #[.int .i64 1, .int .i64 a, .int .i64 0, .int .i64 0]) (by simp [results, Tryz.results49, go_sem]) rfl ⟨rfl, ?_⟩
  repeat (first | exact Below.refl _ _ | refine Below.setCell ?_ (by simp) _ | refine Below.alloc ?_ (by first | (simp; done) | (simp; omega)) _)
set_option maxRecDepth 100000 in
set_option maxHeartbeats 8000000 in
theorem ruleOf_fin (a : Int) (w : World) :
    Calls Tryz.prog 49 #[.iface 121 (.agg #[.int .i64 a])] w fun e w' => e = .returned (.agg #[.int .i64 2, .int .i64 a, .int .i64 0, .int .i64 0]) ∧ Below w.heap.size w w' := by
  have q0 := as1_0
  have q1 := as1_1
  go_enter Tryz.func49, Tryz.ntmps49
  go_wp2
  refine bodyPost_ret (v := .agg #[.int .i64 2, .int .i64 a, .int .i64 0, .int .i64 0]) (by simp [results, Tryz.results49, go_sem]) rfl ⟨rfl, ?_⟩
  repeat (first | exact Below.refl _ _ | refine Below.setCell ?_ (by simp) _ | refine Below.alloc ?_ (by first | (simp; done) | (simp; omega)) _)
set_option maxRecDepth 100000 in
set_option maxHeartbeats 8000000 in
theorem ruleOf_tim (a b : Int) (w : World) :
    Calls Tryz.prog 49 #[.iface 123 (.agg #[.int .i64 a, .int .i64 b])] w fun e w' => e = .returned (.agg #[.int .i64 3, .int .i64 a, .int .i64 b, .int .i64 0]) ∧ Below w.heap.size w w' := by
  have q0 := as2_0
  have q1 := as2_1
  have q2 := as2_2
  go_enter Tryz.func49, Tryz.ntmps49
  go_wp2
  refine bodyPost_ret (v := .agg #[.int .i64 3, .int .i64 a, .int .i64 b, .int .i64 0]) (by simp [results, Tryz.results49, go_sem]) rfl ⟨rfl, ?_⟩
  repeat (first | exact Below.refl _ _ | refine Below.setCell ?_ (by simp) _ | refine Below.alloc ?_ (by first | (simp; done) | (simp; omega)) _)
set_option maxRecDepth 100000 in
set_option maxHeartbeats 8000000 in
theorem ruleOf_wrk (a b c : Int) (w : World) :
    Calls Tryz.prog 49 #[.iface 125 (.agg #[.int .i64 a, .int .i64 b, .int .i64 c])] w fun e w' => e = .returned (.agg #[.int .i64 4, .int .i64 a, .int .i64 b, .int .i64 c]) ∧ Below w.heap.size w w' := by
  have q0 := as3_0
  have q1 := as3_1
  have q2 := as3_2
  have q3 := as3_3
  go_enter Tryz.func49, Tryz.ntmps49
  go_wp2
  refine bodyPost_ret (v := .agg #[.int .i64 4, .int .i64 a, .int .i64 b, .int .i64 c]) (by simp [results, Tryz.results49, go_sem]) rfl ⟨rfl, ?_⟩
  repeat (first | exact Below.refl _ _ | refine Below.setCell ?_ (by simp) _ | refine Below.alloc ?_ (by first | (simp; done) | (simp; omega)) _)
set_option maxRecDepth 100000 in
set_option maxHeartbeats 8000000 in
theorem ruleOf_par (a b c : Int) (w : World) :
    Calls Tryz.prog 49 #[.iface 127 (.agg #[.int .i64 a, .int .i64 b, .int .i64 c])] w fun e w' => e = .returned (.agg #[.int .i64 5, .int .i64 a, .int .i64 b, .int .i64 c]) ∧ Below w.heap.size w w' := by
  have q0 := as4_0
  have q1 := as4_1
  have q2 := as4_2
  have q3 := as4_3
  have q4 := as4_4
  go_enter Tryz.func49, Tryz.ntmps49
  go_wp2
  refine bodyPost_ret (v := .agg #[.int .i64 5, .int .i64 a, .int .i64 b, .int .i64 c]) (by simp [results, Tryz.results49, go_sem]) rfl ⟨rfl, ?_⟩
  repeat (first | exact Below.refl _ _ | refine Below.setCell ?_ (by simp) _ | refine Below.alloc ?_ (by first | (simp; done) | (simp; omega)) _)
set_option maxRecDepth 100000 in
set_option maxHeartbeats 8000000 in
theorem ruleOf_stk (a : Int) (w : World) :
    Calls Tryz.prog 49 #[.iface 129 (.agg #[.int .i64 a])] w fun e w' => e = .returned (.agg #[.int .i64 6, .int .i64 a, .int .i64 0, .int .i64 0]) ∧ Below w.heap.size w w' := by
  have q0 := as5_0
  have q1 := as5_1
  have q2 := as5_2
  have q3 := as5_3
  have q4 := as5_4
  have q5 := as5_5
  go_enter Tryz.func49, Tryz.ntmps49
  go_wp2
  refine bodyPost_ret (v := .agg #[.int .i64 6, .int .i64 a, .int .i64 0, .int .i64 0]) (by simp [results, Tryz.results49, go_sem]) rfl ⟨rfl, ?_⟩
  repeat (first | exact Below.refl _ _ | refine Below.setCell ?_ (by simp) _ | refine Below.alloc ?_ (by first | (simp; done) | (simp; omega)) _)
theorem ruleOf_any (c : Cd) (w : World) :
    Calls Tryz.prog 49 #[c.val] w fun e w' => e = .returned (ruV c.ru) ∧ Below w.heap.size w w' := by
  cases c with
  | lnk a => exact ruleOf_lnk a w
  | fin a => exact ruleOf_fin a w
  | tim a b => exact ruleOf_tim a b w
  | wrk a b c => exact ruleOf_wrk a b c w
  | par a b c => exact ruleOf_par a b c w
  | stk a => exact ruleOf_stk a w

def optC (c : Option Cd) : Ending := match c with | some c => Ending.returned (.tuple #[c.val, .bool true]) | none => Ending.returned (.tuple #[.nilIface, .bool false])
set_option maxRecDepth 100000 in
set_option maxHeartbeats 8000000 in
theorem conditionOf_any (r : Ru) (w : World) :
    Calls Tryz.prog 45 #[ruV r] w fun e w' => e = optC (condOf r) ∧ Below w.heap.size w w' := by
  obtain ⟨ki, a, b, c⟩ := r
  have S0 := Lib.hid ((Sn.start w).box 38 [.int .i64 ki, .int .i64 a, .int .i64 b, .int .i64 c])
  generalize hres : optC (condOf ⟨ki, a, b, c⟩) = res
  have RES := Lib.hid hres
  clear hres
  unfold ruV
  by_cases k0 : ki = 1
  · subst k0
    have HN := Lib.hid (cond_odd (r := ⟨1, a, b, c⟩) (c := .lnk a) (by simp [kindC]))
    have HY := Lib.hid (cond_yes (r := ⟨1, a, b, c⟩) (c := .lnk a) (by simp [kindC]))
    have hq : ∀ w : World, (binOp .neq 38 (.agg #[.int .i64 1, .int .i64 a, .int .i64 0, .int .i64 0]) (.agg #[.int .i64 1, .int .i64 a, .int .i64 b, .int .i64 c])).run Tryz.prog w = .ok (.bool (!decide ((Cd.lnk a).ru = ⟨1, a, b, c⟩))) w := fun w => neq_ru (Cd.lnk a).ru ⟨1, a, b, c⟩ w
    generalize hbb : decide ((Cd.lnk a).ru = ⟨1, a, b, c⟩) = bb at hq
    have HB := Lib.hid hbb
    clear hbb
    go_enter Tryz.func45, Tryz.ntmps45
    go_wp2_with fail
    generalize World.alloc w _ = wv at S0 ⊢
    obtain ⟨e0, e1, e2, e3, ef⟩ := (S0.out.bk 0 rfl).c4
    have hl0 := (S0.out.bk 0 rfl).lt
    have S1 := Lib.hid S0.out.drew1
    have CE := Lib.hid (fun (W : World) (h : Wr [] wv.drew W) => show Hid (Wr [] wv.drew W) ∧ W.cell? ⟨w.heap.size, 0, none⟩ = some (.int .i64 1) ∧ W.cell? ⟨w.heap.size, 1, none⟩ = some (.int .i64 a) ∧ W.cell? ⟨w.heap.size, 2, none⟩ = some (.int .i64 b) ∧ W.cell? ⟨w.heap.size, 3, none⟩ = some (.int .i64 c) from ⟨Lib.hid h, (wr_cell h (p := ⟨w.heap.size, 0, none⟩) hl0 (by simp)).trans (by exact by simpa using e0), (wr_cell h (p := ⟨w.heap.size, 1, none⟩) hl0 (by simp)).trans (by exact by simpa using e1), (wr_cell h (p := ⟨w.heap.size, 2, none⟩) hl0 (by simp)).trans (by exact by simpa using e2), (wr_cell h (p := ⟨w.heap.size, 3, none⟩) hl0 (by simp)).trans (by exact by simpa using e3)⟩)
    have INIT := Lib.hid (CE.out _ (Wr.refl _ _))
    have KW := Lib.hid (fun (W2 W : World) (hb : Wr [] W W2) (h : Hid (Wr [] wv.drew W) ∧ W.cell? ⟨w.heap.size, 0, none⟩ = some (.int .i64 1) ∧ W.cell? ⟨w.heap.size, 1, none⟩ = some (.int .i64 a) ∧ W.cell? ⟨w.heap.size, 2, none⟩ = some (.int .i64 b) ∧ W.cell? ⟨w.heap.size, 3, none⟩ = some (.int .i64 c)) => CE.out W2 (h.1.out.trans hb))
    clear e0 e1 e2 e3 ef
    go_region_held3 (fun W => Hid (Wr [] wv.drew W) ∧ W.cell? ⟨w.heap.size, 0, none⟩ = some (.int .i64 1) ∧ W.cell? ⟨w.heap.size, 1, none⟩ = some (.int .i64 a) ∧ W.cell? ⟨w.heap.size, 2, none⟩ = some (.int .i64 b) ∧ W.cell? ⟨w.heap.size, 3, none⟩ = some (.int .i64 c)) (first | exact INIT.out | exact KW.out _ _ (by assumption) (by assumption) | exact KW.out _ _ (Wr.of_below (by assumption) (Nat.le_refl _)) (by assumption) | exact KW.out _ _ (Wr.of_below ((Below.refl _ _).alloc (Nat.le_refl _) _) (Nat.le_refl _)) (by assumption))
      ((go_at_call 49; refine (ruleOf_lnk a _).mono ?_; rintro e w5 ⟨rfl, b5⟩; have S2 := Lib.hid (S1.out.go b5)))
    rename_i hHeld
    clear hHeld CE INIT KW S1 b5 hl0
    rcases bb with _ | _
    · have HC := Lib.hid (HN.out (of_decide_eq_false HB.out))
      go_wp2
      go_ret2
      exact ⟨by rw [← RES.out, HC.out]; rfl, S2.out.1⟩
    · have HC := Lib.hid (HY.out (of_decide_eq_true HB.out))
      go_wp2
      go_ret2
      exact ⟨by rw [← RES.out, HC.out]; rfl, S2.out.1⟩
  by_cases k1 : ki = 2
  · subst k1
    have HN := Lib.hid (cond_odd (r := ⟨2, a, b, c⟩) (c := .fin a) (by simp [kindC]))
    have HY := Lib.hid (cond_yes (r := ⟨2, a, b, c⟩) (c := .fin a) (by simp [kindC]))
    have hq : ∀ w : World, (binOp .neq 38 (.agg #[.int .i64 2, .int .i64 a, .int .i64 0, .int .i64 0]) (.agg #[.int .i64 2, .int .i64 a, .int .i64 b, .int .i64 c])).run Tryz.prog w = .ok (.bool (!decide ((Cd.fin a).ru = ⟨2, a, b, c⟩))) w := fun w => neq_ru (Cd.fin a).ru ⟨2, a, b, c⟩ w
    generalize hbb : decide ((Cd.fin a).ru = ⟨2, a, b, c⟩) = bb at hq
    have HB := Lib.hid hbb
    clear hbb
    go_enter Tryz.func45, Tryz.ntmps45
    go_wp2_with fail
    generalize World.alloc w _ = wv at S0 ⊢
    obtain ⟨e0, e1, e2, e3, ef⟩ := (S0.out.bk 0 rfl).c4
    have hl0 := (S0.out.bk 0 rfl).lt
    have S1 := Lib.hid S0.out.drew1
    have CE := Lib.hid (fun (W : World) (h : Wr [] wv.drew W) => show Hid (Wr [] wv.drew W) ∧ W.cell? ⟨w.heap.size, 0, none⟩ = some (.int .i64 2) ∧ W.cell? ⟨w.heap.size, 1, none⟩ = some (.int .i64 a) ∧ W.cell? ⟨w.heap.size, 2, none⟩ = some (.int .i64 b) ∧ W.cell? ⟨w.heap.size, 3, none⟩ = some (.int .i64 c) from ⟨Lib.hid h, (wr_cell h (p := ⟨w.heap.size, 0, none⟩) hl0 (by simp)).trans (by exact by simpa using e0), (wr_cell h (p := ⟨w.heap.size, 1, none⟩) hl0 (by simp)).trans (by exact by simpa using e1), (wr_cell h (p := ⟨w.heap.size, 2, none⟩) hl0 (by simp)).trans (by exact by simpa using e2), (wr_cell h (p := ⟨w.heap.size, 3, none⟩) hl0 (by simp)).trans (by exact by simpa using e3)⟩)
    have INIT := Lib.hid (CE.out _ (Wr.refl _ _))
    have KW := Lib.hid (fun (W2 W : World) (hb : Wr [] W W2) (h : Hid (Wr [] wv.drew W) ∧ W.cell? ⟨w.heap.size, 0, none⟩ = some (.int .i64 2) ∧ W.cell? ⟨w.heap.size, 1, none⟩ = some (.int .i64 a) ∧ W.cell? ⟨w.heap.size, 2, none⟩ = some (.int .i64 b) ∧ W.cell? ⟨w.heap.size, 3, none⟩ = some (.int .i64 c)) => CE.out W2 (h.1.out.trans hb))
    clear e0 e1 e2 e3 ef
    go_region_held3 (fun W => Hid (Wr [] wv.drew W) ∧ W.cell? ⟨w.heap.size, 0, none⟩ = some (.int .i64 2) ∧ W.cell? ⟨w.heap.size, 1, none⟩ = some (.int .i64 a) ∧ W.cell? ⟨w.heap.size, 2, none⟩ = some (.int .i64 b) ∧ W.cell? ⟨w.heap.size, 3, none⟩ = some (.int .i64 c)) (first | exact INIT.out | exact KW.out _ _ (by assumption) (by assumption) | exact KW.out _ _ (Wr.of_below (by assumption) (Nat.le_refl _)) (by assumption) | exact KW.out _ _ (Wr.of_below ((Below.refl _ _).alloc (Nat.le_refl _) _) (Nat.le_refl _)) (by assumption))
      ((go_at_call 49; refine (ruleOf_fin a _).mono ?_; rintro e w5 ⟨rfl, b5⟩; have S2 := Lib.hid (S1.out.go b5)))
    rename_i hHeld
    clear hHeld CE INIT KW S1 b5 hl0
    rcases bb with _ | _
    · have HC := Lib.hid (HN.out (of_decide_eq_false HB.out))
      go_wp2
      go_ret2
      exact ⟨by rw [← RES.out, HC.out]; rfl, S2.out.1⟩
    · have HC := Lib.hid (HY.out (of_decide_eq_true HB.out))
      go_wp2
      go_ret2
      exact ⟨by rw [← RES.out, HC.out]; rfl, S2.out.1⟩
  by_cases k2 : ki = 3
  · subst k2
    have HN := Lib.hid (cond_odd (r := ⟨3, a, b, c⟩) (c := .tim a b) (by simp [kindC]))
    have HY := Lib.hid (cond_yes (r := ⟨3, a, b, c⟩) (c := .tim a b) (by simp [kindC]))
    have hq : ∀ w : World, (binOp .neq 38 (.agg #[.int .i64 3, .int .i64 a, .int .i64 b, .int .i64 0]) (.agg #[.int .i64 3, .int .i64 a, .int .i64 b, .int .i64 c])).run Tryz.prog w = .ok (.bool (!decide ((Cd.tim a b).ru = ⟨3, a, b, c⟩))) w := fun w => neq_ru (Cd.tim a b).ru ⟨3, a, b, c⟩ w
    generalize hbb : decide ((Cd.tim a b).ru = ⟨3, a, b, c⟩) = bb at hq
    have HB := Lib.hid hbb
    clear hbb
    go_enter Tryz.func45, Tryz.ntmps45
    go_wp2_with fail
    generalize World.alloc w _ = wv at S0 ⊢
    obtain ⟨e0, e1, e2, e3, ef⟩ := (S0.out.bk 0 rfl).c4
    have hl0 := (S0.out.bk 0 rfl).lt
    have S1 := Lib.hid S0.out.drew1
    have CE := Lib.hid (fun (W : World) (h : Wr [] wv.drew W) => show Hid (Wr [] wv.drew W) ∧ W.cell? ⟨w.heap.size, 0, none⟩ = some (.int .i64 3) ∧ W.cell? ⟨w.heap.size, 1, none⟩ = some (.int .i64 a) ∧ W.cell? ⟨w.heap.size, 2, none⟩ = some (.int .i64 b) ∧ W.cell? ⟨w.heap.size, 3, none⟩ = some (.int .i64 c) from ⟨Lib.hid h, (wr_cell h (p := ⟨w.heap.size, 0, none⟩) hl0 (by simp)).trans (by exact by simpa using e0), (wr_cell h (p := ⟨w.heap.size, 1, none⟩) hl0 (by simp)).trans (by exact by simpa using e1), (wr_cell h (p := ⟨w.heap.size, 2, none⟩) hl0 (by simp)).trans (by exact by simpa using e2), (wr_cell h (p := ⟨w.heap.size, 3, none⟩) hl0 (by simp)).trans (by exact by simpa using e3)⟩)
    have INIT := Lib.hid (CE.out _ (Wr.refl _ _))
    have KW := Lib.hid (fun (W2 W : World) (hb : Wr [] W W2) (h : Hid (Wr [] wv.drew W) ∧ W.cell? ⟨w.heap.size, 0, none⟩ = some (.int .i64 3) ∧ W.cell? ⟨w.heap.size, 1, none⟩ = some (.int .i64 a) ∧ W.cell? ⟨w.heap.size, 2, none⟩ = some (.int .i64 b) ∧ W.cell? ⟨w.heap.size, 3, none⟩ = some (.int .i64 c)) => CE.out W2 (h.1.out.trans hb))
    clear e0 e1 e2 e3 ef
    go_region_held3 (fun W => Hid (Wr [] wv.drew W) ∧ W.cell? ⟨w.heap.size, 0, none⟩ = some (.int .i64 3) ∧ W.cell? ⟨w.heap.size, 1, none⟩ = some (.int .i64 a) ∧ W.cell? ⟨w.heap.size, 2, none⟩ = some (.int .i64 b) ∧ W.cell? ⟨w.heap.size, 3, none⟩ = some (.int .i64 c)) (first | exact INIT.out | exact KW.out _ _ (by assumption) (by assumption) | exact KW.out _ _ (Wr.of_below (by assumption) (Nat.le_refl _)) (by assumption) | exact KW.out _ _ (Wr.of_below ((Below.refl _ _).alloc (Nat.le_refl _) _) (Nat.le_refl _)) (by assumption))
      ((go_at_call 49; refine (ruleOf_tim a b _).mono ?_; rintro e w5 ⟨rfl, b5⟩; have S2 := Lib.hid (S1.out.go b5)))
    rename_i hHeld
    clear hHeld CE INIT KW S1 b5 hl0
    rcases bb with _ | _
    · have HC := Lib.hid (HN.out (of_decide_eq_false HB.out))
      go_wp2
      go_ret2
      exact ⟨by rw [← RES.out, HC.out]; rfl, S2.out.1⟩
    · have HC := Lib.hid (HY.out (of_decide_eq_true HB.out))
      go_wp2
      go_ret2
      exact ⟨by rw [← RES.out, HC.out]; rfl, S2.out.1⟩
  by_cases k3 : ki = 4
  · subst k3
    have HN := Lib.hid (cond_odd (r := ⟨4, a, b, c⟩) (c := .wrk a b c) (by simp [kindC]))
    have HY := Lib.hid (cond_yes (r := ⟨4, a, b, c⟩) (c := .wrk a b c) (by simp [kindC]))
    have hq : ∀ w : World, (binOp .neq 38 (.agg #[.int .i64 4, .int .i64 a, .int .i64 b, .int .i64 c]) (.agg #[.int .i64 4, .int .i64 a, .int .i64 b, .int .i64 c])).run Tryz.prog w = .ok (.bool (!decide ((Cd.wrk a b c).ru = ⟨4, a, b, c⟩))) w := fun w => neq_ru (Cd.wrk a b c).ru ⟨4, a, b, c⟩ w
    generalize hbb : decide ((Cd.wrk a b c).ru = ⟨4, a, b, c⟩) = bb at hq
    have HB := Lib.hid hbb
    clear hbb
    go_enter Tryz.func45, Tryz.ntmps45
    go_wp2_with fail
    generalize World.alloc w _ = wv at S0 ⊢
    obtain ⟨e0, e1, e2, e3, ef⟩ := (S0.out.bk 0 rfl).c4
    have hl0 := (S0.out.bk 0 rfl).lt
    have S1 := Lib.hid S0.out.drew1
    have CE := Lib.hid (fun (W : World) (h : Wr [] wv.drew W) => show Hid (Wr [] wv.drew W) ∧ W.cell? ⟨w.heap.size, 0, none⟩ = some (.int .i64 4) ∧ W.cell? ⟨w.heap.size, 1, none⟩ = some (.int .i64 a) ∧ W.cell? ⟨w.heap.size, 2, none⟩ = some (.int .i64 b) ∧ W.cell? ⟨w.heap.size, 3, none⟩ = some (.int .i64 c) from ⟨Lib.hid h, (wr_cell h (p := ⟨w.heap.size, 0, none⟩) hl0 (by simp)).trans (by exact by simpa using e0), (wr_cell h (p := ⟨w.heap.size, 1, none⟩) hl0 (by simp)).trans (by exact by simpa using e1), (wr_cell h (p := ⟨w.heap.size, 2, none⟩) hl0 (by simp)).trans (by exact by simpa using e2), (wr_cell h (p := ⟨w.heap.size, 3, none⟩) hl0 (by simp)).trans (by exact by simpa using e3)⟩)
    have INIT := Lib.hid (CE.out _ (Wr.refl _ _))
    have KW := Lib.hid (fun (W2 W : World) (hb : Wr [] W W2) (h : Hid (Wr [] wv.drew W) ∧ W.cell? ⟨w.heap.size, 0, none⟩ = some (.int .i64 4) ∧ W.cell? ⟨w.heap.size, 1, none⟩ = some (.int .i64 a) ∧ W.cell? ⟨w.heap.size, 2, none⟩ = some (.int .i64 b) ∧ W.cell? ⟨w.heap.size, 3, none⟩ = some (.int .i64 c)) => CE.out W2 (h.1.out.trans hb))
    clear e0 e1 e2 e3 ef
    go_region_held3 (fun W => Hid (Wr [] wv.drew W) ∧ W.cell? ⟨w.heap.size, 0, none⟩ = some (.int .i64 4) ∧ W.cell? ⟨w.heap.size, 1, none⟩ = some (.int .i64 a) ∧ W.cell? ⟨w.heap.size, 2, none⟩ = some (.int .i64 b) ∧ W.cell? ⟨w.heap.size, 3, none⟩ = some (.int .i64 c)) (first | exact INIT.out | exact KW.out _ _ (by assumption) (by assumption) | exact KW.out _ _ (Wr.of_below (by assumption) (Nat.le_refl _)) (by assumption) | exact KW.out _ _ (Wr.of_below ((Below.refl _ _).alloc (Nat.le_refl _) _) (Nat.le_refl _)) (by assumption))
      ((go_at_call 49; refine (ruleOf_wrk a b c _).mono ?_; rintro e w5 ⟨rfl, b5⟩; have S2 := Lib.hid (S1.out.go b5)))
    rename_i hHeld
    clear hHeld CE INIT KW S1 b5 hl0
    rcases bb with _ | _
    · have HC := Lib.hid (HN.out (of_decide_eq_false HB.out))
      go_wp2
      go_ret2
      exact ⟨by rw [← RES.out, HC.out]; rfl, S2.out.1⟩
    · have HC := Lib.hid (HY.out (of_decide_eq_true HB.out))
      go_wp2
      go_ret2
      exact ⟨by rw [← RES.out, HC.out]; rfl, S2.out.1⟩
  by_cases k4 : ki = 5
  · subst k4
    have HN := Lib.hid (cond_odd (r := ⟨5, a, b, c⟩) (c := .par a b c) (by simp [kindC]))
    have HY := Lib.hid (cond_yes (r := ⟨5, a, b, c⟩) (c := .par a b c) (by simp [kindC]))
    have hq : ∀ w : World, (binOp .neq 38 (.agg #[.int .i64 5, .int .i64 a, .int .i64 b, .int .i64 c]) (.agg #[.int .i64 5, .int .i64 a, .int .i64 b, .int .i64 c])).run Tryz.prog w = .ok (.bool (!decide ((Cd.par a b c).ru = ⟨5, a, b, c⟩))) w := fun w => neq_ru (Cd.par a b c).ru ⟨5, a, b, c⟩ w
    generalize hbb : decide ((Cd.par a b c).ru = ⟨5, a, b, c⟩) = bb at hq
    have HB := Lib.hid hbb
    clear hbb
    go_enter Tryz.func45, Tryz.ntmps45
    go_wp2_with fail
    generalize World.alloc w _ = wv at S0 ⊢
    obtain ⟨e0, e1, e2, e3, ef⟩ := (S0.out.bk 0 rfl).c4
    have hl0 := (S0.out.bk 0 rfl).lt
    have S1 := Lib.hid S0.out.drew1
    have CE := Lib.hid (fun (W : World) (h : Wr [] wv.drew W) => show Hid (Wr [] wv.drew W) ∧ W.cell? ⟨w.heap.size, 0, none⟩ = some (.int .i64 5) ∧ W.cell? ⟨w.heap.size, 1, none⟩ = some (.int .i64 a) ∧ W.cell? ⟨w.heap.size, 2, none⟩ = some (.int .i64 b) ∧ W.cell? ⟨w.heap.size, 3, none⟩ = some (.int .i64 c) from ⟨Lib.hid h, (wr_cell h (p := ⟨w.heap.size, 0, none⟩) hl0 (by simp)).trans (by exact by simpa using e0), (wr_cell h (p := ⟨w.heap.size, 1, none⟩) hl0 (by simp)).trans (by exact by simpa using e1), (wr_cell h (p := ⟨w.heap.size, 2, none⟩) hl0 (by simp)).trans (by exact by simpa using e2), (wr_cell h (p := ⟨w.heap.size, 3, none⟩) hl0 (by simp)).trans (by exact by simpa using e3)⟩)
    have INIT := Lib.hid (CE.out _ (Wr.refl _ _))
    have KW := Lib.hid (fun (W2 W : World) (hb : Wr [] W W2) (h : Hid (Wr [] wv.drew W) ∧ W.cell? ⟨w.heap.size, 0, none⟩ = some (.int .i64 5) ∧ W.cell? ⟨w.heap.size, 1, none⟩ = some (.int .i64 a) ∧ W.cell? ⟨w.heap.size, 2, none⟩ = some (.int .i64 b) ∧ W.cell? ⟨w.heap.size, 3, none⟩ = some (.int .i64 c)) => CE.out W2 (h.1.out.trans hb))
    clear e0 e1 e2 e3 ef
    go_region_held3 (fun W => Hid (Wr [] wv.drew W) ∧ W.cell? ⟨w.heap.size, 0, none⟩ = some (.int .i64 5) ∧ W.cell? ⟨w.heap.size, 1, none⟩ = some (.int .i64 a) ∧ W.cell? ⟨w.heap.size, 2, none⟩ = some (.int .i64 b) ∧ W.cell? ⟨w.heap.size, 3, none⟩ = some (.int .i64 c)) (first | exact INIT.out | exact KW.out _ _ (by assumption) (by assumption) | exact KW.out _ _ (Wr.of_below (by assumption) (Nat.le_refl _)) (by assumption) | exact KW.out _ _ (Wr.of_below ((Below.refl _ _).alloc (Nat.le_refl _) _) (Nat.le_refl _)) (by assumption))
      ((go_at_call 49; refine (ruleOf_par a b c _).mono ?_; rintro e w5 ⟨rfl, b5⟩; have S2 := Lib.hid (S1.out.go b5)))
    rename_i hHeld
    clear hHeld CE INIT KW S1 b5 hl0
    rcases bb with _ | _
    · have HC := Lib.hid (HN.out (of_decide_eq_false HB.out))
      go_wp2
      go_ret2
      exact ⟨by rw [← RES.out, HC.out]; rfl, S2.out.1⟩
    · have HC := Lib.hid (HY.out (of_decide_eq_true HB.out))
      go_wp2
      go_ret2
      exact ⟨by rw [← RES.out, HC.out]; rfl, S2.out.1⟩
  by_cases k5 : ki = 6
  · subst k5
    have HN := Lib.hid (cond_odd (r := ⟨6, a, b, c⟩) (c := .stk a) (by simp [kindC]))
    have HY := Lib.hid (cond_yes (r := ⟨6, a, b, c⟩) (c := .stk a) (by simp [kindC]))
    have hq : ∀ w : World, (binOp .neq 38 (.agg #[.int .i64 6, .int .i64 a, .int .i64 0, .int .i64 0]) (.agg #[.int .i64 6, .int .i64 a, .int .i64 b, .int .i64 c])).run Tryz.prog w = .ok (.bool (!decide ((Cd.stk a).ru = ⟨6, a, b, c⟩))) w := fun w => neq_ru (Cd.stk a).ru ⟨6, a, b, c⟩ w
    generalize hbb : decide ((Cd.stk a).ru = ⟨6, a, b, c⟩) = bb at hq
    have HB := Lib.hid hbb
    clear hbb
    go_enter Tryz.func45, Tryz.ntmps45
    go_wp2_with fail
    generalize World.alloc w _ = wv at S0 ⊢
    obtain ⟨e0, e1, e2, e3, ef⟩ := (S0.out.bk 0 rfl).c4
    have hl0 := (S0.out.bk 0 rfl).lt
    have S1 := Lib.hid S0.out.drew1
    have CE := Lib.hid (fun (W : World) (h : Wr [] wv.drew W) => show Hid (Wr [] wv.drew W) ∧ W.cell? ⟨w.heap.size, 0, none⟩ = some (.int .i64 6) ∧ W.cell? ⟨w.heap.size, 1, none⟩ = some (.int .i64 a) ∧ W.cell? ⟨w.heap.size, 2, none⟩ = some (.int .i64 b) ∧ W.cell? ⟨w.heap.size, 3, none⟩ = some (.int .i64 c) from ⟨Lib.hid h, (wr_cell h (p := ⟨w.heap.size, 0, none⟩) hl0 (by simp)).trans (by exact by simpa using e0), (wr_cell h (p := ⟨w.heap.size, 1, none⟩) hl0 (by simp)).trans (by exact by simpa using e1), (wr_cell h (p := ⟨w.heap.size, 2, none⟩) hl0 (by simp)).trans (by exact by simpa using e2), (wr_cell h (p := ⟨w.heap.size, 3, none⟩) hl0 (by simp)).trans (by exact by simpa using e3)⟩)
    have INIT := Lib.hid (CE.out _ (Wr.refl _ _))
    have KW := Lib.hid (fun (W2 W : World) (hb : Wr [] W W2) (h : Hid (Wr [] wv.drew W) ∧ W.cell? ⟨w.heap.size, 0, none⟩ = some (.int .i64 6) ∧ W.cell? ⟨w.heap.size, 1, none⟩ = some (.int .i64 a) ∧ W.cell? ⟨w.heap.size, 2, none⟩ = some (.int .i64 b) ∧ W.cell? ⟨w.heap.size, 3, none⟩ = some (.int .i64 c)) => CE.out W2 (h.1.out.trans hb))
    clear e0 e1 e2 e3 ef
    go_region_held3 (fun W => Hid (Wr [] wv.drew W) ∧ W.cell? ⟨w.heap.size, 0, none⟩ = some (.int .i64 6) ∧ W.cell? ⟨w.heap.size, 1, none⟩ = some (.int .i64 a) ∧ W.cell? ⟨w.heap.size, 2, none⟩ = some (.int .i64 b) ∧ W.cell? ⟨w.heap.size, 3, none⟩ = some (.int .i64 c)) (first | exact INIT.out | exact KW.out _ _ (by assumption) (by assumption) | exact KW.out _ _ (Wr.of_below (by assumption) (Nat.le_refl _)) (by assumption) | exact KW.out _ _ (Wr.of_below ((Below.refl _ _).alloc (Nat.le_refl _) _) (Nat.le_refl _)) (by assumption))
      ((go_at_call 49; refine (ruleOf_stk a _).mono ?_; rintro e w5 ⟨rfl, b5⟩; have S2 := Lib.hid (S1.out.go b5)))
    rename_i hHeld
    clear hHeld CE INIT KW S1 b5 hl0
    rcases bb with _ | _
    · have HC := Lib.hid (HN.out (of_decide_eq_false HB.out))
      go_wp2
      go_ret2
      exact ⟨by rw [← RES.out, HC.out]; rfl, S2.out.1⟩
    · have HC := Lib.hid (HY.out (of_decide_eq_true HB.out))
      go_wp2
      go_ret2
      exact ⟨by rw [← RES.out, HC.out]; rfl, S2.out.1⟩
  have CN := Lib.hid (cond_none (r := ⟨ki, a, b, c⟩) (by simp [kindC, k0, k1, k2, k3, k4, k5]))
  go_enter Tryz.func45, Tryz.ntmps45
  go_wp2
  go_ret2
  exact ⟨by rw [← RES.out, CN.out]; rfl, S0.out.1⟩
end Go.Proofs.YtaglfdkeomjpdaaGreat
