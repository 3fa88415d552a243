/- DERIVED. CONTRACTS of chapter 11, of the program: RuleOk, Violates: the conditions asked through their interface. -/
import Derived.Test.YtaglfdkeomjpdabGreatDoorRuA
import Derived.Test.YtaglfdkeomjpdabGreatDoorScG
import Derived.Test.YtaglfdkeomjpdabGreatDoorStpX
import Derived.Test.YtaglfdkeomjpdabGreatDoorStpY
import Derived.Lib.MinMax
import Derived.Test.YtaglfdkeomjpdabGreatDoorHof

section
namespace Go.Proofs.YtaglfdkeomjpdabGreatDoor
open Go.RowKit Go.Shelf
set_option linter.unusedVariables false

theorem ret_bZ {a b : Bool} (h : a = b) : Ending.returned (.bool a) = Ending.returned (.bool b) := by rw [h]
theorem not_lt_dec (a b : Int) : (!decide (a < b)) = decide (b ≤ a) := by
  rw [Bool.eq_iff_iff]
  simp
theorem cap_in {xs : List Pr} {t : Int} (h : okP xs = true) (ht : 0 ≤ t ∧ t ≤ 60) : capB xs t = atP xs t := by rw [capB, h, inB_yes ht]; rfl
theorem total_in {xs : List Pr} {x y : Int} (h : okP xs = true) (hx : 0 ≤ x ∧ x ≤ 60) (hy : 0 ≤ y ∧ y ≤ 60) : totalB xs x y = sumT xs x y := by rw [totalB, spanB, h, inB_yes hx, inB_yes hy]; rfl
theorem pok_st {p : Pj} (h : pokB p = true) {r : Nat} (hr : r < p.ress.length) : okP p.ress[r].st = true := by
  have := pok_ress h _ (List.getElem_mem hr)
  simp only [rokB, Bool.and_eq_true] at this
  exact this.2.1
theorem pok_lk {p : Pj} (h : pokB p = true) {i : Nat} (hi : i < p.lks.length) : lokB p.acts.length p.lks[i] = true := by
  simp only [pokB, Bool.and_eq_true, List.all_eq_true] at h
  exact h.2.2.2.2.2.2.2.2.2 _ (List.getElem_mem hi)

end Go.Proofs.YtaglfdkeomjpdabGreatDoor
end

section
namespace Go.Proofs.YtaglfdkeomjpdabGreatDoor
open Go.RowKit Go.Shelf
set_option linter.unusedVariables false

theorem tim_eq {p : Pj} {s : Sc} {r : Nat} {b : Int} (hf : Form p s) (hr : r < p.ress.length) (hb : 0 ≤ b ∧ b ≤ 60) : (!failC p s (.tim (r : Int) b)) = decide (wsumK p s r b (b + 1) p.acts.length ≤ capB p.ress[r].st b) := by
  rw [cap_in (pok_st hf.ok hr) hb, wsum_one, ← rsA_at hr]
  exact not_lt_dec _ _
theorem wrk_eq {p : Pj} {s : Sc} {r : Nat} {b c : Int} (hf : Form p s) (hr : r < p.ress.length) (hb : 0 ≤ b ∧ b ≤ 60) (hc : 0 ≤ c ∧ c ≤ 60) (h : b < c) : (!failC p s (.wrk (r : Int) b c)) = decide (wsumK p s r b c p.acts.length ≤ totalB p.ress[r].st b c) := by
  rw [total_in (pok_st hf.ok hr) hb hc, ← rsA_at hr]
  have := wsum_wrk p s r b p.acts.length (c - b).toNat
  rw [show b + ((c - b).toNat : Int) = c from by omega] at this
  rw [this]
  exact not_lt_dec _ _

theorem pairF_a {p : Pj} {s : Sc} {r a b : Nat} (h : usA p s r a = 0) : pairF p s r a b = false := by simp [pairF, h]
theorem pairF_b {p : Pj} {s : Sc} {r a b : Nat} (h : usA p s r b = 0) : pairF p s r a b = false := by simp [pairF, h]
theorem pairF_1 {p : Pj} {s : Sc} {r a b : Nat} (h : aheadB p s r a b = true) : pairF p s r a b = false := by simp [pairF, h]
theorem pairF_2 {p : Pj} {s : Sc} {r a b : Nat} (h : ¬ usA p s r a = 0) (h1 : ¬ usA p s r b = 0) (h2 : aheadB p s r a b = false) : (!pairF p s r a b) = aheadB p s r b a := by simp [pairF, h, h1, h2]
end Go.Proofs.YtaglfdkeomjpdabGreatDoor
end

section
namespace Go.Proofs.YtaglfdkeomjpdabGreatDoor
open Go.RowKit Go.Shelf
set_option linter.unusedVariables false

theorem lnk_eq {p : Pj} {s : Sc} {i : Nat} (hi : i < p.lks.length) {fr to : Nat} (hfr : p.lks[i].fr = (fr : Int)) (hto : p.lks[i].to = (to : Int)) (x : Int) (hx : x = if p.lks[i].fe = true then endA p s fr else stA s fr) : (!failC p s (.lnk (i : Int))) = decide (x + p.lks[i].lag ≤ stA s to) := by
  rw [show failC p s (.lnk (i : Int)) = decide (stA s (lkA p i).to.toNat < frA p s (lkA p i) + (lkA p i).lag) from rfl, not_lt_dec, lkA_at hi, hto, frA, hfr, hx]
  rfl
theorem ge_dec (a b : Int) : decide (a ≤ b) = decide (b ≥ a) := rfl

set_option maxRecDepth 100000 in
set_option maxHeartbeats 8000000 in
theorem ex_lnk (p : Pj) (a : Int) (v : Value) (w : World) (hv : (trPj p).rd w v) :
    Calls Tryz.prog 146 #[.agg #[.int .i64 a], v] w fun e w' => e = .returned (.bool (thereC p (.lnk a))) ∧ Below w.heap.size w w' := by
  obtain ⟨A1, c1, A2, c2, A3, c3, A4, c4, rfl, _⟩ := rdProject_t hv
  have S0 := Lib.hid (((Sn.start w).box 142 [.int .i64 a]).box 37 [.int .i64 p.dl, .slice A1 p.acts.length c1, .slice A2 p.lks.length c2, .slice A3 p.ress.length c3, .slice A4 p.stk.length c4])
  clear hv
  go_enter Tryz.func146, Tryz.ntmps146
  go_wp2_with fail
  refine (isBelow_any a (p.lks.length : Int) _).mono ?_
  rintro e w1 ⟨rfl, rfl⟩
  go_wp2
  go_ret
  exact ⟨rfl, S0.out.1⟩
set_option maxRecDepth 100000 in
set_option maxHeartbeats 8000000 in
theorem ex_fin (p : Pj) (a : Int) (v : Value) (w : World) (hv : (trPj p).rd w v) :
    Calls Tryz.prog 149 #[.agg #[.int .i64 a], v] w fun e w' => e = .returned (.bool (thereC p (.fin a))) ∧ Below w.heap.size w w' := by
  obtain ⟨A1, c1, A2, c2, A3, c3, A4, c4, rfl, _⟩ := rdProject_t hv
  have S0 := Lib.hid (((Sn.start w).box 144 [.int .i64 a]).box 37 [.int .i64 p.dl, .slice A1 p.acts.length c1, .slice A2 p.lks.length c2, .slice A3 p.ress.length c3, .slice A4 p.stk.length c4])
  clear hv
  go_enter Tryz.func149, Tryz.ntmps149
  go_wp2_with fail
  refine (isBelow_any a (p.acts.length : Int) _).mono ?_
  rintro e w1 ⟨rfl, rfl⟩
  go_wp2
  go_ret
  exact ⟨rfl, S0.out.1⟩
set_option maxRecDepth 100000 in
set_option maxHeartbeats 8000000 in
theorem ex_stk (p : Pj) (a : Int) (v : Value) (w : World) (hv : (trPj p).rd w v) :
    Calls Tryz.prog 164 #[.agg #[.int .i64 a], v] w fun e w' => e = .returned (.bool (thereC p (.stk a))) ∧ Below w.heap.size w w' := by
  obtain ⟨A1, c1, A2, c2, A3, c3, A4, c4, rfl, _⟩ := rdProject_t hv
  have S0 := Lib.hid (((Sn.start w).box 152 [.int .i64 a]).box 37 [.int .i64 p.dl, .slice A1 p.acts.length c1, .slice A2 p.lks.length c2, .slice A3 p.ress.length c3, .slice A4 p.stk.length c4])
  clear hv
  go_enter Tryz.func164, Tryz.ntmps164
  go_wp2_with fail
  refine (isBelow_any a (p.stk.length : Int) _).mono ?_
  rintro e w1 ⟨rfl, rfl⟩
  go_wp2
  go_ret
  exact ⟨rfl, S0.out.1⟩
set_option maxRecDepth 100000 in
set_option maxHeartbeats 8000000 in
theorem ex_tim (p : Pj) (a b : Int) (v : Value) (w : World) (hv : (trPj p).rd w v) :
    Calls Tryz.prog 152 #[.agg #[.int .i64 a, .int .i64 b], v] w fun e w' => e = .returned (.bool (thereC p (.tim a b))) ∧ Below w.heap.size w w' := by
  obtain ⟨A1, c1, A2, c2, A3, c3, A4, c4, rfl, _⟩ := rdProject_t hv
  have S0 := Lib.hid (((Sn.start w).box 146 [.int .i64 a, .int .i64 b]).box 37 [.int .i64 p.dl, .slice A1 p.acts.length c1, .slice A2 p.lks.length c2, .slice A3 p.ress.length c3, .slice A4 p.stk.length c4])
  clear hv
  have HR := Lib.hid (show thereC p (.tim a b) = (inB a 0 ((p.ress.length : Int) - 1) && inB b 0 60) from rfl)
  generalize thereC p (.tim a b) = res at HR ⊢
  go_enter Tryz.func152, Tryz.ntmps152
  go_wp2_with fail
  refine (isBelow_any a (p.ress.length : Int) _).mono ?_
  rintro e w1 ⟨rfl, rfl⟩
  generalize inB a 0 ((p.ress.length : Int) - 1) = x at HR ⊢
  rcases x with _ | _
  · go_wp2
    go_ret
    exact ⟨ret_bZ (by rw [HR.out]; rfl), S0.out.1⟩
  · go_wp2_with fail
    refine (isTime_any b _).mono ?_
    rintro e w1 ⟨rfl, rfl⟩
    go_wp2
    go_ret
    exact ⟨ret_bZ (by rw [HR.out]; simp), S0.out.1⟩
set_option maxRecDepth 100000 in
set_option maxHeartbeats 8000000 in
theorem ex_wrk (p : Pj) (a b c : Int) (v : Value) (w : World) (hv : (trPj p).rd w v) :
    Calls Tryz.prog 156 #[.agg #[.int .i64 a, .int .i64 b, .int .i64 c], v] w fun e w' => e = .returned (.bool (thereC p (.wrk a b c))) ∧ Below w.heap.size w w' := by
  obtain ⟨A1, c1, A2, c2, A3, c3, A4, c4, rfl, _⟩ := rdProject_t hv
  have S0 := Lib.hid (((Sn.start w).box 148 [.int .i64 a, .int .i64 b, .int .i64 c]).box 37 [.int .i64 p.dl, .slice A1 p.acts.length c1, .slice A2 p.lks.length c2, .slice A3 p.ress.length c3, .slice A4 p.stk.length c4])
  clear hv
  have HR := Lib.hid (show thereC p (.wrk a b c) = (inB a 0 ((p.ress.length : Int) - 1) && (inB b 0 60 && (inB c 0 60 && decide (b < c)))) from rfl)
  generalize thereC p (.wrk a b c) = res at HR ⊢
  go_enter Tryz.func156, Tryz.ntmps156
  go_wp2_with fail
  refine (isBelow_any a (p.ress.length : Int) _).mono ?_
  rintro e w1 ⟨rfl, rfl⟩
  generalize inB a 0 ((p.ress.length : Int) - 1) = x at HR ⊢
  rcases x with _ | _
  · go_wp2
    go_ret
    exact ⟨ret_bZ (by rw [HR.out]; rfl), S0.out.1⟩
  · go_wp2_with fail
    refine (isTime_any b _).mono ?_
    rintro e w1 ⟨rfl, rfl⟩
    generalize inB b 0 60 = y at HR ⊢
    rcases y with _ | _
    · go_wp2
      go_ret
      exact ⟨ret_bZ (by rw [HR.out]; rfl), S0.out.1⟩
    · go_wp2_with fail
      refine (isTime_any c _).mono ?_
      rintro e w1 ⟨rfl, rfl⟩
      generalize inB c 0 60 = z at HR ⊢
      rcases z with _ | _
      · go_wp2
        go_ret
        exact ⟨ret_bZ (by rw [HR.out]; rfl), S0.out.1⟩
      · go_wp2
        go_ret
        exact ⟨ret_bZ (by rw [HR.out]; simp), S0.out.1⟩
set_option maxRecDepth 100000 in
set_option maxHeartbeats 8000000 in
theorem ex_par (p : Pj) (a b c : Int) (v : Value) (w : World) (hv : (trPj p).rd w v) :
    Calls Tryz.prog 159 #[.agg #[.int .i64 a, .int .i64 b, .int .i64 c], v] w fun e w' => e = .returned (.bool (thereC p (.par a b c))) ∧ Below w.heap.size w w' := by
  have HV := Lib.hid hv
  obtain ⟨A1, c1, A2, c2, A3, c3, A4, c4, rfl, _⟩ := rdProject_t hv
  have S0 := Lib.hid (((Sn.start w).box 150 [.int .i64 a, .int .i64 b, .int .i64 c]).box 37 [.int .i64 p.dl, .slice A1 p.acts.length c1, .slice A2 p.lks.length c2, .slice A3 p.ress.length c3, .slice A4 p.stk.length c4])
  simp only [World.size_alloc] at S0
  clear hv
  have HR := Lib.hid (show thereC p (.par a b c) = (machB p a && (inB b 0 (c - 1) && inB c 0 ((p.acts.length : Int) - 1))) from rfl)
  generalize thereC p (.par a b c) = res at HR ⊢
  go_enter Tryz.func159, Tryz.ntmps159
  go_wp2_with fail
  refine (implIsMachine_any p a _ _ (by exact S0.out.old HV.out)).mono ?_
  rintro e w1 ⟨rfl, b⟩
  have S1 := Lib.hid (S0.out.go b)
  clear S0 b
  generalize machB p a = x at HR ⊢
  rcases x with _ | _
  · go_wp2
    go_ret
    exact ⟨ret_bZ (by rw [HR.out]; rfl), S1.out.1⟩
  · obtain ⟨t0, t1, t2, tf⟩ := (S1.out.bk 1 rfl).c3
    obtain ⟨e0, e1, e2, e3, e4, ef⟩ := (S1.out.bk 0 rfl).c5
    go_wp2_with fail
    refine (isBelow_any b c _).mono ?_
    rintro e w1 ⟨rfl, rfl⟩
    generalize inB b 0 (c - 1) = y at HR ⊢
    rcases y with _ | _
    · go_wp2
      go_ret
      exact ⟨ret_bZ (by rw [HR.out]; rfl), S1.out.1⟩
    · go_wp2_with fail
      refine (isBelow_any c (p.acts.length : Int) _).mono ?_
      rintro e w1 ⟨rfl, rfl⟩
      go_wp2
      go_ret
      exact ⟨ret_bZ (by rw [HR.out]; simp), S1.out.1⟩
end Go.Proofs.YtaglfdkeomjpdabGreatDoor
end

section
namespace Go.Proofs.YtaglfdkeomjpdabGreatDoor
open Go.RowKit Go.Shelf
set_option linter.unusedVariables false

def exF : Cd → Nat
  | .lnk _ => 146
  | .fin _ => 149
  | .tim _ _ => 152
  | .wrk _ _ _ => 156
  | .par _ _ _ => 159
  | .stk _ => 164
theorem exF_method (c : Cd) (n : Nat) (w : World) : (method (n + 1) c.ty (.agg ⟨c.cs⟩) "loop.example/g00806/impl.exists").run Tryz.prog w = .ok (exF c, .agg ⟨c.cs⟩) w := by
  cases c <;> kernel_rfl
theorem exF_enter (c : Cd) (args : Array Value) (w : World) : (callFunc (exF c) args).run Tryz.prog w = .ok (.enter (exF c) args) w := by
  cases c with
  | lnk a => exact enters_of Tryz.func146 (by kernel_rfl) rfl args w
  | fin a => exact enters_of Tryz.func149 (by kernel_rfl) rfl args w
  | tim a b => exact enters_of Tryz.func152 (by kernel_rfl) rfl args w
  | wrk a b c => exact enters_of Tryz.func156 (by kernel_rfl) rfl args w
  | par a b c => exact enters_of Tryz.func159 (by kernel_rfl) rfl args w
  | stk a => exact enters_of Tryz.func164 (by kernel_rfl) rfl args w
theorem ex_any (c : Cd) (p : Pj) (v : Value) (w : World) (hv : (trPj p).rd w v) :
    Calls Tryz.prog (exF c) #[.agg ⟨c.cs⟩, v] w fun e w' => e = .returned (.bool (thereC p c)) ∧ Below w.heap.size w w' := by
  cases c with
  | lnk a => exact ex_lnk p a v w hv
  | fin a => exact ex_fin p a v w hv
  | tim a b => exact ex_tim p a b v w hv
  | wrk a b c => exact ex_wrk p a b c v w hv
  | par a b c => exact ex_par p a b c v w hv
  | stk a => exact ex_stk p a v w hv
theorem in_nat {a : Int} {n : Nat} (h : inB a 0 ((n : Int) - 1) = true) : ∃ k : Nat, a = (k : Int) ∧ k < n := by
  have := inB_iff.1 h
  exact ⟨a.toNat, by omega, by omega⟩
set_option maxRecDepth 100000 in
set_option maxHeartbeats 8000000 in
theorem known_any (p : Pj) (r : Ru) (v : Value) (w : World) (hv : (trPj p).rd w v) (hk : (trPj p).ok) :
    Calls Tryz.prog 45 #[v, ruV r] w fun e w' => e = (if ruOkB p r = true then optC (condOf r) else optC none) ∧ Below w.heap.size w w' := by
  have HK := Lib.hid hk
  have HV := Lib.hid hv
  obtain ⟨ki, a, b, c⟩ := r
  obtain ⟨A1, c1, A2, c2, A3, c3, A4, c4, rfl, _⟩ := rdProject_t hv
  have S0 := Lib.hid (((Sn.start w).box 37 [.int .i64 p.dl, .slice A1 p.acts.length c1, .slice A2 p.lks.length c2, .slice A3 p.ress.length c3, .slice A4 p.stk.length c4]).box 30 [.int .i64 ki, .int .i64 a, .int .i64 b, .int .i64 c])
  simp only [World.size_alloc] at S0
  clear hv hk
  unfold ruV
  generalize hres : (if ruOkB p ⟨ki, a, b, c⟩ = true then optC (condOf ⟨ki, a, b, c⟩) else optC none) = res
  have RES := Lib.hid hres
  clear hres
  go_enter Tryz.func45, Tryz.ntmps45
  go_wp2_with fail
  refine (conditionOf_any ⟨ki, a, b, c⟩ _).mono ?_
  rintro e w1 ⟨rfl, b⟩
  have S1 := Lib.hid (S0.out.go b)
  clear S0 b
  generalize hc : condOf ⟨ki, a, b, c⟩ = co
  have HC := Lib.hid hc
  clear hc
  rcases co with _ | q
  · have HN := Lib.hid (ruOk_none (p := p) HC.out)
    simp only [optC]
    go_wp2
    all_goals
      go_ret2
      exact ⟨by rw [← RES.out, HN.out]; rfl, S1.out.1⟩
  · simp only [optC, Cd.val]
    obtain ⟨e0, e1, e2, e3, e4, ef⟩ := (S1.out.bk 1 rfl).c5
    go_wp2_with fail
    refine (implProjectOk_any p _ _ (by exact S1.out.old HV.out) HK.out).mono ?_
    rintro e w2 ⟨rfl, b⟩
    have S2 := Lib.hid (S1.out.go b)
    clear S1 b
    rcases hp : pokB p with _ | _
    · have HN := Lib.hid (ruOk_pok (r := ⟨ki, a, b, c⟩) hp)
      clear hp
      go_wp2
      all_goals
        go_ret2
        exact ⟨by rw [← RES.out, HN.out]; rfl, S2.out.1⟩
    · have HT := Lib.hid (ruOk_some HC.out hp)
      clear hp
      obtain ⟨e0, e1, e2, e3, e4, ef⟩ := (S2.out.bk 1 rfl).c5
      have hm := exF_method q
      have hn := exF_enter q
      go_wp2_with fail
      refine (ex_any q p _ _ (by exact S2.out.old HV.out)).mono ?_
      rintro e w3 ⟨rfl, b⟩
      have S3 := Lib.hid (S2.out.go b)
      clear S2 b
      generalize thereC p q = x at HT ⊢
      rcases x with _ | _
      · go_wp2
        all_goals
          go_ret2
          exact ⟨by rw [← RES.out, HT.out]; rfl, S3.out.1⟩
      · go_wp2
        all_goals
          go_ret2
          exact ⟨by rw [← RES.out, HT.out, HC.out]; rfl, S3.out.1⟩
end Go.Proofs.YtaglfdkeomjpdabGreatDoor
end
