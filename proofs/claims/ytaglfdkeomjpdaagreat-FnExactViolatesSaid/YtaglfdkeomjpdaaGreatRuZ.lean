/- DERIVED. CONTRACTS of chapter 11, of the program: RuleOk, Violates: the conditions asked through their interface. -/
import Derived.Test.YtaglfdkeomjpdaaGreatRuX
import Derived.Test.YtaglfdkeomjpdaaGreatRuY
import Derived.Test.YtaglfdkeomjpdaaGreatScJ
import Derived.Test.YtaglfdkeomjpdaaGreatHof
namespace Go.Proofs.YtaglfdkeomjpdaaGreat
open Go.RowKit Go.Shelf
set_option linter.unusedVariables false

def exF : Cd → Nat
  | .lnk _ => 146
  | .fin _ => 151
  | .tim _ _ => 154
  | .wrk _ _ _ => 162
  | .par _ _ _ => 166
  | .stk _ => 171
theorem exF_method (c : Cd) (n : Nat) (w : World) : (method (n + 1) c.ty (.agg ⟨c.cs⟩) "loop.example/g00806/impl.exists").run Tryz.prog w = .ok (exF c, .agg ⟨c.cs⟩) w := by
  cases c <;> kernel_rfl
theorem exF_enter (c : Cd) (args : Array Value) (w : World) : (callFunc (exF c) args).run Tryz.prog w = .ok (.enter (exF c) args) w := by
  cases c with
  | lnk a => exact enters_of Tryz.func146 (by kernel_rfl) rfl args w
  | fin a => exact enters_of Tryz.func151 (by kernel_rfl) rfl args w
  | tim a b => exact enters_of Tryz.func154 (by kernel_rfl) rfl args w
  | wrk a b c => exact enters_of Tryz.func162 (by kernel_rfl) rfl args w
  | par a b c => exact enters_of Tryz.func166 (by kernel_rfl) rfl args w
  | stk a => exact enters_of Tryz.func171 (by kernel_rfl) rfl args w
def metF : Cd → Nat
  | .lnk _ => 147
  | .fin _ => 152
  | .tim _ _ => 155
  | .wrk _ _ _ => 163
  | .par _ _ _ => 167
  | .stk _ => 172
theorem metF_method (c : Cd) (n : Nat) (w : World) : (method (n + 1) c.ty (.agg ⟨c.cs⟩) "loop.example/g00806/impl.isMet").run Tryz.prog w = .ok (metF c, .agg ⟨c.cs⟩) w := by
  cases c <;> kernel_rfl
theorem metF_enter (c : Cd) (args : Array Value) (w : World) : (callFunc (metF c) args).run Tryz.prog w = .ok (.enter (metF c) args) w := by
  cases c with
  | lnk a => exact enters_of Tryz.func147 (by kernel_rfl) rfl args w
  | fin a => exact enters_of Tryz.func152 (by kernel_rfl) rfl args w
  | tim a b => exact enters_of Tryz.func155 (by kernel_rfl) rfl args w
  | wrk a b c => exact enters_of Tryz.func163 (by kernel_rfl) rfl args w
  | par a b c => exact enters_of Tryz.func167 (by kernel_rfl) rfl args w
  | stk a => exact enters_of Tryz.func172 (by kernel_rfl) rfl args w
theorem ex_any (c : Cd) (p : Pj) (v : Value) (w : World) (hv : (trPj p).rd w v) :
    Calls Tryz.prog (exF c) #[.agg ⟨c.cs⟩, v] w fun e w' => e = .returned (.bool (thereC p c)) ∧ Below w.heap.size w w' := by
  cases c with
  | lnk a => exact ex_lnk p a v w hv
  | fin a => exact ex_fin p a v w hv
  | tim a b => exact ex_tim p a b v w hv
  | wrk a b c => exact ex_wrk p a b c v w hv
  | par a b c => exact ex_par p a b c v w hv
  | stk a => exact ex_stk p a v w hv
theorem in_nat {a : Int} {n : Nat} (h : inB a 0 ((n : Int) - 1) = true) : ∃ k : Nat, a = (k : Int) ∧ k < n := by
  have := inB_iff.1 h
  exact ⟨a.toNat, by omega, by omega⟩
theorem met_any (c : Cd) (p : Pj) (s : Sc) (v u : Value) (w : World) (hv : (trPj p).rd w v) (hk : (trPj p).ok) (hs : (trSc s).rd w u) (hf : formB p s = true) (ht : thereC p c = true) :
    Calls Tryz.prog (metF c) #[.agg ⟨c.cs⟩, v, u] w fun e w' => e = .returned (.bool (!failC p s c)) ∧ Below w.heap.size w w' := by
  have F := form_of hf
  cases c with
  | lnk a =>
    obtain ⟨k, rfl, hk2⟩ := in_nat ht
    exact met_lnk p s k v u w hv hs F hk2
  | fin a =>
    obtain ⟨k, rfl, hk2⟩ := in_nat ht
    exact met_fin p s k v u w hv hs F hk2
  | tim a b =>
    simp only [thereC, Bool.and_eq_true] at ht
    obtain ⟨k, rfl, hk2⟩ := in_nat ht.1
    exact met_tim p s k b v u w hv hs F hk2 (inB_iff.1 ht.2)
  | wrk a b c =>
    simp only [thereC, Bool.and_eq_true, decide_eq_true_eq] at ht
    obtain ⟨k, rfl, hk2⟩ := in_nat ht.1
    exact met_wrk p s k b c v u w hv hs F hk2 (inB_iff.1 ht.2.1) (inB_iff.1 ht.2.2.1) ht.2.2.2
  | par a b c =>
    simp only [thereC, Bool.and_eq_true] at ht
    obtain ⟨k, rfl, hk2⟩ := machB_in ht.1
    obtain ⟨j, rfl, hj⟩ := in_nat ht.2.2
    have := inB_iff.1 ht.2.1
    obtain ⟨i, rfl⟩ : ∃ i : Nat, b = (i : Int) := ⟨b.toNat, by omega⟩
    exact met_par p s k i j v u w hv hs F ht.1 hk2 (by omega) hj
  | stk a =>
    obtain ⟨k, rfl, hk2⟩ := in_nat ht
    exact met_stk p s k v u w hv hk hs hf hk2
set_option maxRecDepth 100000 in
set_option maxHeartbeats 8000000 in
theorem known_any (p : Pj) (r : Ru) (v : Value) (w : World) (hv : (trPj p).rd w v) (hk : (trPj p).ok) :
    Calls Tryz.prog 38 #[v, ruV r] w fun e w' => e = (if ruOkB p r = true then optC (condOf r) else optC none) ∧ Below w.heap.size w w' := by
  have HK := Lib.hid hk
  have HV := Lib.hid hv
  obtain ⟨ki, a, b, c⟩ := r
  obtain ⟨A1, c1, A2, c2, A3, c3, A4, c4, rfl, _⟩ := rdProject_t hv
  have S0 := Lib.hid (((Sn.start w).box 36 [.int .i64 p.dl, .slice A1 p.acts.length c1, .slice A2 p.lks.length c2, .slice A3 p.ress.length c3, .slice A4 p.stk.length c4]).box 38 [.int .i64 ki, .int .i64 a, .int .i64 b, .int .i64 c])
  simp only [World.size_alloc] at S0
  clear hv hk
  unfold ruV
  generalize hres : (if ruOkB p ⟨ki, a, b, c⟩ = true then optC (condOf ⟨ki, a, b, c⟩) else optC none) = res
  have RES := Lib.hid hres
  clear hres
  go_enter Tryz.func38, Tryz.ntmps38
  go_wp2_with fail
  refine (conditionOf_any ⟨ki, a, b, c⟩ _).mono ?_
  rintro e w1 ⟨rfl, b⟩
  have S1 := Lib.hid (S0.out.go b)
  clear S0 b
  generalize hc : condOf ⟨ki, a, b, c⟩ = co
  have HC := Lib.hid hc
  clear hc
  rcases co with _ | q
  · have HN := Lib.hid (ruOk_none (p := p) HC.out)
    simp only [optC]
    go_wp2
    all_goals
      go_ret2
      exact ⟨by rw [← RES.out, HN.out]; rfl, S1.out.1⟩
  · simp only [optC, Cd.val]
    obtain ⟨e0, e1, e2, e3, e4, ef⟩ := (S1.out.bk 1 rfl).c5
    go_wp2_with fail
    refine (implProjectOk_any p _ _ (by exact S1.out.old HV.out) HK.out).mono ?_
    rintro e w2 ⟨rfl, b⟩
    have S2 := Lib.hid (S1.out.go b)
    clear S1 b
    rcases hp : pokB p with _ | _
    · have HN := Lib.hid (ruOk_pok (r := ⟨ki, a, b, c⟩) hp)
      clear hp
      go_wp2
      all_goals
        go_ret2
        exact ⟨by rw [← RES.out, HN.out]; rfl, S2.out.1⟩
    · have HT := Lib.hid (ruOk_some HC.out hp)
      clear hp
      obtain ⟨e0, e1, e2, e3, e4, ef⟩ := (S2.out.bk 1 rfl).c5
      have hm := exF_method q
      have hn := exF_enter q
      go_wp2_with fail
      refine (ex_any q p _ _ (by exact S2.out.old HV.out)).mono ?_
      rintro e w3 ⟨rfl, b⟩
      have S3 := Lib.hid (S2.out.go b)
      clear S2 b
      generalize thereC p q = x at HT ⊢
      rcases x with _ | _
      · go_wp2
        all_goals
          go_ret2
          exact ⟨by rw [← RES.out, HT.out]; rfl, S3.out.1⟩
      · go_wp2
        all_goals
          go_ret2
          exact ⟨by rw [← RES.out, HT.out, HC.out]; rfl, S3.out.1⟩
set_option maxRecDepth 100000 in
set_option maxHeartbeats 8000000 in
theorem implRuleOk_any (p : Pj) (r : Ru) (v : Value) (w : World) (hv : (trPj p).rd w v) (hk : (trPj p).ok) :
    Calls Tryz.prog 11 #[v, ruV r] w fun e w' => e = .returned (.bool (ruOkB p r)) ∧ Below w.heap.size w w' := by
  have HK := Lib.hid hk
  have HV := Lib.hid hv
  obtain ⟨ki, a, b, c⟩ := r
  obtain ⟨A1, c1, A2, c2, A3, c3, A4, c4, rfl, _⟩ := rdProject_t hv
  have S0 := Lib.hid (((Sn.start w).box 36 [.int .i64 p.dl, .slice A1 p.acts.length c1, .slice A2 p.lks.length c2, .slice A3 p.ress.length c3, .slice A4 p.stk.length c4]).box 38 [.int .i64 ki, .int .i64 a, .int .i64 b, .int .i64 c])
  simp only [World.size_alloc] at S0
  clear hv hk
  unfold ruV
  have HC := Lib.hid (fun q => @ruOk_none p ⟨ki, a, b, c⟩ q)
  go_enter Tryz.func11, Tryz.ntmps11
  go_wp2_with fail
  refine (known_any p ⟨ki, a, b, c⟩ _ _ (by exact S0.out.old HV.out) HK.out).mono ?_
  rintro e w1 ⟨he, b⟩
  have S1 := Lib.hid (S0.out.go b)
  have HE := Lib.hid he
  clear S0 b he
  generalize hx : ruOkB p ⟨ki, a, b, c⟩ = x at HE HC
  have HX := Lib.hid hx
  clear hx
  generalize condOf ⟨ki, a, b, c⟩ = co at HE HC
  rcases x with _ | _
  · obtain rfl : e = Ending.returned (.tuple #[.nilIface, .bool false]) := HE.out
    go_wp2
    go_ret
    exact ⟨ret_bZ HX.out.symm, S1.out.1⟩
  · rcases co with _ | q
    · cases HC.out rfl
    obtain rfl : e = Ending.returned (.tuple #[q.val, .bool true]) := HE.out
    go_wp2
    go_ret
    exact ⟨ret_bZ HX.out.symm, S1.out.1⟩
set_option maxRecDepth 100000 in
set_option maxHeartbeats 8000000 in
theorem implViolates_any (p : Pj) (s : Sc) (r : Ru) (v u : Value) (w : World) (hv : (trPj p).rd w v) (hk : (trPj p).ok) (hs : (trSc s).rd w u) :
    Calls Tryz.prog 16 #[v, u, ruV r] w fun e w' => e = .returned (.bool (violB p s r)) ∧ Below w.heap.size w w' := by
  have HK := Lib.hid hk
  obtain ⟨ki, a, b, c⟩ := r
  have HV := Lib.hid hv
  obtain ⟨A1, c1, A2, c2, A3, c3, A4, c4, rfl, _⟩ := rdProject_t hv
  have HQ := Lib.hid hs
  obtain ⟨E1, f1, E2, f2, rfl, _⟩ := rdSchedule_t hs
  clear hv hs hk
  have S0 := Lib.hid ((((Sn.start w).box 36 [.int .i64 p.dl, .slice A1 p.acts.length c1, .slice A2 p.lks.length c2, .slice A3 p.ress.length c3, .slice A4 p.stk.length c4]).box 46 [.slice E1 s.st.length f1, .slice E2 s.mo.length f2]).box 38 [.int .i64 ki, .int .i64 a, .int .i64 b, .int .i64 c])
  simp only [World.size_alloc] at S0
  unfold ruV
  generalize hres : violB p s ⟨ki, a, b, c⟩ = res
  have RES := Lib.hid hres
  clear hres
  go_enter Tryz.func16, Tryz.ntmps16
  go_wp2_with fail
  refine (conditionOf_any ⟨ki, a, b, c⟩ _).mono ?_
  rintro e w1 ⟨rfl, b⟩
  have S1 := Lib.hid (S0.out.go b)
  clear S0 b
  generalize hc : condOf ⟨ki, a, b, c⟩ = co
  have HC := Lib.hid hc
  clear hc
  rcases co with _ | q
  · have HN := Lib.hid (viol_none (p := p) (s := s) HC.out)
    simp only [optC]
    go_wp2
    all_goals
      go_ret
      exact ⟨ret_bZ (by rw [← RES.out, HN.out]), S1.out.1⟩
  simp only [optC, Cd.val]
  obtain ⟨e0, e1, e2, e3, e4, ef⟩ := (S1.out.bk 2 rfl).c5
  obtain ⟨q0, q1, qf⟩ := (S1.out.bk 1 rfl).c2
  go_wp2_with fail
  clear e0 e1 e2 e3 e4 ef
  clear q0 q1 qf
  refine (implForm_any p s _ _ _ (by exact S1.out.old HV.out) HK.out (by exact S1.out.old HQ.out)).mono ?_
  rintro e w2 ⟨rfl, b⟩
  have S2 := Lib.hid (S1.out.go b)
  clear S1 b
  rcases hf : formB p s with _ | _
  · have HN := Lib.hid (viol_form (r := ⟨ki, a, b, c⟩) hf)
    clear hf
    go_wp2
    all_goals
      go_ret
      exact ⟨ret_bZ (by rw [← RES.out, HN.out]), S2.out.1⟩
  have HF := Lib.hid hf
  clear hf
  obtain ⟨e0, e1, e2, e3, e4, ef⟩ := (S2.out.bk 2 rfl).c5
  have hm := exF_method q
  have hn := exF_enter q
  go_wp2_with fail
  clear e0 e1 e2 e3 e4 ef
  refine (ex_any q p _ _ (by exact S2.out.old HV.out)).mono ?_
  rintro e w3 ⟨rfl, b⟩
  have S3 := Lib.hid (S2.out.go b)
  clear S2 b
  rcases ht : thereC p q with _ | _
  · have HN := Lib.hid (viol_there (s := s) HC.out ht)
    clear ht
    go_wp2
    all_goals
      go_ret
      exact ⟨ret_bZ (by rw [← RES.out, HN.out]), S3.out.1⟩
  have HT := Lib.hid (viol_yes HF.out HC.out ht)
  have HTT := Lib.hid ht
  clear ht hm hn
  obtain ⟨e0, e1, e2, e3, e4, ef⟩ := (S3.out.bk 2 rfl).c5
  obtain ⟨q0, q1, qf⟩ := (S3.out.bk 1 rfl).c2
  have hm := metF_method q
  have hn := metF_enter q
  go_wp2_with fail
  clear e0 e1 e2 e3 e4 ef
  clear q0 q1 qf
  refine (met_any q p s _ _ _ (by exact S3.out.old HV.out) HK.out (by exact S3.out.old HQ.out) HF.out HTT.out).mono ?_
  rintro e w4 ⟨rfl, b⟩
  have S4 := Lib.hid (S3.out.go b)
  clear S3 b
  generalize failC p s q = x at HT ⊢
  go_wp2
  go_ret
  exact ⟨ret_bZ (by rw [← RES.out, HT.out]), S4.out.1⟩
end Go.Proofs.YtaglfdkeomjpdaaGreat
