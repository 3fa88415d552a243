/- DERIVED. CONTRACTS: the program's EarliestStarts, PathBound, TailLength. -/
import Derived.Test.YtoggakfkpeloiaaGreatDsI
namespace Go.Proofs.YtoggakfkpeloiaaGreat
open Go.RowKit Go.Shelf
set_option linter.unusedVariables false

theorem early_yes {p : Pj} (h : okD p = true) : earlyL p = (List.range p.acts.length).map (earlyT (distT p) p.acts.length) := by rw [earlyL, if_pos h]
theorem early_no {p : Pj} (h : okD p = false) : earlyL p = [] := by rw [earlyL, h]; rfl
theorem bound_yes {p : Pj} (h : okD p = true) : boundB p = boundT (distT p) (shortA p) p.acts.length := by rw [boundB, if_pos h]
theorem bound_no {p : Pj} (h : okD p = false) : boundB p = 0 := by rw [boundB, h]; rfl
theorem tail_no {p : Pj} {a : Int} (h : okD p = false) : tailB p a = 0 := by rw [tailB, h]; simp
theorem tail_out {p : Pj} {a : Int} (h : ¬ (0 ≤ a ∧ a < (p.acts.length : Int))) : tailB p a = 0 := by rw [tailB, if_neg (fun e => h e.2)]
theorem tail_yes {p : Pj} {a : Nat} (h : okD p = true) (ha : a < p.acts.length) : tailB p (a : Int) = tailT (distT p) (shortA p) p.acts.length a := by rw [tailB, if_pos ⟨h, by omega, by omega⟩]; rfl

theorem enters_earliest : ∀ args w, (callFunc 55 args).run Tryz.prog w = .ok (.enter 55 args) w := enters_of Tryz.func55 (by kernel_rfl) rfl

set_option maxRecDepth 100000 in
set_option maxHeartbeats 8000000 in
theorem implEarliest_any (p : Pj) (v : Value) (w : World) (hv : (trPj p).rd w v) (hk : (trPj p).ok) :
    Calls Tryz.prog 20 #[v] w fun e w' => ∃ u F, e = .returned u ∧ (trI (earlyL p)).own w' w.heap.size u F ∧ F.Nodup ∧ Below w.heap.size w w' := by
  have HV := Lib.hid hv
  obtain ⟨A1, c1, A2, c2, A3, c3, A4, c4, rfl, r1, r2, r3, r4⟩ := rdProject_t hv
  clear hv r1 r2 r3 r4
  have HK := Lib.hid hk
  clear hk
  have S0 := Lib.hid ((Sn.start w).box 35 [.int .i64 p.dl, .slice A1 p.acts.length c1, .slice A2 p.lks.length c2, .slice A3 p.ress.length c3, .slice A4 p.stk.length c4])
  go_enter Tryz.func20, Tryz.ntmps20
  obtain ⟨e0, e1, e2, e3, e4, ef⟩ := (S0.out.bk 0 rfl).c5
  go_wp2_with fail
  clear e0 e1 e2 e3 e4 ef
  refine (timing_any p _ _ (by exact S0.out.old HV.out) HK.out).mono ?_
  rintro e w1 ⟨N, T, d, rfl, hN, b⟩
  have S1 := Lib.hid (S0.out.go b)
  have HN := Lib.hid hN
  have hW := bk_whole (vs := timC N T d) (Bk.new w1 59 ⟨timC 0 zT zD⟩) (by simp only [timC_len])
  have S2 := Lib.hid ((S1.out.box 59 (timC 0 zT zD)).boxWr 0 rfl hW.1 hW.2)
  simp only [List.set_cons_zero] at S2
  clear hW S0 S1 b hN
  rcases hok : okD p with _ | _
  · have HS := Lib.hid (early_no hok)
    clear hok
    go_wp2_with (first | ((refine wpList_store_mid rfl 59 _ _ rfl (w1.heap.size) 0 ⟨timC N T d⟩ rfl rfl (bk_there (Bk.new w1 59 ⟨timC 0 zT zD⟩) (by simp [timC_len])) (timC_info N T d) (oneAll N T d) ?_); change wpList _ _ _ _ _ ((w1.alloc (.cells ⟨timC 0 zT zD⟩ 59)).setCells w1.heap.size 0 (timC N T d)); generalize (w1.alloc (.cells ⟨timC 0 zT zD⟩ 59)).setCells w1.heap.size 0 (timC N T d) = w2 at S2 ⊢; generalize w1.heap.size = g at S2 ⊢; have x0 := (S2.out.bk 0 rfl).tim.1) | (refine wpList_load_mid rfl 59 _ rfl (g) 0 rfl (timC N T d) _ (bk_range (S2.out.bk 0 rfl)) Tryz.underlying59 rfl (timC_info N T d) ?_) | fail)
    go_ret
    have hnil : ∀ W : World, (trI (earlyL p)).own W w.heap.size (.slice none 0 0) [] := fun W => by rw [HS.out]; exact ⟨[], [], ⟨rfl, .inl ⟨rfl, rfl⟩⟩, ⟨rfl, rfl⟩, rfl⟩
    first
      | exact ⟨[], hnil _, List.nodup_nil, S2.out.1⟩
      | exact ⟨.slice none 0 0, [], rfl, hnil _, List.nodup_nil, S2.out.1⟩
      | exact ⟨.slice none 0 0, rfl, [], hnil _, List.nodup_nil, S2.out.1⟩
  obtain ⟨rfl, rfl, rfl⟩ := HN.out hok
  have HS := Lib.hid (early_yes hok)
  have h6 := (pok_acts (okD_pok hok)).1
  clear hok HN
  have hmf : ∀ (fn : Fn) (first cap : Array Value) (w : World), (Instr.makeFunc fn first cap).run Tryz.prog w = .ok (.func fn first cap) w := fun _ _ _ _ => rfl
  go_wp2_with (first | ((refine wpList_store_mid rfl 59 _ _ rfl (w1.heap.size) 0 ⟨timC p.acts.length (distT p) (shortA p)⟩ rfl rfl (bk_there (Bk.new w1 59 ⟨timC 0 zT zD⟩) (by simp [timC_len])) (timC_info p.acts.length (distT p) (shortA p)) (oneAll p.acts.length (distT p) (shortA p)) ?_); change wpList _ _ _ _ _ ((w1.alloc (.cells ⟨timC 0 zT zD⟩ 59)).setCells w1.heap.size 0 (timC p.acts.length (distT p) (shortA p))); generalize (w1.alloc (.cells ⟨timC 0 zT zD⟩ 59)).setCells w1.heap.size 0 (timC p.acts.length (distT p) (shortA p)) = w2 at S2 ⊢; generalize w1.heap.size = g at S2 ⊢; have x0 := (S2.out.bk 0 rfl).tim.1) | (refine wpList_load_mid rfl 59 _ rfl (g) 0 rfl (timC p.acts.length (distT p) (shortA p)) _ (bk_range (S2.out.bk 0 rfl)) Tryz.underlying59 rfl (timC_info p.acts.length (distT p) (shortA p)) ?_) | fail)
  refine (forAll_any p.acts.length (distT p) (shortA p) 55 #[.agg ⟨timC p.acts.length (distT p) (shortA p)⟩] (earlyT (distT p) p.acts.length) w2 h6 enters_earliest (fun a w' ha hb => earliest_any p.acts.length (distT p) (shortA p) a w' h6 ha)).mono ?_
  rintro e w5 ⟨u5, F5, rfl, o5, hn5, b5⟩
  have S5 := Lib.hid (S2.out.new o5 hn5 b5)
  clear o5 hn5 b5 S2
  go_wp2
  go_ret
  first
    | exact ⟨_, rfl, _, by rw [HS.out]; exact (S5.out.own 0 rfl).1, (S5.out.own 0 rfl).2, S5.out.1⟩
    | exact ⟨_, _, rfl, by rw [HS.out]; exact (S5.out.own 0 rfl).1, (S5.out.own 0 rfl).2, S5.out.1⟩
    | exact ⟨_, by rw [HS.out]; exact (S5.out.own 0 rfl).1, (S5.out.own 0 rfl).2, S5.out.1⟩

set_option maxRecDepth 100000 in
set_option maxHeartbeats 8000000 in
theorem implPathBound_any (p : Pj) (v : Value) (w : World) (hv : (trPj p).rd w v) (hk : (trPj p).ok) :
    Calls Tryz.prog 27 #[v] w fun e w' => e = .returned (.int .i64 (boundB p)) ∧ Below w.heap.size w w' := by
  have HV := Lib.hid hv
  obtain ⟨A1, c1, A2, c2, A3, c3, A4, c4, rfl, r1, r2, r3, r4⟩ := rdProject_t hv
  clear hv r1 r2 r3 r4
  have HK := Lib.hid hk
  clear hk
  have S0 := Lib.hid ((Sn.start w).box 35 [.int .i64 p.dl, .slice A1 p.acts.length c1, .slice A2 p.lks.length c2, .slice A3 p.ress.length c3, .slice A4 p.stk.length c4])
  go_enter Tryz.func27, Tryz.ntmps27
  obtain ⟨e0, e1, e2, e3, e4, ef⟩ := (S0.out.bk 0 rfl).c5
  go_wp2_with fail
  clear e0 e1 e2 e3 e4 ef
  refine (timing_any p _ _ (by exact S0.out.old HV.out) HK.out).mono ?_
  rintro e w1 ⟨N, T, d, rfl, hN, b⟩
  have S1 := Lib.hid (S0.out.go b)
  have HN := Lib.hid hN
  have hW := bk_whole (vs := timC N T d) (Bk.new w1 59 ⟨timC 0 zT zD⟩) (by simp only [timC_len])
  have S2 := Lib.hid ((S1.out.box 59 (timC 0 zT zD)).boxWr 0 rfl hW.1 hW.2)
  simp only [List.set_cons_zero] at S2
  clear hW S0 S1 b hN
  rcases hok : okD p with _ | _
  · have HS := Lib.hid (bound_no hok)
    clear hok
    go_wp2_with (first | ((refine wpList_store_mid rfl 59 _ _ rfl (w1.heap.size) 0 ⟨timC N T d⟩ rfl rfl (bk_there (Bk.new w1 59 ⟨timC 0 zT zD⟩) (by simp [timC_len])) (timC_info N T d) (oneAll N T d) ?_); change wpList _ _ _ _ _ ((w1.alloc (.cells ⟨timC 0 zT zD⟩ 59)).setCells w1.heap.size 0 (timC N T d)); generalize (w1.alloc (.cells ⟨timC 0 zT zD⟩ 59)).setCells w1.heap.size 0 (timC N T d) = w2 at S2 ⊢; generalize w1.heap.size = g at S2 ⊢; have x0 := (S2.out.bk 0 rfl).tim.1) | (refine wpList_load_mid rfl 59 _ rfl (g) 0 rfl (timC N T d) _ (bk_range (S2.out.bk 0 rfl)) Tryz.underlying59 rfl (timC_info N T d) ?_) | fail)
    go_ret
    exact ⟨by rw [HS.out] <;> rfl, S2.out.1⟩
  obtain ⟨rfl, rfl, rfl⟩ := HN.out hok
  have HS := Lib.hid (bound_yes hok)
  have h6 := (pok_acts (okD_pok hok)).1
  clear hok HN
  go_wp2_with (first | ((refine wpList_store_mid rfl 59 _ _ rfl (w1.heap.size) 0 ⟨timC p.acts.length (distT p) (shortA p)⟩ rfl rfl (bk_there (Bk.new w1 59 ⟨timC 0 zT zD⟩) (by simp [timC_len])) (timC_info p.acts.length (distT p) (shortA p)) (oneAll p.acts.length (distT p) (shortA p)) ?_); change wpList _ _ _ _ _ ((w1.alloc (.cells ⟨timC 0 zT zD⟩ 59)).setCells w1.heap.size 0 (timC p.acts.length (distT p) (shortA p))); generalize (w1.alloc (.cells ⟨timC 0 zT zD⟩ 59)).setCells w1.heap.size 0 (timC p.acts.length (distT p) (shortA p)) = w2 at S2 ⊢; generalize w1.heap.size = g at S2 ⊢; have x0 := (S2.out.bk 0 rfl).tim.1) | (refine wpList_load_mid rfl 59 _ rfl (g) 0 rfl (timC p.acts.length (distT p) (shortA p)) _ (bk_range (S2.out.bk 0 rfl)) Tryz.underlying59 rfl (timC_info p.acts.length (distT p) (shortA p)) ?_) | fail)
  refine (bound_any p.acts.length (distT p) (shortA p) _ h6).mono ?_
  rintro e w5 ⟨rfl, b5⟩
  have S5 := Lib.hid (S2.out.go b5)
  clear b5 S2
  rw [← HS.out]
  go_wp2
  go_ret
  exact ⟨rfl, S5.out.1⟩

set_option maxRecDepth 100000 in
set_option maxHeartbeats 8000000 in
theorem implTail_any (p : Pj) (a : Int) (v : Value) (w : World) (hv : (trPj p).rd w v) (hk : (trPj p).ok) :
    Calls Tryz.prog 33 #[v, .int .i64 a] w fun e w' => e = .returned (.int .i64 (tailB p a)) ∧ Below w.heap.size w w' := by
  have HV := Lib.hid hv
  obtain ⟨A1, c1, A2, c2, A3, c3, A4, c4, rfl, r1, r2, r3, r4⟩ := rdProject_t hv
  clear hv r1 r2 r3 r4
  have HK := Lib.hid hk
  clear hk
  have S0 := Lib.hid ((Sn.start w).box 35 [.int .i64 p.dl, .slice A1 p.acts.length c1, .slice A2 p.lks.length c2, .slice A3 p.ress.length c3, .slice A4 p.stk.length c4])
  go_enter Tryz.func33, Tryz.ntmps33
  obtain ⟨e0, e1, e2, e3, e4, ef⟩ := (S0.out.bk 0 rfl).c5
  go_wp2_with fail
  clear e0 e1 e2 e3 e4 ef
  refine (timing_any p _ _ (by exact S0.out.old HV.out) HK.out).mono ?_
  rintro e w1 ⟨N, T, d, rfl, hN, b⟩
  have S1 := Lib.hid (S0.out.go b)
  have HN := Lib.hid hN
  have hW := bk_whole (vs := timC N T d) (Bk.new w1 59 ⟨timC 0 zT zD⟩) (by simp only [timC_len])
  have S2 := Lib.hid ((S1.out.box 59 (timC 0 zT zD)).boxWr 0 rfl hW.1 hW.2)
  simp only [List.set_cons_zero] at S2
  clear hW S0 S1 b hN
  rcases hok : okD p with _ | _
  · have HS := Lib.hid (tail_no (a := a) hok)
    clear hok
    go_wp2_with (first | ((refine wpList_store_mid rfl 59 _ _ rfl (w1.heap.size) 0 ⟨timC N T d⟩ rfl rfl (bk_there (Bk.new w1 59 ⟨timC 0 zT zD⟩) (by simp [timC_len])) (timC_info N T d) (oneAll N T d) ?_); change wpList _ _ _ _ _ ((w1.alloc (.cells ⟨timC 0 zT zD⟩ 59)).setCells w1.heap.size 0 (timC N T d)); generalize (w1.alloc (.cells ⟨timC 0 zT zD⟩ 59)).setCells w1.heap.size 0 (timC N T d) = w2 at S2 ⊢; generalize w1.heap.size = g at S2 ⊢; have x0 := (S2.out.bk 0 rfl).tim.1) | (refine wpList_load_mid rfl 59 _ rfl (g) 0 rfl (timC N T d) _ (bk_range (S2.out.bk 0 rfl)) Tryz.underlying59 rfl (timC_info N T d) ?_) | fail)
    go_ret
    exact ⟨by rw [HS.out] <;> rfl, S2.out.1⟩
  obtain ⟨rfl, rfl, rfl⟩ := HN.out hok
  have h6 := (pok_acts (okD_pok hok)).1
  have HOK := Lib.hid hok
  clear hok HN
  by_cases hin : 0 ≤ a ∧ a < (p.acts.length : Int)
  · obtain ⟨x, rfl⟩ : ∃ x : Nat, a = (x : Int) := ⟨a.toNat, by omega⟩
    have hx : x < p.acts.length := by omega
    have HS := Lib.hid (tail_yes HOK.out hx)
    have HI := Lib.hid (inB_yes (show (0 : Int) ≤ (x : Int) ∧ (x : Int) ≤ (p.acts.length : Int) - 1 by omega))
    go_wp2_with (first | ((refine wpList_store_mid rfl 59 _ _ rfl (w1.heap.size) 0 ⟨timC p.acts.length (distT p) (shortA p)⟩ rfl rfl (bk_there (Bk.new w1 59 ⟨timC 0 zT zD⟩) (by simp [timC_len])) (timC_info p.acts.length (distT p) (shortA p)) (oneAll p.acts.length (distT p) (shortA p)) ?_); change wpList _ _ _ _ _ ((w1.alloc (.cells ⟨timC 0 zT zD⟩ 59)).setCells w1.heap.size 0 (timC p.acts.length (distT p) (shortA p))); generalize (w1.alloc (.cells ⟨timC 0 zT zD⟩ 59)).setCells w1.heap.size 0 (timC p.acts.length (distT p) (shortA p)) = w2 at S2 ⊢; generalize w1.heap.size = g at S2 ⊢; have x0 := (S2.out.bk 0 rfl).tim.1) | (refine wpList_load_mid rfl 59 _ rfl (g) 0 rfl (timC p.acts.length (distT p) (shortA p)) _ (bk_range (S2.out.bk 0 rfl)) Tryz.underlying59 rfl (timC_info p.acts.length (distT p) (shortA p)) ?_) | fail)
    refine (isBelow_any (x : Int) (p.acts.length : Int) _).mono ?_
    rintro e w5 ⟨rfl, rfl⟩
    rw [HI.out]
    go_wp2_with (first | (refine wpList_load_mid rfl 59 _ rfl (g) 0 rfl (timC p.acts.length (distT p) (shortA p)) _ (bk_range (S2.out.bk 0 rfl)) Tryz.underlying59 rfl (timC_info p.acts.length (distT p) (shortA p)) ?_) | fail)
    refine (tail_any p.acts.length (distT p) (shortA p) x _ h6 hx).mono ?_
    rintro e w6 ⟨rfl, b6⟩
    have S6 := Lib.hid (S2.out.go b6)
    clear b6 S2 x0
    go_wp2
    go_ret
    exact ⟨by rw [HS.out] <;> rfl, S6.out.1⟩
  · have HS := Lib.hid (tail_out (p := p) hin)
    have HI := Lib.hid (inB_no (show ¬ ((0 : Int) ≤ a ∧ a ≤ (p.acts.length : Int) - 1) by omega))
    clear hin
    go_wp2_with (first | ((refine wpList_store_mid rfl 59 _ _ rfl (w1.heap.size) 0 ⟨timC p.acts.length (distT p) (shortA p)⟩ rfl rfl (bk_there (Bk.new w1 59 ⟨timC 0 zT zD⟩) (by simp [timC_len])) (timC_info p.acts.length (distT p) (shortA p)) (oneAll p.acts.length (distT p) (shortA p)) ?_); change wpList _ _ _ _ _ ((w1.alloc (.cells ⟨timC 0 zT zD⟩ 59)).setCells w1.heap.size 0 (timC p.acts.length (distT p) (shortA p))); generalize (w1.alloc (.cells ⟨timC 0 zT zD⟩ 59)).setCells w1.heap.size 0 (timC p.acts.length (distT p) (shortA p)) = w2 at S2 ⊢; generalize w1.heap.size = g at S2 ⊢; have x0 := (S2.out.bk 0 rfl).tim.1) | (refine wpList_load_mid rfl 59 _ rfl (g) 0 rfl (timC p.acts.length (distT p) (shortA p)) _ (bk_range (S2.out.bk 0 rfl)) Tryz.underlying59 rfl (timC_info p.acts.length (distT p) (shortA p)) ?_) | fail)
    refine (isBelow_any a (p.acts.length : Int) _).mono ?_
    rintro e w5 ⟨rfl, rfl⟩
    rw [HI.out]
    go_wp2
    go_ret
    exact ⟨by rw [HS.out] <;> rfl, S2.out.1⟩
end Go.Proofs.YtoggakfkpeloiaaGreat
