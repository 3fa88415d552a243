/- DERIVED. CONTRACTS of chapter 14: ClauseHolds of both programs. -/
import Derived.Test.YtgbpomakomddjaaClM
import Derived.Test.YtgbpomakomddjaaLtH
import Derived.Test.YtgbpomakomddjaaHofL
import Derived.Test.YtgbpomakomddjaaRwT
namespace Go.Proofs.Ytgbpomakomddjaa
open Go.RowKit Go.Shelf
set_option linter.unusedVariables false

set_option maxRecDepth 100000 in
set_option maxHeartbeats 8000000 in
theorem specClauseHolds_any (l : List Lt) (s : Sc) (v u : Value) (w : World) (hv : (trLts l).rd w v) (hs : (trSc s).rd w u) :
    Calls Try.prog 20 #[v, u] w fun e w' => e = .returned (.bool (clHoldB l s)) ∧ Below w.heap.size w w' := by
  obtain ⟨hl, A, c, rfl, ga⟩ := rdLiteralS_t hv
  have GA := Lib.hid ga
  have HQ := Lib.hid hs
  obtain ⟨E1, f1, E2, f2, rfl, _⟩ := rdSchedule_t hs
  clear hv hs ga
  have HA := Lib.hid (fun j hj h => @clHold_at l s j hj h)
  have HN := Lib.hid (@clHold_no l s)
  generalize clHoldB l s = res at HA HN ⊢
  have S0 := Lib.hid ((Sn.start w).box 38 [.slice E1 s.st.length f1, .slice E2 s.mo.length f2])
  go_enter Try.func20, Try.ntmps20
  go_wp2
  go_loopw [9] (fun i wr => ∃ k : Nat, k ≤ l.length ∧ i = .int .i64 k ∧ Sn w wr [boxI w.heap.size 38 [.slice E1 s.st.length f1, .slice E2 s.mo.length f2]] ∧ ∀ j, (hj : j < l.length) → j < k → holdB l[j] s = false) (fun i _ => l.length - (intOf i).toNat)
  case atStart => exact ⟨0, Nat.zero_le _, rfl, S0.out, fun j _ h => absurd h (by omega)⟩
  case round =>
    obtain ⟨k, hkl, rfl, hS, hall⟩ := hrel
    have S1 := Lib.hid hS
    clear hS S0
    by_cases hlt : k < l.length
    · have hlt' : (k : Int) < (l.length : Int) := by omega
      obtain ⟨b, o, rfl, hb, hc⟩ := GA.out k hlt
      obtain ⟨x0, x1, x2⟩ := hc k hlt
      have hx0 := (S1.out.1.cell (p := ⟨b, o + k * 3, none⟩) hb).trans x0
      have hx1 := (S1.out.1.cell (p := ⟨b, o + k * 3 + 1, none⟩) hb).trans x1
      have hx2 := (S1.out.1.cell (p := ⟨b, o + k * 3 + 2, none⟩) hb).trans x2
      clear hc x0 x1 x2
      rcases hh : holdB l[k] s with _ | _
      · have STEP := Lib.hid (step_all (p := fun x : Lt => holdB x s = false) hlt hall hh)
        have HH := Lib.hid hh
        clear hall hh
        generalize l[k] = m at hx0 hx1 hx2 HH
        have S2 := Lib.hid (S1.out.box 45 [.int .i64 m.ki, .int .i64 m.ac, .int .i64 m.va])
        obtain ⟨q0, q1, qf⟩ := (S2.out.bk 1 rfl).c2
        go_wp2_with fail
        clear q0 q1 qf
        refine (specHolds_any m s _ _ (by exact S2.out.old HQ.out)).mono ?_
        rintro e w3 ⟨rfl, b2⟩
        rw [HH.out]
        have S3 := Lib.hid ((S2.out.go b2).drop 0)
        clear S2 b2
        go_wp2
        go_roundw
        case rel => exact ⟨k + 1, by omega, by go_num, S3.out, STEP.out⟩
        case measure => simp [intOf]; omega
      · have RES := Lib.hid (HA.out k hlt hh)
        have HH := Lib.hid hh
        clear hall hh
        generalize l[k] = m at hx0 hx1 hx2 HH
        have S2 := Lib.hid (S1.out.box 45 [.int .i64 m.ki, .int .i64 m.ac, .int .i64 m.va])
        obtain ⟨q0, q1, qf⟩ := (S2.out.bk 1 rfl).c2
        go_wp2_with fail
        clear q0 q1 qf
        refine (specHolds_any m s _ _ (by exact S2.out.old HQ.out)).mono ?_
        rintro e w3 ⟨rfl, b2⟩
        rw [HH.out]
        have S3 := Lib.hid ((S2.out.go b2).drop 0)
        clear S2 b2
        go_wp2
        go_ret
        exact ⟨ret_boo RES.out.symm, S3.out.1⟩
    · have hge : ¬ (k : Int) < (l.length : Int) := by omega
      have RES := Lib.hid (HN.out fun j hj => hall j hj (by omega))
      clear hall
      go_wp2
      go_ret
      exact ⟨ret_boo RES.out.symm, S1.out.1⟩
theorem enters_cloHolds : ∀ args w, (callFunc 40 args).run Try.prog w = .ok (.enter 40 args) w := enters_of Try.func40 (by kernel_rfl) rfl
set_option maxRecDepth 100000 in
set_option maxHeartbeats 8000000 in
theorem cloHolds_any (x : Lt) (s : Sc) (E1 E2 : Option Addr) (f1 f2 g : Nat) (T : TypeId) (v : Value) (w : World) (hx : (trLt x).rd w v) (hs : (trSc s).rd w (.agg #[.slice E1 s.st.length f1, .slice E2 s.mo.length f2])) (hg : Bk w g T #[.slice E1 s.st.length f1, .slice E2 s.mo.length f2]) :
    Calls Try.prog 40 #[v, .pointer (some ⟨g, 0, none⟩)] w fun e w' => e = .returned (.bool (holdB x s)) ∧ Below w.heap.size w w' := by
  obtain rfl := rdLiteral_t hx
  have HQ := Lib.hid hs
  obtain ⟨e0, e1, ef⟩ := hg.c2
  have hlt := hg.lt
  clear hs hx hg
  have S0 := Lib.hid ((Sn.start w).box 45 [.int .i64 x.ki, .int .i64 x.ac, .int .i64 x.va])
  go_enter Try.func40, Try.ntmps40
  go_wp2_with fail
  refine (implHolds_any x s _ _ (by exact S0.out.old HQ.out)).mono ?_
  rintro e w1 ⟨rfl, b⟩
  have S1 := Lib.hid (S0.out.go b)
  clear S0 b e0 e1 ef
  go_wp2
  go_ret
  exact ⟨rfl, S1.out.1⟩
set_option maxRecDepth 100000 in
set_option maxHeartbeats 8000000 in
theorem implClauseHolds_any (l : List Lt) (s : Sc) (v u : Value) (w : World) (hv : (trLts l).rd w v) (hk : (trLts l).ok) (hs : (trSc s).rd w u) :
    Calls Try.prog 22 #[v, u] w fun e w' => e = .returned (.bool (clHoldB l s)) ∧ Below w.heap.size w w' := by
  have HV := Lib.hid hv
  have HQ := Lib.hid hs
  have HK := Lib.hid hk
  obtain ⟨A, c, rfl⟩ := rdT_slice hv
  obtain ⟨E1, f1, E2, f2, rfl, _⟩ := rdSchedule_t hs
  clear hv hs hk
  have S0 := Lib.hid ((Sn.start w).box 38 [.slice E1 s.st.length f1, .slice E2 s.mo.length f2])
  unfold clHoldB
  go_enter Try.func22, Try.ntmps22
  go_wp2_with fail
  refine (containsFuncLiteral_any 40 _ (fun x => holdB x s) l _ _ (by exact S0.out.old HV.out) HK.out enters_cloHolds (fun x v2 w2 hb hk hr => by
    exact cloHolds_any x s _ _ _ _ _ _ v2 w2 hr (Tr.rd_below hb (Nat.le_refl _) _ _ (S0.out.old HQ.out)) ((S0.out.bk 0 rfl).below hb (Nat.le_refl _)))).mono ?_
  rintro e w1 ⟨rfl, b⟩
  have S1 := Lib.hid (S0.out.go b)
  clear S0 b
  go_wp2
  go_ret
  exact ⟨rfl, S1.out.1⟩
end Go.Proofs.Ytgbpomakomddjaa
