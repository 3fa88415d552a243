/- FnExactFormatClause at the commit in COMMIT: the law returns true for every input, and each argument reads behind the call as it read before. The listed variables of the library start as the program's text lays them (the card ties them to it). -/
import Derived.Test.YtgbpomakomddjabGreatDoorClFA
import Derived.Test.YtgbpomakomddjabGreatDoorTPj
import Derived.Test.YtgbpomakomddjabGreatDoorTFl
import Derived.Deep.RegionWith
import Derived.Deep.RegionHeld3
import Derived.Test.YtgbpomakomddjabGreatDoorCards
import Derived.Test.YtgbpomakomddjabGreatDoorTie
import Derived.Test.YtgbpomakomddjabGreatDoorCore
import Derived.Test.YtgbpomakomddjabGreatDoorOpenAll
import Derived.WalkKit
import Derived.ProofKit
import Derived.OpenShut
import Derived.ShutString
import Derived.ChangeOld
import Derived.SliceStrings
import Derived.Deep.DeepHandedRow
import Derived.Lib.LaidTab
import Derived.Stop.LaidErr

section
namespace Go.Proofs.YtgbpomakomddjabGreatDoor
open Go.RowKit
set_option linter.unusedVariables false
set_option maxRecDepth 100000 in
set_option maxHeartbeats 4000000 in
theorem walkFnExactFormatClause (v0 : Value) (d0 : Pj) (v1 : Value) (d1 : List Lt) (w : World) (hr0 : (trPj d0).rd w v0) (hk0 : (trPj d0).ok) (hr1 : (trLts d1).rd w v1) (hk1 : (trLts d1).ok) (ht : TB w) :
    Calls Tryz.prog 3 #[v0, v1] w fun e w' => e = .returned (.bool true) ∧ Below w.heap.size w w' := by
  have HK0 := Lib.hid hk0
  have HR0 := Lib.hid hr0
  obtain ⟨U0_1, u0_1, U0_2, u0_2, U0_3, u0_3, U0_4, u0_4, rfl, _, _, _, _⟩ := rdProject_t hr0
  clear hk0 hr0
  have HK1 := Lib.hid hk1
  have HR1 := Lib.hid hr1
  obtain ⟨U1, u1, rfl⟩ := rows_slice hr1
  clear hk1 hr1
  have T0 := Lib.hid ht
  clear ht
  have S0 := Lib.hid (Sn.start w)
  have S1 := Lib.hid (S0.out.box 27 [.int .i64 d0.dl, .slice U0_1 d0.acts.length u0_1, .slice U0_2 d0.lks.length u0_2, .slice U0_3 d0.ress.length u0_3, .slice U0_4 d0.stk.length u0_4])
  clear S0
  go_enter Tryz.func3, Tryz.ntmps3
  go_wp2_with fail
  refine (szProject_t d0 _ (1048576) _ (by exact S1.out.old HR0.out) HK0.out (by omega) (by omega)).mono ?_
  rintro e w2 ⟨rfl, b⟩
  have S2 := Lib.hid (S1.out.go b)
  clear S1 b
  generalize hz0 : (trPj d0).sz = z0
  have HZ0 := Lib.hid hz0
  clear hz0
  by_cases hbig0 : (1048576 : Int) < (z0 : Int)
  · rw [if_pos hbig0]
    go_wp2
    go_ret
    exact ⟨rfl, S2.out.1⟩
  rw [if_neg hbig0]
  have hq0 : 0 ≤ (1048576 - (z0 : Int) : Int) := by omega
  have hb0 : z0 ≤ 1048576 := by omega
  go_wp2_with fail
  refine (szLiteralS_t d1 _ (1048576 - (z0 : Int)) _ (by exact S2.out.old HR1.out) HK1.out (by omega) (by omega)).mono ?_
  rintro e w3 ⟨rfl, b⟩
  have S3 := Lib.hid (S2.out.go b)
  clear S2 b
  generalize hz1 : (trLts d1).sz = z1
  have HZ1 := Lib.hid hz1
  clear hz1
  by_cases hbig1 : (1048576 - (z0 : Int) : Int) < (z1 : Int)
  · rw [if_pos hbig1]
    go_wp2
    go_ret
    exact ⟨rfl, S3.out.1⟩
  rw [if_neg hbig1]
  have hq1 : 0 ≤ (1048576 - (z0 : Int) - (z1 : Int) : Int) := by omega
  have hb1 : z1 ≤ 1048576 := by omega
  obtain ⟨c0, c1, c2, c3, c4, cf⟩ := (S3.out.bk 0 rfl).c5
  go_wp2_with fail
  clear c0 c1 c2 c3 c4 cf
  refine (toProject_t d0 _ _ (by exact S3.out.old HR0.out) (by have := HZ0.out; omega)).mono ?_
  rintro e w4 ⟨v4_, F4, rfl, o, h, b⟩
  have S4 := Lib.hid (S3.out.new o h b)
  clear S3 o h b
  go_wp2_with fail
  refine (toLiteralS_t d1 _ _ (by exact S4.out.old HR1.out) (by have := HZ1.out; omega)).mono ?_
  rintro e w5 ⟨v5_, F5, rfl, o, h, b⟩
  have S5 := Lib.hid (S4.out.new o h b)
  clear S4 o h b
  go_wp2_with fail
  refine (specFormatClause_any d0 d1 _ _ _ (by exact S5.out.rd 1 rfl) HK0.out (by exact S5.out.rd 0 rfl)).mono ?_
  rintro e w6 ⟨rfl, b⟩
  have S6 := Lib.hid (S5.out.go b)
  clear S5 b
  obtain ⟨c0, c1, c2, c3, c4, cf⟩ := (S6.out.bk 2 rfl).c5
  go_wp2_with fail
  clear c0 c1 c2 c3 c4 cf
  refine (toProject_t d0 _ _ (by exact S6.out.old HR0.out) (by have := HZ0.out; omega)).mono ?_
  rintro e w7 ⟨v7_, F7, rfl, o, h, b⟩
  obtain ⟨X7_1, x7_1, X7_2, x7_2, X7_3, x7_3, X7_4, x7_4, rfl, _, _, _, _⟩ := rdProject_t (Tr.own_rd _ _ _ o)
  have S7 := Lib.hid ((S6.out.new o h b).box 36 [.int .i64 d0.dl, .slice X7_1 d0.acts.length x7_1, .slice X7_2 d0.lks.length x7_2, .slice X7_3 d0.ress.length x7_3, .slice X7_4 d0.stk.length x7_4])
  clear S6 o h b
  go_wp2_with fail
  refine (toLiteralS_t d1 _ _ (by exact S7.out.old HR1.out) (by have := HZ1.out; omega)).mono ?_
  rintro e w8 ⟨v8_, F8, rfl, o, h, b⟩
  have S8 := Lib.hid (S7.out.new o h b)
  clear S7 o h b
  obtain ⟨x0, x1, x2, x3, x4, xf⟩ := (S8.out.bk 1 rfl).c5
  go_wp2_with fail
  clear x0 x1 x2 x3 x4 xf
  refine (implFormatClause_any d0 d1 _ _ _ (by exact S8.out.rd 2 rfl) HK0.out (by exact (S8.out.own 0 rfl).1) HK1.out (lt_len (by have := HZ1.out; omega)) (by exact T0.out.below S8.out.1 (Nat.le_refl _))).mono ?_
  rintro e w9 ⟨rfl, b⟩
  have S9 := Lib.hid (S8.out.go b)
  clear S8 b
  obtain ⟨c0, c1, c2, c3, c4, cf⟩ := (S9.out.bk 1 rfl).c5
  obtain ⟨g0, g1, g2, g3, g4, gf⟩ := (S9.out.bk 5 rfl).c5
  have S10 := Lib.hid (S9.out.drew1)
  clear S9
  go_wp2_with fail
  go_region_with (first
    | (go_at_call 8; refine (toProject_t d0 _ _ (by exact S10.out.old HR0.out) (by have := HZ0.out; omega)).mono ?_; rintro e w11 ⟨v11_, F11, rfl, o, h, b⟩; have S11 := Lib.hid (S10.out.new o h b); obtain ⟨e0, e1, e2, e3, e4, ef⟩ := (S11.out.bk 2 rfl).c5; clear S10 o h b)
    | (go_at_call 11; refine (eqProject_t d0 _ _ _ (by exact S11.out.rd 3 rfl) (by exact S11.out.rd 0 rfl)).mono ?_; rintro e w12 ⟨rfl, b⟩; have S12 := Lib.hid (S11.out.go b); clear S11 b))
  all_goals
    clear c0 c1 c2 c3 c4 cf g0 g1 g2 g3 g4 gf
    try clear e0 e1 e2 e3 e4 ef
    go_wp2_with fail
    refine (toLiteralS_t d1 _ _ (by exact S12.out.old HR1.out) (by have := HZ1.out; omega)).mono ?_
    rintro e w13 ⟨v13_, F13, rfl, o, h, b⟩
    have S13 := Lib.hid (S12.out.new o h b)
    clear S12 o h b
    go_wp2_with fail
    refine (eqLiteralS_t (d1) _ _ _ (by exact S13.out.rd 2 rfl) (by exact S13.out.rd 0 rfl)).mono ?_
    rintro e w14 ⟨rfl, b⟩
    have S14 := Lib.hid (S13.out.go b)
    clear S13 b
    go_wp2
    go_ret
    exact ⟨rfl, S14.out.1⟩
end Go.Proofs.YtgbpomakomddjabGreatDoor
end

section
namespace Go.Proofs.YtgbpomakomddjabGreatDoor.fnExactFormatClause
open Go.ChangeShapes Go.WideShapes Go.ChangeAt Go.RowKit
open Go.ChangeMaps (open_string shut_string)
set_option linter.unusedVariables false

theorem own : ownKnob Tryz.prog.godebug = none := by kernel_rfl
theorem laidOut : laidOutB Tryz.prog = true := by kernel_rfl
theorem gTabType : (Tryz.prog.globals[1]?).map (·.type) = some 215 := by kernel_rfl
theorem cellsTab : Tryz.prog.cellsOf 215 = 20 := by kernel_rfl
theorem cellsU64 : Tryz.prog.cellsOf 193 = 1 := by kernel_rfl
theorem table {W : World} (h : laidMetH Tryz.prog Rows.fnExactFormatClauseRow.laid W) : TB W := by
  have h' : laidMet Tryz.prog Rows.fnExactFormatClauseRow.laid W := h
  exact Lib.tabIs_of_head (rest := []) gPow gTabType Tryz.underlying215 Tryz.underlying193 cellsU64 cellsTab h'.tail.tail


set_option maxRecDepth 100000 in
theorem contract (H : Type) (enc : TypeId × Value → H) (W : World) (base : Nat) (args : Array Value) (ds gs : List (DataW H)) (before : List MemPlace)
    (hval0 : ∀ (j : Nat) t v, Tryz.f3.params[j]? = some t → args[j]? = some v → Value.okWide Tryz.prog W .any base t v)
    (hW : DataW.Whole enc Tryz.prog Tryz.f3.params.toList Rows.fnExactFormatClauseSpec.vars false W args.toList ds gs before) (hL : laidMetH Tryz.prog Rows.fnExactFormatClauseRow.laid W) :
    Calls Tryz.prog 3 args W fun e W' => ∃ v, e = .returned v ∧ Rows.fnExactFormatClauseSpec.post enc Tryz.prog Tryz.f3 false true false false W args v W' := by
  have hval : ∀ (j : Nat) t v, Tryz.f3.params[j]? = some t → args[j]? = some v → Value.okWide Tryz.prog W .any base t v := hval0
  have hW' := hW
  obtain ⟨p, q, hA0, hV, rfl, hfz, hnd⟩ := hW
  have hA : DataW.TrodAll enc Tryz.prog W 0 (fun _ => true) true Tryz.f3.params.toList args.toList ds p := hA0
  rw [Tryz.params3] at hA hval
  obtain ⟨v0, vs0, d0, ds0, p0, q0, hargs, rfl, rfl, h0, r0⟩ := trodAll_cons hA
  obtain ⟨v1, vs1, d1, ds1, p1, q1, rfl, rfl, rfl, h1, r1⟩ := trodAll_cons r0
  obtain ⟨rfl, rfl, rfl⟩ := trodAll_nil r1
  obtain rfl : args = #[v0, v1] := by cases args; simp_all
  obtain ⟨rfl, rfl⟩ := trodVars_none hV
  have k0 := h0
  have lt0 : ∀ x ∈ p0, x.block < W.heap.size := by obtain ⟨m, hm⟩ := k0; exact DataW.trod_lt m _ _ _ hm
  obtain ⟨a0, ok0, w0⟩ := opens_agg Tryz.underlying27 opens_Project (hval 0 27 v0 rfl rfl) h0
  obtain ⟨a1c, len1, cap1, rfl⟩ := okWide_slice Tryz.underlying28 (hval 1 28 v1 rfl rfl)
  have k1 := h1
  have lt1 : ∀ x ∈ p1, x.block < W.heap.size := by obtain ⟨m, hm⟩ := k1; exact DataW.trod_lt m _ _ _ hm
  obtain ⟨a1, ok1, w1⟩ := opens_one opens_LiteralS h1
  clear hA0
  refine (walkFnExactFormatClause v0 a0 (.slice a1c len1 cap1) a1 W w0 ok0 w1 ok1 (table hL)).mono fun e W' ⟨he, bel⟩ => ?_
  subst he
  exact ⟨_, rfl, _, _, _, [], _, [], hW', trodAll_mk1 (shut_bool Tryz.underlying4 _), (trodAll_cons_mk (Below.trod laidOut (by kernel_rfl) (of_decide_eq_true (by kernel_rfl)) k0 bel lt0) (trodAll_cons_mk (Below.trod laidOut (by kernel_rfl) (of_decide_eq_true (by kernel_rfl)) k1 bel lt1) trodAll_mk0)), rfl, bel.frame _, fun h => by cases h⟩

def valsOf : DataW Unit → Array Value
  | .agg ds => (ds.map fun d => match d with | .lit (.int k z) => Value.int k z | _ => Value.bool false).toArray
  | _ => #[]
/-- A world for the witness: the settled one, the listed variables holding what their initialisers lay. -/
noncomputable def laidWorld (os : Os) : World :=
  { World.holding Tryz.prog os ⟨#[], #[], []⟩ with heap := ((((World.holding Tryz.prog os ⟨#[], #[], []⟩).heap.modify 2 fun | .cells _ t fz => .cells (valsOf Rows.laid_math_bits_deBruijn32tab) t fz | o => o).modify 3 fun | .cells _ t fz => .cells (valsOf Rows.laid_math_bits_deBruijn64tab) t fz | o => o).modify 1 fun | .cells _ t fz => .cells (valsOf Rows.laid_internal_strconv_uint64pow10) t fz | o => o) }
set_option maxRecDepth 100000 in
theorem laid_met (os : Os) : laidMet Tryz.prog Rows.fnExactFormatClauseRow.laid ((laidWorld os).forCall (fun _ _ => 0) ⟨#[], #[.agg #[.int .i64 0, .slice none 0 0, .slice none 0 0, .slice none 0 0, .slice none 0 0], .slice none 0 0], []⟩).memory :=
  laidMet_of_run' 8 (by kernel_rfl) (by kernel_rfl)
set_option maxRecDepth 100000 in
theorem reads (os : Os) {H : Type} (enc : TypeId × Value → H) : ∃ places, DataW.whole enc Tryz.prog ((laidWorld os).forCall (fun _ _ => 0) ⟨#[], #[.agg #[.int .i64 0, .slice none 0 0, .slice none 0 0, .slice none 0 0, .slice none 0 0], .slice none 0 0], []⟩).memory Tryz.f3.params.toList Rows.fnExactFormatClauseSpec.vars false #[.agg #[.int .i64 0, .slice none 0 0, .slice none 0 0, .slice none 0 0, .slice none 0 0], .slice none 0 0].toList 8 = some ([.agg [.lit (.int .i64 0), .nil, .nil, .nil, .nil], .nil], [], places) :=
  ⟨[], by kernel_rfl⟩

set_option maxRecDepth 100000 in
theorem lifted (os : Os) (started : os.Started) (H : Type) (enc : TypeId × Value → H) (F : Stop.Interp) :
    ReturnsInHanded {} Tryz.checked os 3 .any ((OpenSpec.ofChange Rows.fnExactFormatClauseSpec).preRow enc Tryz.prog Tryz.f3 Rows.fnExactFormatClauseRow.domain false Rows.fnExactFormatClauseRow.laid) (((OpenSpec.ofChange Rows.fnExactFormatClauseSpec).at F).post enc Tryz.prog Tryz.f3 false true false false) := by
  obtain ⟨places, hx⟩ := reads os enc
  refine returnsInHanded_of_row (C := Tryz.checked) (s := OpenSpec.ofChange Rows.fnExactFormatClauseSpec) own started (by kernel_rfl) Tryz.func3
    (witness_row_at (enc := enc) (C := Tryz.checked) false (laidWorld os) #[.agg #[.int .i64 0, .slice none 0 0, .slice none 0 0, .slice none 0 0, .slice none 0 0], .slice none 0 0] rfl (by kernel_rfl) (by kernel_rfl) (by kernel_rfl)
      (OpenSpec.preRow_of_cond 8 hx (by kernel_rfl) (fun k hk => by cases hk) (by kernel_rfl) (laid_met os))) ?_
  intro W base args ds gs before hval hW _ _ _ hL _ _
  exact contract H enc W base args ds gs before hval hW hL

set_option maxRecDepth 100000 in
theorem said : Rows.FnExactFormatClauseSaid :=
  OpenClaim.holds_of_cond 3 Tryz.f3 rfl rfl rfl rfl rfl rfl rfl ⟨rfl, rfl, rfl, rfl, rfl⟩ rfl rfl rfl rfl rfl (by kernel_rfl) Tryz.func3 (by kernel_rfl)
    (of_decide_eq_true (by kernel_rfl)) (by unfold Func.isWrapper; first | (rw [if_pos (by decide +kernel)]; kernel_rfl) | (rw [if_neg (by decide +kernel)]; exact ⟨rfl, rfl⟩))
    (fun os started H enc _ F => by rw [OpenClaim.pre_eq_preRow]; exact lifted os started H enc F)

set_option maxRecDepth 100000 in
theorem plain (f : FuncId) (fn : Func) (hf : Tryz.pinned.checked.prog.funcNamed Rows.fnExactFormatClauseRow.func = some f) (hfn : Tryz.pinned.checked.prog.funcs[f]? = some fn) :
    false = Tryz.pinned.checked.prog.looks [] ∧ ∀ (j : Nat) t, fn.params[j]? = some t → Tryz.pinned.checked.prog.wantsStandIn t = false := by
  obtain rfl : f = 3 := Option.some.inj ((show Tryz.prog.funcNamed Rows.fnExactFormatClauseRow.func = some 3 by kernel_rfl).symm.trans hf) |>.symm
  obtain rfl : fn = Tryz.f3 := (Option.some.inj (Tryz.func3.symm.trans hfn)).symm
  refine ⟨by kernel_rfl, fun j t ht => ?_⟩
  rw [Tryz.params3] at ht
  have ht' := Array.mem_of_getElem? ht
  simp at ht'
  rcases ht' with rfl | rfl
  · exact (show Tryz.prog.wantsStandIn 27 = false by kernel_rfl)
  · exact (show Tryz.prog.wantsStandIn 28 = false by kernel_rfl)

set_option maxRecDepth 100000 in
theorem proved : Rows.FnExactFormatClauseCardSaid :=
  Claim7.holds_tied_plain_at .later [] _ _ _ _ said (fun _ h => by cases h) (by kernel_rfl) (fun _ h => by cases h) fnExactFormatClause_row_tie rfl ⟨rfl, rfl⟩ (by kernel_rfl) rfl plain (by kernel_rfl)
end Go.Proofs.YtgbpomakomddjabGreatDoor.fnExactFormatClause
end
