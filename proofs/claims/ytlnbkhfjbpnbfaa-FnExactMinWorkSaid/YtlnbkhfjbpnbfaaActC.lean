/- DERIVED. CONTRACTS: the model's MinDuration, MaxDuration, MinUsage, MinConsumption, MinWork. -/
import Derived.Test.YtlnbkhfjbpnbfaaActA
import Derived.Test.YtlnbkhfjbpnbfaaBestMath
import Derived.Test.YtlnbkhfjbpnbfaaSetA
import Derived.Test.YtlnbkhfjbpnbfaaSn
namespace Go.Proofs.Ytlnbkhfjbpnbfaa
open Go.RowKit

theorem ret_in {a b : Int} (h : a = b) : Ending.returned (.int .i64 a) = .returned (.int .i64 b) := by rw [h]
def durV (m : Md) : Option Int := some m.du
def leastV (t : Int) (take work : Bool) (m : Md) : Option Int :=
  (amtB (if take then m.co else m.us) t).map fun x => if work then wrap64 (x * m.du) else x
theorem dur_lacks {ms : List Md} {S : List Int} : ¬ Lacks ms S durV := fun ⟨_, _, _, h⟩ => by cases h
theorem hasS_any (xs : List Int) (x : Int) (v : Value) (w : World) (hr : Rd w v (xs.map (.int .i64))) :
    Calls Try.prog 56 #[v, .int .i64 x] w fun e w' => e = .returned (.bool (hasB xs x)) ∧ w = w' :=
  (specHas_any xs x v w hr).mono fun _ _ ⟨he, hw⟩ => ⟨he, hw.symm⟩

set_option maxRecDepth 100000 in
set_option maxHeartbeats 2000000 in
theorem specMinDuration_any (a : Ac) (S : List Int) (v u : Value) (w : World) (hv : (trA a).rd w v) (hu : Rd w u (S.map (.int .i64))) :
    Calls Try.prog 28 #[v, u] w fun e w' => e = .returned (.int .i64 (selB ltB durV a.ms S)) ∧ Below w.heap.size w w' := by
  obtain ⟨A, c, rfl, hms⟩ := rdA hv
  obtain ⟨hla, A, c, he, ga⟩ := rdMs hms
  injection he with he _ he2
  subst he
  subst he2
  clear hms hv
  generalize hres : selB ltB durV a.ms S = res
  have RES := Lib.hid hres
  clear hres
  have GA := Lib.hid ga
  clear ga
  have HU := Lib.hid hu
  clear hu
  go_enter Try.func28, Try.ntmps28
  go_wp2
  have hb0 : Below w.heap.size w (w.alloc (.cells #[.string a.nm, .int .i64 a.fa, .slice A a.ms.length c] 38)) := (Below.refl _ _).alloc (Nat.le_refl _) _
  generalize w.alloc (.cells #[.string a.nm, .int .i64 a.fa, .slice A a.ms.length c] 38) = w0 at hb0 ⊢
  have HB0 := Lib.hid hb0
  clear hb0
  go_loopw [5, 6, 12] (fun n f i wr => ∃ (k : Nat) (fb : Bool) (z : Int), k ≤ a.ms.length ∧ i = .int .i64 k ∧ f = .bool fb ∧ n = .int .i64 z ∧ IsBest ltB (Vals a.ms S durV k) fb z ∧ Below w.heap.size w wr) (fun _ _ i _ => a.ms.length - (intOf i).toNat)
  case atStart => exact ⟨0, false, 0, Nat.zero_le _, rfl, rfl, rfl, IsBest.start.same vals_zero, HB0.out⟩
  case round =>
    obtain ⟨k, fb, z, hk, rfl, rfl, rfl, hbest, hbel⟩ := hrel
    have IB := Lib.hid hbest
    clear hbest
    by_cases hlt : k < a.ms.length
    · have hlt' : (k : Int) < (a.ms.length : Int) := by omega
      obtain ⟨b, o, rfl, hb, hc⟩ := GA.out k hlt
      obtain ⟨U, cu, C, cc, hc0, hc1, hc2, _, _⟩ := hc k hlt
      have hx0 := (hbel.cell (p := ⟨b, o + k * 3, none⟩) hb).trans hc0
      have hx1 := (hbel.cell (p := ⟨b, o + k * 3 + 1, none⟩) hb).trans hc1
      have hx2 := (hbel.cell (p := ⟨b, o + k * 3 + 2, none⟩) hb).trans hc2
      clear hc hc0 hc1 hc2
      have HS := Lib.hid (HU.out.below (hbel.alloc hbel.size (.cells #[.int .i64 a.ms[k].du, .slice U a.ms[k].us.length cu, .slice C a.ms[k].co.length cc] 27)) (Nat.le_refl _))
      have HE := Lib.hid (hbel.alloc hbel.size (.cells #[.int .i64 a.ms[k].du, .slice U a.ms[k].us.length cu, .slice C a.ms[k].co.length cc] 27))
      clear hbel
      rcases hh : hasB S (k : Int) with _ | _
      · have HQ := Lib.hid (vals_skip (xs := a.ms) (val := durV) hh)
        have HH := Lib.hid hh
        clear hh
        generalize a.ms[k].us.length = lu at hx1 HS HE
        generalize a.ms[k].co.length = lc at hx2 HS HE
        generalize a.ms[k].du = d at hx0 HS HE
        go_wp2_with fail
        refine (hasS_any S _ u _ HS.out).mono ?_
        rintro e w1 ⟨rfl, rfl⟩
        rw [HH.out]
        go_wp2
        go_roundw
        case rel => exact ⟨k + 1, fb, z, by omega, by go_num, rfl, rfl, IB.out.same HQ.out, HE.out⟩
        case measure => simp [intOf]; omega
      · have HQ := Lib.hid (fun x0 hx => vals_add (S := S) (val := durV) hlt hh (x0 := x0) hx)
        have HD := Lib.hid (show durV a.ms[k] = some a.ms[k].du from rfl)
        have HH := Lib.hid hh
        clear hh
        generalize a.ms[k].us.length = lu at hx1 HS HE
        generalize a.ms[k].co.length = lc at hx2 HS HE
        generalize a.ms[k].du = d at hx0 HS HE HD
        rcases fb with _ | _
        · go_wp2_with fail
          refine (hasS_any S _ u _ HS.out).mono ?_
          rintro e w1 ⟨rfl, rfl⟩
          rw [HH.out]
          go_wp2
          go_roundw
          case rel => exact ⟨k + 1, true, d, by omega, by go_num, rfl, rfl, IB.out.take0 prefers_lt (HQ.out d HD.out), HE.out⟩
          case measure => simp [intOf]; omega
        · by_cases hd : d < z
          · go_wp2_with fail
            refine (hasS_any S _ u _ HS.out).mono ?_
            rintro e w1 ⟨rfl, rfl⟩
            rw [HH.out]
            go_wp2
            go_roundw
            case rel => exact ⟨k + 1, true, d, by omega, by go_num, rfl, rfl, IB.out.take1 prefers_lt (HQ.out d HD.out) (decide_eq_true hd), HE.out⟩
            case measure => simp [intOf]; omega
          · go_wp2_with fail
            refine (hasS_any S _ u _ HS.out).mono ?_
            rintro e w1 ⟨rfl, rfl⟩
            rw [HH.out]
            go_wp2
            go_roundw
            case rel => exact ⟨k + 1, true, z, by omega, by go_num, rfl, rfl, IB.out.keep (HQ.out d HD.out) (decide_eq_false (by omega)), HE.out⟩
            case measure => simp [intOf]; omega
    · have hge : ¬ (k : Int) < (a.ms.length : Int) := by omega
      obtain rfl : k = a.ms.length := by omega
      have HE := Lib.hid hbel
      clear hbel
      go_wp2
      go_ret
      exact ⟨ret_in (by rw [← RES.out, sel_vals prefers_lt dur_lacks IB.out]), HE.out⟩

set_option maxRecDepth 100000 in
set_option maxHeartbeats 2000000 in
theorem specMaxDuration_any (a : Ac) (S : List Int) (v u : Value) (w : World) (hv : (trA a).rd w v) (hu : Rd w u (S.map (.int .i64))) :
    Calls Try.prog 31 #[v, u] w fun e w' => e = .returned (.int .i64 (selB gtB durV a.ms S)) ∧ Below w.heap.size w w' := by
  obtain ⟨A, c, rfl, hms⟩ := rdA hv
  obtain ⟨hla, A, c, he, ga⟩ := rdMs hms
  injection he with he _ he2
  subst he
  subst he2
  clear hms hv
  generalize hres : selB gtB durV a.ms S = res
  have RES := Lib.hid hres
  clear hres
  have GA := Lib.hid ga
  clear ga
  have HU := Lib.hid hu
  clear hu
  go_enter Try.func31, Try.ntmps31
  go_wp2
  have hb0 : Below w.heap.size w (w.alloc (.cells #[.string a.nm, .int .i64 a.fa, .slice A a.ms.length c] 38)) := (Below.refl _ _).alloc (Nat.le_refl _) _
  generalize w.alloc (.cells #[.string a.nm, .int .i64 a.fa, .slice A a.ms.length c] 38) = w0 at hb0 ⊢
  have HB0 := Lib.hid hb0
  clear hb0
  go_loopw [5, 6, 12] (fun n f i wr => ∃ (k : Nat) (fb : Bool) (z : Int), k ≤ a.ms.length ∧ i = .int .i64 k ∧ f = .bool fb ∧ n = .int .i64 z ∧ IsBest gtB (Vals a.ms S durV k) fb z ∧ Below w.heap.size w wr) (fun _ _ i _ => a.ms.length - (intOf i).toNat)
  case atStart => exact ⟨0, false, 0, Nat.zero_le _, rfl, rfl, rfl, IsBest.start.same vals_zero, HB0.out⟩
  case round =>
    obtain ⟨k, fb, z, hk, rfl, rfl, rfl, hbest, hbel⟩ := hrel
    have IB := Lib.hid hbest
    clear hbest
    by_cases hlt : k < a.ms.length
    · have hlt' : (k : Int) < (a.ms.length : Int) := by omega
      obtain ⟨b, o, rfl, hb, hc⟩ := GA.out k hlt
      obtain ⟨U, cu, C, cc, hc0, hc1, hc2, _, _⟩ := hc k hlt
      have hx0 := (hbel.cell (p := ⟨b, o + k * 3, none⟩) hb).trans hc0
      have hx1 := (hbel.cell (p := ⟨b, o + k * 3 + 1, none⟩) hb).trans hc1
      have hx2 := (hbel.cell (p := ⟨b, o + k * 3 + 2, none⟩) hb).trans hc2
      clear hc hc0 hc1 hc2
      have HS := Lib.hid (HU.out.below (hbel.alloc hbel.size (.cells #[.int .i64 a.ms[k].du, .slice U a.ms[k].us.length cu, .slice C a.ms[k].co.length cc] 27)) (Nat.le_refl _))
      have HE := Lib.hid (hbel.alloc hbel.size (.cells #[.int .i64 a.ms[k].du, .slice U a.ms[k].us.length cu, .slice C a.ms[k].co.length cc] 27))
      clear hbel
      rcases hh : hasB S (k : Int) with _ | _
      · have HQ := Lib.hid (vals_skip (xs := a.ms) (val := durV) hh)
        have HH := Lib.hid hh
        clear hh
        generalize a.ms[k].us.length = lu at hx1 HS HE
        generalize a.ms[k].co.length = lc at hx2 HS HE
        generalize a.ms[k].du = d at hx0 HS HE
        go_wp2_with fail
        refine (hasS_any S _ u _ HS.out).mono ?_
        rintro e w1 ⟨rfl, rfl⟩
        rw [HH.out]
        go_wp2
        go_roundw
        case rel => exact ⟨k + 1, fb, z, by omega, by go_num, rfl, rfl, IB.out.same HQ.out, HE.out⟩
        case measure => simp [intOf]; omega
      · have HQ := Lib.hid (fun x0 hx => vals_add (S := S) (val := durV) hlt hh (x0 := x0) hx)
        have HD := Lib.hid (show durV a.ms[k] = some a.ms[k].du from rfl)
        have HH := Lib.hid hh
        clear hh
        generalize a.ms[k].us.length = lu at hx1 HS HE
        generalize a.ms[k].co.length = lc at hx2 HS HE
        generalize a.ms[k].du = d at hx0 HS HE HD
        rcases fb with _ | _
        · go_wp2_with fail
          refine (hasS_any S _ u _ HS.out).mono ?_
          rintro e w1 ⟨rfl, rfl⟩
          rw [HH.out]
          go_wp2
          go_roundw
          case rel => exact ⟨k + 1, true, d, by omega, by go_num, rfl, rfl, IB.out.take0 prefers_gt (HQ.out d HD.out), HE.out⟩
          case measure => simp [intOf]; omega
        · by_cases hd : z < d
          · go_wp2_with fail
            refine (hasS_any S _ u _ HS.out).mono ?_
            rintro e w1 ⟨rfl, rfl⟩
            rw [HH.out]
            go_wp2
            go_roundw
            case rel => exact ⟨k + 1, true, d, by omega, by go_num, rfl, rfl, IB.out.take1 prefers_gt (HQ.out d HD.out) (decide_eq_true hd), HE.out⟩
            case measure => simp [intOf]; omega
          · go_wp2_with fail
            refine (hasS_any S _ u _ HS.out).mono ?_
            rintro e w1 ⟨rfl, rfl⟩
            rw [HH.out]
            go_wp2
            go_roundw
            case rel => exact ⟨k + 1, true, z, by omega, by go_num, rfl, rfl, IB.out.keep (HQ.out d HD.out) (decide_eq_false (by omega)), HE.out⟩
            case measure => simp [intOf]; omega
    · have hge : ¬ (k : Int) < (a.ms.length : Int) := by omega
      obtain rfl : k = a.ms.length := by omega
      have HE := Lib.hid hbel
      clear hbel
      go_wp2
      go_ret
      exact ⟨ret_in (by rw [← RES.out, sel_vals prefers_gt dur_lacks IB.out]), HE.out⟩

set_option maxRecDepth 100000 in
set_option maxHeartbeats 4000000 in
theorem specLeast_any (a : Ac) (S : List Int) (t : Int) (take work : Bool) (v u : Value) (w : World) (hv : (trA a).rd w v) (hu : Rd w u (S.map (.int .i64))) :
    Calls Try.prog 61 #[v, u, .int .i64 t, .bool take, .bool work] w fun e w' => e = .returned (.int .i64 (selB ltB (leastV t take work) a.ms S)) ∧ Below w.heap.size w w' := by
  obtain ⟨A, c, rfl, hms⟩ := rdA hv
  obtain ⟨hla, A, c, he, ga⟩ := rdMs hms
  injection he with he _ he2
  subst he
  subst he2
  clear hms hv
  generalize hres : selB ltB (leastV t take work) a.ms S = res
  have RES := Lib.hid hres
  clear hres
  have GA := Lib.hid ga
  clear ga
  have HU := Lib.hid hu
  clear hu
  go_enter Try.func61, Try.ntmps61
  go_wp2
  have hb0 : Below w.heap.size w (w.alloc (.cells #[.string a.nm, .int .i64 a.fa, .slice A a.ms.length c] 38)) := (Below.refl _ _).alloc (Nat.le_refl _) _
  generalize w.alloc (.cells #[.string a.nm, .int .i64 a.fa, .slice A a.ms.length c] 38) = w0 at hb0 ⊢
  have HB0 := Lib.hid hb0
  clear hb0
  go_loopw [11, 12, 20] (fun n f i wr => ∃ (k : Nat) (fb : Bool) (z : Int), k ≤ a.ms.length ∧ i = .int .i64 k ∧ f = .bool fb ∧ n = .int .i64 z ∧ IsBest ltB (Vals a.ms S (leastV t take work) k) fb z ∧ (∀ j, (hj : j < a.ms.length) → j < k → hasB S (j : Int) = true → leastV t take work a.ms[j] ≠ none) ∧ Below w.heap.size w wr) (fun _ _ i _ => a.ms.length - (intOf i).toNat)
  case atStart => exact ⟨0, false, 0, Nat.zero_le _, rfl, rfl, rfl, IsBest.start.same vals_zero, fun j _ h => absurd h (by omega), HB0.out⟩
  case round =>
    obtain ⟨k, fb, z, hk, rfl, rfl, rfl, hbest, hall, hbel⟩ := hrel
    have IB := Lib.hid hbest
    clear hbest
    have HALL := Lib.hid hall
    clear hall
    by_cases hlt : k < a.ms.length
    · have hlt' : (k : Int) < (a.ms.length : Int) := by omega
      obtain ⟨b, o, rfl, hb, hc⟩ := GA.out k hlt
      obtain ⟨U, cu, C, cc, hc0, hc1, hc2, r1, r2⟩ := hc k hlt
      have hx0 := (hbel.cell (p := ⟨b, o + k * 3, none⟩) hb).trans hc0
      have hx1 := (hbel.cell (p := ⟨b, o + k * 3 + 1, none⟩) hb).trans hc1
      have hx2 := (hbel.cell (p := ⟨b, o + k * 3 + 2, none⟩) hb).trans hc2
      clear hc hc0 hc1 hc2
      obtain ⟨_, _, _, hlu⟩ := rdI_slice r1
      obtain ⟨_, _, _, hlc⟩ := rdI_slice r2
      have R1 := Lib.hid (r1.below (hbel.alloc hbel.size (.cells #[.int .i64 a.ms[k].du, .slice U a.ms[k].us.length cu, .slice C a.ms[k].co.length cc] 27)) (Nat.le_refl _))
      have R2 := Lib.hid (r2.below (hbel.alloc hbel.size (.cells #[.int .i64 a.ms[k].du, .slice U a.ms[k].us.length cu, .slice C a.ms[k].co.length cc] 27)) (Nat.le_refl _))
      clear r1 r2
      have HS := Lib.hid (HU.out.below (hbel.alloc hbel.size (.cells #[.int .i64 a.ms[k].du, .slice U a.ms[k].us.length cu, .slice C a.ms[k].co.length cc] 27)) (Nat.le_refl _))
      have HE := Lib.hid (hbel.alloc hbel.size (.cells #[.int .i64 a.ms[k].du, .slice U a.ms[k].us.length cu, .slice C a.ms[k].co.length cc] 27))
      clear hbel
      rcases hh : hasB S (k : Int) with _ | _
      · have HQ := Lib.hid (vals_skip (xs := a.ms) (val := leastV t take work) hh)
        have HH := Lib.hid hh
        have NX := Lib.hid (fun j (hj : j < a.ms.length) (hjk : j < k + 1) (hs : hasB S (j : Int) = true) => show leastV t take work a.ms[j] ≠ none from by
          by_cases e : j = k
          · subst e; rw [HH.out] at hs; cases hs
          · exact HALL.out j hj (by omega) hs)
        clear hh
        clear R1 R2
        generalize a.ms[k].us.length = lu at hx1 HS HE
        generalize a.ms[k].co.length = lc at hx2 HS HE
        generalize a.ms[k].du = d at hx0 HS HE
        go_wp2_with fail
        refine (hasS_any S _ u _ HS.out).mono ?_
        rintro e w1 ⟨rfl, rfl⟩
        rw [HH.out]
        go_wp2
        go_roundw
        case rel => exact ⟨k + 1, fb, z, by omega, by go_num, rfl, rfl, IB.out.same HQ.out, NX.out, HE.out⟩
        case measure => simp [intOf]; omega
      · have HQ := Lib.hid (fun x0 hx => vals_add (S := S) (val := leastV t take work) hlt hh (x0 := x0) hx)
        have HL := Lib.hid (fun hx => lacks_at (S := S) (val := leastV t take work) hlt hh hx)
        have HH := Lib.hid hh
        have NX := Lib.hid (fun (hn : leastV t take work a.ms[k] ≠ none) j (hj : j < a.ms.length) (hjk : j < k + 1) (hs : hasB S (j : Int) = true) => show leastV t take work a.ms[j] ≠ none from by
          by_cases e : j = k
          · subst e; exact hn
          · exact HALL.out j hj (by omega) hs)
        clear hh
        generalize hm : a.ms[k] = m at hx0 hx1 hx2 hlu hlc R1 R2 HS HE HQ HL NX
        clear hm HALL
        by_cases hin : 0 ≤ t ∧ t < ((if take then m.co else m.us).length : Int)
        · obtain ⟨n, rfl⟩ : ∃ n : Nat, t = (n : Int) := ⟨t.toNat, by omega⟩
          have hn : n < (if take then m.co else m.us).length := by omega
          have HX := Lib.hid (show leastV (n : Int) take work m = some (if work then wrap64 ((if take then m.co else m.us)[n] * m.du) else (if take then m.co else m.us)[n]) from by rw [leastV, amt_yes hn]; rfl)
          have NX2 := Lib.hid (NX.out (by rw [HX.out]; exact fun h => by cases h))
          have hn0 : (0 : Int) ≤ (n : Int) := by omega
          clear NX HL
          rcases take with _ | _
          all_goals
            simp only [if_true, Bool.false_eq_true, if_false] at hin hn HX
            first
              | (obtain ⟨_, B1, d1, he1, hcx⟩ := rdI R1.out; injection he1 with he1 _ he2; subst he1; obtain ⟨bq, oq, rfl, hbq, hcq⟩ := hcx n hn; have hy := hcq n hn; clear hcq hcx)
              | (obtain ⟨_, B1, d1, he1, hcx⟩ := rdI R2.out; injection he1 with he1 _ he2; subst he1; obtain ⟨bq, oq, rfl, hbq, hcq⟩ := hcx n hn; have hy := hcq n hn; clear hcq hcx)
            have IN := Lib.hid (fun (l : Int) (h : (n : Int) < l) => show inB (n : Int) 0 (l - 1) = true from inB_yes (by omega))
            have hin2 := hin.2
            clear he2
            generalize hxx : (_ : List Int)[n] = x at hy HX
            clear hxx
            rcases work with _ | _
            · simp only [Bool.false_eq_true, if_false] at HX
              go_wp2_with fail
              refine (hasS_any S _ u _ HS.out).mono ?_
              rintro e w1 ⟨rfl, rfl⟩
              rw [HH.out]
              go_wp2_with fail
              refine (inD_any _ _ _ _).mono ?_
              rintro e w1 ⟨rfl, rfl⟩
              rw [IN.out _ hin2]
              rcases fb with _ | _
              · go_wp2
                go_roundw
                case rel => exact ⟨k + 1, true, _, by omega, by go_num, rfl, rfl, IB.out.take0 prefers_lt (HQ.out _ HX.out), NX2.out, HE.out⟩
                case measure => simp [intOf]; omega
              · by_cases hd : x < z
                · go_wp2
                  go_roundw
                  case rel => exact ⟨k + 1, true, _, by omega, by go_num, rfl, rfl, IB.out.take1 prefers_lt (HQ.out _ HX.out) (decide_eq_true hd), NX2.out, HE.out⟩
                  case measure => simp [intOf]; omega
                · go_wp2
                  go_roundw
                  case rel => exact ⟨k + 1, true, z, by omega, by go_num, rfl, rfl, IB.out.keep (HQ.out _ HX.out) (decide_eq_false (by omega)), NX2.out, HE.out⟩
                  case measure => simp [intOf]; omega
            · simp only [if_true] at HX
              go_wp2_with fail
              refine (hasS_any S _ u _ HS.out).mono ?_
              rintro e w1 ⟨rfl, rfl⟩
              rw [HH.out]
              go_wp2_with fail
              refine (inD_any _ _ _ _).mono ?_
              rintro e w1 ⟨rfl, rfl⟩
              rw [IN.out _ hin2]
              rcases fb with _ | _
              · go_wp2
                go_roundw
                case rel => exact ⟨k + 1, true, _, by omega, by go_num, rfl, rfl, IB.out.take0 prefers_lt (HQ.out _ HX.out), NX2.out, HE.out⟩
                case measure => simp [intOf]; omega
              · by_cases hd : wrap64 (x * m.du) < z
                · go_wp2
                  go_roundw
                  case rel => exact ⟨k + 1, true, _, by omega, by go_num, rfl, rfl, IB.out.take1 prefers_lt (HQ.out _ HX.out) (decide_eq_true hd), NX2.out, HE.out⟩
                  case measure => simp [intOf]; omega
                · go_wp2
                  go_roundw
                  case rel => exact ⟨k + 1, true, z, by omega, by go_num, rfl, rfl, IB.out.keep (HQ.out _ HX.out) (decide_eq_false (by omega)), NX2.out, HE.out⟩
                  case measure => simp [intOf]; omega
        · have HN := Lib.hid (HL.out (by rw [leastV, amt_no hin]; rfl))
          have IN := Lib.hid (show inB t 0 (((if take then m.co else m.us).length : Int) - 1) = false from inB_no (by omega))
          clear HL NX hin
          rcases take with _ | _
          all_goals
            simp only [if_true, Bool.false_eq_true, if_false] at IN
            go_wp2_with fail
            refine (hasS_any S _ u _ HS.out).mono ?_
            rintro e w1 ⟨rfl, rfl⟩
            rw [HH.out]
            go_wp2_with fail
            refine (inD_any _ _ _ _).mono ?_
            rintro e w1 ⟨rfl, rfl⟩
            rw [IN.out]
            go_wp2
            go_ret
            exact ⟨ret_in (by rw [← RES.out, sel_lacks HN.out]), HE.out⟩
    · have hge : ¬ (k : Int) < (a.ms.length : Int) := by omega
      obtain rfl : k = a.ms.length := by omega
      have HE := Lib.hid hbel
      clear hbel
      go_wp2
      go_ret
      exact ⟨ret_in (by rw [← RES.out, sel_vals prefers_lt (fun ⟨i, hi, hs, hn⟩ => HALL.out i hi hi hs hn) IB.out]), HE.out⟩

theorem specMinUsage_any (a : Ac) (S : List Int) (t : Int) (v u : Value) (w : World) (hv : (trA a).rd w v) (hu : Rd w u (S.map (.int .i64))) :
    Calls Try.prog 33 #[v, u, .int .i64 t] w fun e w' => e = .returned (.int .i64 (selB ltB (leastV t false false) a.ms S)) ∧ Below w.heap.size w w' := by
  obtain ⟨A, c, rfl, _⟩ := rdA hv
  have HV := Lib.hid (Tr.rd_below ((Below.refl _ _).alloc (Nat.le_refl _) (.cells #[.string a.nm, .int .i64 a.fa, .slice A a.ms.length c] 38)) (Nat.le_refl _) _ _ hv)
  have HU := Lib.hid (hu.below ((Below.refl _ _).alloc (Nat.le_refl _) (.cells #[.string a.nm, .int .i64 a.fa, .slice A a.ms.length c] 38)) (Nat.le_refl _))
  clear hv hu
  go_enter Try.func33, Try.ntmps33
  go_wp2_with fail
  refine (specLeast_any a S t false false _ _ _ HV.out HU.out).mono ?_
  rintro e w1 ⟨rfl, hb⟩
  have HB := Lib.hid (((Below.refl _ _).alloc (Nat.le_refl _) _).trans (hb.mono (by simp)))
  clear hb
  go_wp2
  go_ret
  exact ⟨rfl, HB.out⟩

theorem specMinConsumption_any (a : Ac) (S : List Int) (t : Int) (v u : Value) (w : World) (hv : (trA a).rd w v) (hu : Rd w u (S.map (.int .i64))) :
    Calls Try.prog 35 #[v, u, .int .i64 t] w fun e w' => e = .returned (.int .i64 (selB ltB (leastV t true false) a.ms S)) ∧ Below w.heap.size w w' := by
  obtain ⟨A, c, rfl, _⟩ := rdA hv
  have HV := Lib.hid (Tr.rd_below ((Below.refl _ _).alloc (Nat.le_refl _) (.cells #[.string a.nm, .int .i64 a.fa, .slice A a.ms.length c] 38)) (Nat.le_refl _) _ _ hv)
  have HU := Lib.hid (hu.below ((Below.refl _ _).alloc (Nat.le_refl _) (.cells #[.string a.nm, .int .i64 a.fa, .slice A a.ms.length c] 38)) (Nat.le_refl _))
  clear hv hu
  go_enter Try.func35, Try.ntmps35
  go_wp2_with fail
  refine (specLeast_any a S t true false _ _ _ HV.out HU.out).mono ?_
  rintro e w1 ⟨rfl, hb⟩
  have HB := Lib.hid (((Below.refl _ _).alloc (Nat.le_refl _) _).trans (hb.mono (by simp)))
  clear hb
  go_wp2
  go_ret
  exact ⟨rfl, HB.out⟩

theorem specMinWork_any (a : Ac) (S : List Int) (t : Int) (v u : Value) (w : World) (hv : (trA a).rd w v) (hu : Rd w u (S.map (.int .i64))) :
    Calls Try.prog 37 #[v, u, .int .i64 t] w fun e w' => e = .returned (.int .i64 (selB ltB (leastV t false true) a.ms S)) ∧ Below w.heap.size w w' := by
  obtain ⟨A, c, rfl, _⟩ := rdA hv
  have HV := Lib.hid (Tr.rd_below ((Below.refl _ _).alloc (Nat.le_refl _) (.cells #[.string a.nm, .int .i64 a.fa, .slice A a.ms.length c] 38)) (Nat.le_refl _) _ _ hv)
  have HU := Lib.hid (hu.below ((Below.refl _ _).alloc (Nat.le_refl _) (.cells #[.string a.nm, .int .i64 a.fa, .slice A a.ms.length c] 38)) (Nat.le_refl _))
  clear hv hu
  go_enter Try.func37, Try.ntmps37
  go_wp2_with fail
  refine (specLeast_any a S t false true _ _ _ HV.out HU.out).mono ?_
  rintro e w1 ⟨rfl, hb⟩
  have HB := Lib.hid (((Below.refl _ _).alloc (Nat.le_refl _) _).trans (hb.mono (by simp)))
  clear hb
  go_wp2
  go_ret
  exact ⟨rfl, HB.out⟩
end Go.Proofs.Ytlnbkhfjbpnbfaa
