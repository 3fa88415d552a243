/- DERIVED. CONTRACTS: the model's MinDuration, MaxDuration, MinUsage, MinConsumption, MinWork. -/
import Derived.Test.YtoggakfkpeloiaaGreatActA
import Derived.Test.YtoggakfkpeloiaaGreatMaths
import Derived.Test.YtoggakfkpeloiaaGreatSets
import Derived.Test.YtoggakfkpeloiaaGreatCore
namespace Go.Proofs.YtoggakfkpeloiaaGreat
open Go.RowKit

theorem ret_in {a b : Int} (h : a = b) : Ending.returned (.int .i64 a) = .returned (.int .i64 b) := by rw [h]
def durV (m : Md) : Option Int := some m.du
def leastV (t : Int) (take work : Bool) (m : Md) : Option Int :=
  (amtB (if take then m.co else m.us) t).map fun x => if work then wrap64 (x * m.du) else x
theorem dur_lacks {ms : List Md} {S : List Int} : ¬ Lacks ms S durV := fun ⟨_, _, _, h⟩ => by cases h
theorem hasS_any (xs : List Int) (x : Int) (v : Value) (w : World) (hr : Rd w v (xs.map (.int .i64))) :
    Calls Tryz.prog 119 #[v, .int .i64 x] w fun e w' => e = .returned (.bool (hasB xs x)) ∧ w = w' :=
  (specHas_any xs x v w hr).mono fun _ _ ⟨he, hw⟩ => ⟨he, hw.symm⟩

set_option maxRecDepth 100000 in
set_option maxHeartbeats 2000000 in
theorem specMinDuration_any (a : Ac) (S : List Int) (v u : Value) (w : World) (hv : (trA a).rd w v) (hu : Rd w u (S.map (.int .i64))) :
    Calls Tryz.prog 88 #[v, u] w fun e w' => e = .returned (.int .i64 (selB ltB durV a.ms S)) ∧ Below w.heap.size w w' := by
  obtain ⟨A, c, rfl, hms⟩ := rdA hv
  obtain ⟨hla, A, c, he, ga⟩ := rdMs hms
  injection he with he _ he2
  subst he
  subst he2
  clear hms hv
  generalize hres : selB ltB durV a.ms S = res
  have RES := Lib.hid hres
  clear hres
  have GA := Lib.hid ga
  clear ga
  have HU := Lib.hid hu
  clear hu
  go_enter Tryz.func88, Tryz.ntmps88
  go_wp2
  have hb0 : Below w.heap.size w (w.alloc (.cells #[.string a.nm, .int .i64 a.fa, .slice A a.ms.length c] 84)) := (Below.refl _ _).alloc (Nat.le_refl _) _
  generalize w.alloc (.cells #[.string a.nm, .int .i64 a.fa, .slice A a.ms.length c] 84) = w0 at hb0 ⊢
  have HB0 := Lib.hid hb0
  clear hb0
  go_loopw [5, 6, 12] (fun n f i wr => ∃ (k : Nat) (fb : Bool) (z : Int), k ≤ a.ms.length ∧ i = .int .i64 k ∧ f = .bool fb ∧ n = .int .i64 z ∧ IsBest ltB (Vals a.ms S durV k) fb z ∧ Below w.heap.size w wr) (fun _ _ i _ => a.ms.length - (intOf i).toNat)
  case atStart => exact ⟨0, false, 0, Nat.zero_le _, rfl, rfl, rfl, IsBest.start.same vals_zero, HB0.out⟩
  case round =>
    obtain ⟨k, fb, z, hk, rfl, rfl, rfl, hbest, hbel⟩ := hrel
    have IB := Lib.hid hbest
    clear hbest
    by_cases hlt : k < a.ms.length
    · have hlt' : (k : Int) < (a.ms.length : Int) := by omega
      obtain ⟨b, o, rfl, hb, hc⟩ := GA.out k hlt
      obtain ⟨U, cu, C, cc, hc0, hc1, hc2, _, _⟩ := hc k hlt
      have hx0 := (hbel.cell (p := ⟨b, o + k * 3, none⟩) hb).trans hc0
      have hx1 := (hbel.cell (p := ⟨b, o + k * 3 + 1, none⟩) hb).trans hc1
      have hx2 := (hbel.cell (p := ⟨b, o + k * 3 + 2, none⟩) hb).trans hc2
      clear hc hc0 hc1 hc2
      have HS := Lib.hid (HU.out.below (hbel.alloc hbel.size (.cells #[.int .i64 a.ms[k].du, .slice U a.ms[k].us.length cu, .slice C a.ms[k].co.length cc] 111)) (Nat.le_refl _))
      have HE := Lib.hid (hbel.alloc hbel.size (.cells #[.int .i64 a.ms[k].du, .slice U a.ms[k].us.length cu, .slice C a.ms[k].co.length cc] 111))
      clear hbel
      rcases hh : hasB S (k : Int) with _ | _
      · have HQ := Lib.hid (vals_skip (xs := a.ms) (val := durV) hh)
        have HH := Lib.hid hh
        clear hh
        generalize a.ms[k].us.length = lu at hx1 HS HE
        generalize a.ms[k].co.length = lc at hx2 HS HE
        generalize a.ms[k].du = d at hx0 HS HE
        go_wp2_with fail
        refine (hasS_any S _ u _ HS.out).mono ?_
        rintro e w1 ⟨rfl, rfl⟩
        rw [HH.out]
        go_wp2
        go_roundw
        case rel => exact ⟨k + 1, fb, z, by omega, by go_num, rfl, rfl, IB.out.same HQ.out, HE.out⟩
        case measure => simp [intOf]; omega
      · have HQ := Lib.hid (fun x0 hx => vals_add (S := S) (val := durV) hlt hh (x0 := x0) hx)
        have HD := Lib.hid (show durV a.ms[k] = some a.ms[k].du from rfl)
        have HH := Lib.hid hh
        clear hh
        generalize a.ms[k].us.length = lu at hx1 HS HE
        generalize a.ms[k].co.length = lc at hx2 HS HE
        generalize a.ms[k].du = d at hx0 HS HE HD
        rcases fb with _ | _
        · go_wp2_with fail
          refine (hasS_any S _ u _ HS.out).mono ?_
          rintro e w1 ⟨rfl, rfl⟩
          rw [HH.out]
          go_wp2
          go_roundw
          case rel => exact ⟨k + 1, true, d, by omega, by go_num, rfl, rfl, IB.out.take0 prefers_lt (HQ.out d HD.out), HE.out⟩
          case measure => simp [intOf]; omega
        · by_cases hd : d < z
          · go_wp2_with fail
            refine (hasS_any S _ u _ HS.out).mono ?_
            rintro e w1 ⟨rfl, rfl⟩
            rw [HH.out]
            go_wp2
            go_roundw
            case rel => exact ⟨k + 1, true, d, by omega, by go_num, rfl, rfl, IB.out.take1 prefers_lt (HQ.out d HD.out) (decide_eq_true hd), HE.out⟩
            case measure => simp [intOf]; omega
          · go_wp2_with fail
            refine (hasS_any S _ u _ HS.out).mono ?_
            rintro e w1 ⟨rfl, rfl⟩
            rw [HH.out]
            go_wp2
            go_roundw
            case rel => exact ⟨k + 1, true, z, by omega, by go_num, rfl, rfl, IB.out.keep (HQ.out d HD.out) (decide_eq_false (by omega)), HE.out⟩
            case measure => simp [intOf]; omega
    · have hge : ¬ (k : Int) < (a.ms.length : Int) := by omega
      obtain rfl : k = a.ms.length := by omega
      have HE := Lib.hid hbel
      clear hbel
      go_wp2
      go_ret
      exact ⟨ret_in (by rw [← RES.out, sel_vals prefers_lt dur_lacks IB.out]), HE.out⟩

end Go.Proofs.YtoggakfkpeloiaaGreat
