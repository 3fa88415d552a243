/- DERIVED. CONTRACTS: the program's elementAt, its orders and values. -/
import Derived.Test.YtnbkiobbacaaiaaGreatDoorActC
import Derived.Test.YtnbkiobbacaaiaaGreatDoorActB
namespace Go.Proofs.YtnbkiobbacaaiaaGreatDoor
open Go.RowKit

theorem isNaN_any (n : Int) (w : World) :
    Calls Tryz.prog 79 #[.int .i64 n] w fun e w' => e = .returned (.bool false) ∧ w = w' := by
  go_enter Tryz.func79, Tryz.ntmps79
  go_wp2
  go_ret
  exact ⟨by simp, rfl⟩
theorem less_any (x y : Int) (w : World) :
    Calls Tryz.prog 64 #[.int .i64 x, .int .i64 y] w fun e w' => e = .returned (.bool (ltB x y)) ∧ w = w' := by
  go_enter Tryz.func64, Tryz.ntmps64
  go_wp2_with fail
  refine (isNaN_any _ _).mono ?_
  rintro e w' ⟨rfl, rfl⟩
  go_wp2
  go_ret
  exact ⟨rfl, rfl⟩
theorem greater_any (x y : Int) (w : World) :
    Calls Tryz.prog 39 #[.int .i64 x, .int .i64 y] w fun e w' => e = .returned (.bool (gtB x y)) ∧ w = w' := by
  go_enter Tryz.func39, Tryz.ntmps39
  go_wp2
  go_ret
  exact ⟨rfl, rfl⟩

/-- A value and whether there is one, as the program returns it. -/
def optI : Option Int → Value
  | some x => .tuple #[.int .i64 x, .bool true]
  | none => .tuple #[.int .i64 0, .bool false]

set_option maxRecDepth 100000 in
theorem elemI_any (l : List Int) (i : Int) (v : Value) (w : World) (hr : Rd w v (l.map (.int .i64))) :
    Calls Tryz.prog 41 #[v, .int .i64 i] w fun e w' => e = .returned (optI (amtB l i)) ∧ w = w' := by
  obtain ⟨hl, A, c, rfl, ha⟩ := rdI hr
  unfold maxLen at hl
  clear hr
  have HA := Lib.hid ha
  clear ha
  by_cases h0 : i < 0
  · rw [amt_no (by omega)]
    go_enter Tryz.func41, Tryz.ntmps41
    go_wp2
    go_ret2
    exact ⟨rfl, rfl⟩
  by_cases h1 : (l.length : Int) ≤ i
  · rw [amt_no (by omega)]
    go_enter Tryz.func41, Tryz.ntmps41
    go_wp2
    go_ret2
    exact ⟨rfl, rfl⟩
  obtain ⟨n, rfl⟩ : ∃ n : Nat, i = (n : Int) := ⟨i.toNat, by omega⟩
  have hn : n < l.length := by omega
  obtain ⟨b, o, rfl, hb, hc⟩ := HA.out n hn
  have hx := hc n hn
  clear hc
  rw [amt_yes hn]
  generalize l[n] = x at hx
  go_enter Tryz.func41, Tryz.ntmps41
  go_wp2
  go_ret2
  exact ⟨rfl, rfl⟩

set_option maxRecDepth 100000 in
set_option maxHeartbeats 1000000 in
theorem elemM_no (ms : List Md) (i : Int) (v : Value) (w : World) (hr : (trMs ms).rd w v) (h : ¬ (0 ≤ i ∧ i < ms.length)) :
    Calls Tryz.prog 65 #[v, .int .i64 i] w fun e w' => e = .returned (.tuple #[.agg #[.int .i64 0, .slice none 0 0, .slice none 0 0], .bool false]) ∧ Below w.heap.size w w' := by
  obtain ⟨hla, A, c, rfl, _⟩ := rdMs hr
  clear hr
  by_cases h0 : i < 0
  · clear h
    go_enter Tryz.func65, Tryz.ntmps65
    go_wp2
    refine bodyPost_ret (v := .tuple #[.agg #[.int .i64 0, .slice none 0 0, .slice none 0 0], .bool false]) (by simp [results, Tryz.results65, go_sem]) rfl ⟨rfl, ?_⟩
    repeat (first | exact Below.refl _ _ | refine Below.setCell ?_ (by simp) _ | refine Below.alloc ?_ (by first | (simp; done) | (simp; omega)) _)
  · have h1 : (ms.length : Int) ≤ i := by omega
    clear h
    go_enter Tryz.func65, Tryz.ntmps65
    go_wp2
    refine bodyPost_ret (v := .tuple #[.agg #[.int .i64 0, .slice none 0 0, .slice none 0 0], .bool false]) (by simp [results, Tryz.results65, go_sem]) rfl ⟨rfl, ?_⟩
    repeat (first | exact Below.refl _ _ | refine Below.setCell ?_ (by simp) _ | refine Below.alloc ?_ (by first | (simp; done) | (simp; omega)) _)

set_option maxRecDepth 100000 in
set_option maxHeartbeats 1000000 in
theorem elemM_yes (ms : List Md) (n : Nat) (hn : n < ms.length) (v : Value) (w : World) (hr : (trMs ms).rd w v) :
    Calls Tryz.prog 65 #[v, .int .i64 (n : Int)] w fun e w' => ∃ U cu C cc, e = .returned (.tuple #[.agg #[.int .i64 ms[n].du, .slice U ms[n].us.length cu, .slice C ms[n].co.length cc], .bool true]) ∧
      (trM ms[n]).rd w (.agg #[.int .i64 ms[n].du, .slice U ms[n].us.length cu, .slice C ms[n].co.length cc]) ∧ Below w.heap.size w w' := by
  obtain ⟨hla, A, c, rfl, ga⟩ := rdMs hr
  clear hr
  obtain ⟨b, o, rfl, hb, hc⟩ := ga n hn
  obtain ⟨U, cu, C, cc, hc0, hc1, hc2, r1, r2⟩ := hc n hn
  have HM := Lib.hid (mk_rdM (m := ms[n]) r1 r2)
  have h0 : (0 : Int) ≤ (n : Int) := by omega
  have h1 : (n : Int) < (ms.length : Int) := by omega
  clear ga hc r1 r2
  refine Calls.mono ?_ (fun e w' (h : e = .returned (.tuple #[.agg #[.int .i64 ms[n].du, .slice U ms[n].us.length cu, .slice C ms[n].co.length cc], .bool true]) ∧ Below w.heap.size w w') => ⟨U, cu, C, cc, h.1, HM.out, h.2⟩)
  generalize ms[n].us.length = lu at hc1
  generalize ms[n].co.length = lc at hc2
  generalize ms[n].du = d at hc0
  clear HM
  go_enter Tryz.func65, Tryz.ntmps65
  go_wp2
  refine bodyPost_ret (v := .tuple #[.agg #[.int .i64 d, .slice U lu cu, .slice C lc cc], .bool true]) (by simp [results, Tryz.results65, go_sem]) rfl ⟨rfl, ?_⟩
  repeat (first | exact Below.refl _ _ | refine Below.setCell ?_ (by simp) _ | refine Below.alloc ?_ (by first | (simp; done) | (simp; omega)) _)

/-- A function value that gives a mode its value, from B on. -/
def Gives (f : FuncId) (bd : Array Value) (B : Nat) (W : World) (val : Md → Option Int) : Prop :=
  ∀ (m : Md) (v : Value) (w : World), Below B W w → (trM m).rd w v → Calls Tryz.prog f (#[v] ++ bd) w fun e w' => e = .returned (optI (val m)) ∧ Below w.heap.size w w'
def Picks (f : FuncId) (pref : Int → Int → Bool) : Prop :=
  ∀ (x y : Int) (w : World), Calls Tryz.prog f #[.int .i64 x, .int .i64 y] w fun e w' => e = .returned (.bool (pref x y)) ∧ w = w'

set_option maxRecDepth 100000 in
set_option maxHeartbeats 1000000 in
theorem best_any (fv fp : FuncId) (bd : Array Value) (val : Md → Option Int) (pref : Int → Int → Bool) (ms : List Md) (S : List Int) (v u : Value) (w : World) (hv : (trMs ms).rd w v) (hu : Rd w u (S.map (.int .i64)))
    (ev : ∀ args w, (callFunc fv args).run Tryz.prog w = .ok (.enter fv args) w) (ep : ∀ args w, (callFunc fp args).run Tryz.prog w = .ok (.enter fp args) w)
    (hg : Gives fv bd w.heap.size w val) (hp : Picks fp pref) (ho : Prefers pref) :
    Calls Tryz.prog 38 #[v, u, .func (.func fv) #[] bd, .func (.func fp) #[] #[]] w fun e w' => e = .returned (.int .i64 (selB pref val ms S)) ∧ Below w.heap.size w w' := by
  obtain ⟨hl, A, c, rfl, ga⟩ := rdI hu
  unfold maxLen at hl
  generalize hres : selB pref val ms S = res
  have RES := Lib.hid hres
  clear hres hu
  have GA := Lib.hid ga
  have HV := Lib.hid hv
  clear ga hv
  have HG := Lib.hid hg
  have HP := Lib.hid hp
  clear hg hp
  go_enter Tryz.func38, Tryz.ntmps38
  go_wp2
  go_loopw [9, 10, 18] (fun n f i wr => ∃ (k : Nat) (fb : Bool) (z : Int), k ≤ S.length ∧ i = .int .i64 k ∧ f = .bool fb ∧ n = .int .i64 z ∧ IsBest pref (ValC ms S val k) fb z ∧ (∀ j, (hj : j < S.length) → j < k → ∀ i, (hi : i < ms.length) → S[j] = (i : Int) → val ms[i] ≠ none) ∧ Below w.heap.size w wr) (fun _ _ i _ => S.length - (intOf i).toNat)
  case atStart => exact ⟨0, false, 0, Nat.zero_le _, rfl, rfl, rfl, IsBest.start.same valC_zero, fun j _ h => absurd h (by omega), Below.refl _ _⟩
  case round =>
    obtain ⟨k, fb, z, hk, rfl, rfl, rfl, hbest, hall, hbel⟩ := hrel
    have IB := Lib.hid hbest
    have HALL := Lib.hid hall
    have HB := Lib.hid hbel
    clear hbest hall hbel
    by_cases hlt : k < S.length
    · have hlt' : (k : Int) < (S.length : Int) := by omega
      obtain ⟨b, o, rfl, hb, hc⟩ := GA.out k hlt
      have hx := (HB.out.cell (p := ⟨b, o + k, none⟩) hb).trans (hc k hlt)
      clear hc
      by_cases hin : 0 ≤ S[k] ∧ S[k] < ms.length
      · obtain ⟨i, hi⟩ : ∃ i : Nat, S[k] = (i : Int) := ⟨S[k].toNat, by omega⟩
        have hil : i < ms.length := by omega
        have HQ := Lib.hid (fun x0 hx => valC_add (val := val) hlt hil hi (x0 := x0) hx)
        have HL := Lib.hid (fun hx => lacks_ch (val := val) hlt hil hi hx)
        have NX := Lib.hid (fun (hn : val ms[i] ≠ none) j (hj : j < S.length) (hjk : j < k + 1) i' (hi' : i' < ms.length) (hs : S[j] = (i' : Int)) => show val ms[i'] ≠ none from by
          by_cases e : j = k
          · subst e
            obtain rfl : i = i' := by omega
            exact hn
          · exact HALL.out j hj (by omega) i' hi' hs)
        rw [hi] at hx
        clear hin hi HALL
        go_wp2_with fail
        refine (elemM_yes ms i hil _ _ (Tr.rd_below HB.out (Nat.le_refl _) _ _ HV.out)).mono ?_
        rintro e w1 ⟨U, cu, C, cc, rfl, hm, hb1⟩
        have HM := Lib.hid (Tr.rd_below (hb1.alloc hb1.size (.cells #[.int .i64 ms[i].du, .slice U ms[i].us.length cu, .slice C ms[i].co.length cc] 39)) (Nat.le_refl _) _ _ hm)
        have HE := Lib.hid ((HB.out.trans (hb1.mono HB.out.size)).alloc (Nat.le_trans HB.out.size hb1.size) (.cells #[.int .i64 ms[i].du, .slice U ms[i].us.length cu, .slice C ms[i].co.length cc] 39))
        clear hm hb1
        go_wp2_with fail
        refine (HG.out ms[i] _ _ HE.out HM.out).mono ?_
        rintro e w2 ⟨rfl, hb2⟩
        have HF := Lib.hid (HE.out.trans (hb2.mono HE.out.size))
        clear hb2
        rcases hval : val ms[i] with _ | x0
        · have HN := Lib.hid (HL.out hval)
          rw [optI]
          go_wp2
          go_ret
          exact ⟨ret_in (by rw [← RES.out, sel_lacks HN.out]), HF.out⟩
        · have NX2 := Lib.hid (NX.out (by rw [hval]; exact fun h => by cases h))
          have HQ2 := Lib.hid (HQ.out x0 hval)
          rw [optI]
          clear hval
          rcases fb with _ | _
          · go_wp2
            go_roundw
            case rel => exact ⟨k + 1, true, x0, by omega, by go_num, rfl, rfl, IB.out.take0 ho HQ2.out, NX2.out, HF.out⟩
            case measure => simp [intOf]; omega
          · go_wp2_with fail
            refine (HP.out x0 z _).mono ?_
            rintro e w3 ⟨rfl, rfl⟩
            rcases hpr : pref x0 z with _ | _
            · have HPR := Lib.hid hpr
              clear hpr
              go_wp2
              go_roundw
              case rel => exact ⟨k + 1, true, z, by omega, by go_num, rfl, rfl, IB.out.keep HQ2.out HPR.out, NX2.out, HF.out⟩
              case measure => simp [intOf]; omega
            · have HPR := Lib.hid hpr
              clear hpr
              go_wp2
              go_roundw
              case rel => exact ⟨k + 1, true, x0, by omega, by go_num, rfl, rfl, IB.out.take1 ho HQ2.out HPR.out, NX2.out, HF.out⟩
              case measure => simp [intOf]; omega
      · have HQ := Lib.hid (valC_skip (xs := ms) (val := val) hlt (fun i hs hi => hin (by omega)))
        have NX := Lib.hid (fun j (hj : j < S.length) (hjk : j < k + 1) i' (hi' : i' < ms.length) (hs : S[j] = (i' : Int)) => show val ms[i'] ≠ none from by
          by_cases e : j = k
          · subst e; exact absurd (by omega) hin
          · exact HALL.out j hj (by omega) i' hi' hs)
        have HIN := Lib.hid hin
        clear HALL hin
        generalize S[k] = y at hx HIN
        go_wp2_with fail
        refine (elemM_no ms y _ _ (Tr.rd_below HB.out (Nat.le_refl _) _ _ HV.out) HIN.out).mono ?_
        rintro e w1 ⟨rfl, hb1⟩
        have HE := Lib.hid ((HB.out.trans (hb1.mono HB.out.size)).alloc (Nat.le_trans HB.out.size hb1.size) (.cells #[.int .i64 0, .slice none 0 0, .slice none 0 0] 39))
        clear hb1
        go_wp2
        go_roundw
        case rel => exact ⟨k + 1, fb, z, by omega, by go_num, rfl, rfl, IB.out.same HQ.out, NX.out, HE.out⟩
        case measure => simp [intOf]; omega
    · have hge : ¬ (k : Int) < (S.length : Int) := by omega
      obtain rfl : k = S.length := by omega
      have SV := Lib.hid (sel_valC ho (fun j hj i hi hs => HALL.out j hj hj i hi hs) IB.out)
      go_wp2
      go_ret
      exact ⟨ret_in (by rw [← RES.out, SV.out]), HB.out⟩
end Go.Proofs.YtnbkiobbacaaiaaGreatDoor
