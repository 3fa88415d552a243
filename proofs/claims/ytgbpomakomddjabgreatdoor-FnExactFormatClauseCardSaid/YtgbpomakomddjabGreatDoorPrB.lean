/- DERIVED. CONTRACTS: ActivityIndex, of the model and of the program; what makes a project valid. -/
import Derived.Test.YtgbpomakomddjabGreatDoorPrA
import Derived.Test.YtgbpomakomddjabGreatDoorHofP
import Derived.Test.YtgbpomakomddjabGreatDoorTPj
import Derived.Test.YtgbpomakomddjabGreatDoorActB
namespace Go.Proofs.YtgbpomakomddjabGreatDoor
open Go.RowKit Go.Shelf
set_option linter.unusedVariables false

/-- The place of a name, or -1. -/
def plcB (al : List Ac) (s : ByteArray) : Int := ixB (fun a => decide (a.nm = s)) al
/-- Each activity is the first of its name. -/
def ownB (al : List Ac) : Bool := decide (∀ j, (h : j < al.length) → plcB al al[j].nm = (j : Int))
theorem ownB_no {al : List Ac} {j : Nat} (h : j < al.length) (hn : ¬ plcB al al[j].nm = (j : Int)) : ownB al = false := decide_eq_false fun H => hn (H j h)
theorem ownB_yes {al : List Ac} (H : ∀ j, (h : j < al.length) → plcB al al[j].nm = (j : Int)) : ownB al = true := decide_eq_true H
theorem step_all' {al : List Ac} {k : Nat} (hlt : k < al.length) (hall : ∀ j, (hj : j < al.length) → j < k → plcB al al[j].nm = (j : Int)) (h : plcB al al[k].nm = (k : Int)) : ∀ j, (hj : j < al.length) → j < k + 1 → plcB al al[j].nm = (j : Int) := fun j hj hjk => by
  by_cases e : j = k
  · subst e; exact h
  · exact hall j hj (by omega)
def lokB (n : Nat) (l : Lk) : Bool := inB l.fr 0 ((n : Int) - 1) && (inB l.to 0 ((n : Int) - 1) && (!(decide (l.fr = l.to)) && inB l.lag (-60) 60))
/-- A valid project. -/
noncomputable def pokB (p : Pj) : Bool :=
  inB p.dl 1 60 && (inB (p.acts.length : Int) 1 6 && (decide ((p.ress.length : Int) ≤ 3) && (decide ((p.stk.length : Int) ≤ 2) && (decide ((p.lks.length : Int) ≤ 12) &&
    (p.acts.all (fun a => aokB a p.ress.length p.stk.length) && (ownB p.acts && (p.ress.all rokB && (p.stk.all (fun n => inB n 0 100) && p.lks.all (lokB p.acts.length)))))))))

set_option maxRecDepth 100000 in
set_option maxHeartbeats 2000000 in
theorem specActivityIndex_any (p : Pj) (s : ByteArray) (v : Value) (w : World) (hv : (trPj p).rd w v) :
    Calls Tryz.prog 68 #[v, .string s] w fun e w' => e = .returned (.int .i64 (plcB p.acts s)) ∧ Below w.heap.size w w' := by
  obtain ⟨A1, c1, A2, c2, A3, c3, A4, c4, rfl, r1, r2, r3, r4⟩ := rdProject_t hv
  obtain ⟨hl, A, c, he, ga⟩ := rdActivityS_t r1
  injection he with he _ he2
  subst he
  subst he2
  have GA := Lib.hid ga
  clear hv r1 r2 r3 r4 ga
  generalize hres : plcB p.acts s = res
  have RES := Lib.hid hres
  clear hres
  have S0 := Lib.hid ((Sn.start w).box 36 [.int .i64 p.dl, .slice A1 p.acts.length c1, .slice A2 p.lks.length c2, .slice A3 p.ress.length c3, .slice A4 p.stk.length c4])
  go_enter Tryz.func68, Tryz.ntmps68
  go_wp2
  go_loopw [10] (fun i wr => ∃ k : Nat, k ≤ p.acts.length ∧ i = .int .i64 k ∧ Below w.heap.size w wr ∧ ∀ j, (hj : j < p.acts.length) → j < k → decide (p.acts[j].nm = s) = false) (fun i _ => p.acts.length - (intOf i).toNat)
  case atStart => exact ⟨0, Nat.zero_le _, rfl, S0.out.1, fun j _ h => absurd h (by omega)⟩
  case round =>
    obtain ⟨k, hkl, rfl, hbel, hall⟩ := hrel
    by_cases hlt : k < p.acts.length
    · have hlt' : (k : Int) < (p.acts.length : Int) := by omega
      obtain ⟨b, o, rfl, hb, hc⟩ := GA.out k hlt
      obtain ⟨B2, d2, g0, g1, g2, _⟩ := hc k hlt
      have hx0 := (hbel.cell (p := ⟨b, o + k * 3, none⟩) hb).trans g0
      have hx1 := (hbel.cell (p := ⟨b, o + k * 3 + 1, none⟩) hb).trans g1
      have hx2 := (hbel.cell (p := ⟨b, o + k * 3 + 2, none⟩) hb).trans g2
      clear hc g0 g1 g2
      have HB := Lib.hid hbel
      clear hbel
      by_cases hn : p.acts[k].nm = s
      · have HN := Lib.hid (ixB_at (p := fun a : Ac => decide (a.nm = s)) hlt hall (decide_eq_true hn))
        rw [hn] at hx0
        clear hall hn
        generalize p.acts[k].ms.length = lm at hx2
        generalize p.acts[k].fa = fa at hx1
        go_wp2
        go_ret
        exact ⟨ret_numZ (by rw [← RES.out]; exact HN.out.symm), HB.out.alloc HB.out.size _⟩
      · have STEP := Lib.hid (step_all (p := fun a : Ac => decide (a.nm = s) = false) hlt hall (decide_eq_false hn))
        have hne := str_ne hn
        clear hall hn
        generalize p.acts[k].ms.length = lm at hx2
        generalize p.acts[k].fa = fa at hx1
        generalize p.acts[k].nm = nm at hx0 hne
        go_wp2
        go_roundw
        case rel => exact ⟨k + 1, by omega, by go_num, HB.out.alloc HB.out.size _, STEP.out⟩
        case measure => simp [intOf]; omega
    · have hge : ¬ (k : Int) < (p.acts.length : Int) := by omega
      have HY := Lib.hid (ixB_none (p := fun a : Ac => decide (a.nm = s)) (fun j hj => hall j hj (by omega)))
      have HB := Lib.hid hbel
      clear hall hbel
      go_wp2
      go_ret
      exact ⟨ret_numZ (by rw [← RES.out]; exact HY.out.symm), HB.out⟩

set_option maxRecDepth 100000 in
theorem cloName_any (a : Ac) (s : ByteArray) (g : Nat) (v : Value) (w : World) (hv : (trA a).rd w v) (hg : w.cell? ⟨g, 0, none⟩ = some (.string s)) (hlt : g < w.heap.size) :
    Calls Tryz.prog 108 #[v, .pointer (some ⟨g, 0, none⟩)] w fun e w' => e = .returned (.bool (decide (a.nm = s))) ∧ Below w.heap.size w w' := by
  obtain ⟨A, c, rfl, _⟩ := rdActivity_t hv
  clear hv
  by_cases h : a.nm = s
  · have H := Lib.hid (decide_eq_true h)
    rw [h] at H ⊢
    clear h
    go_enter Tryz.func108, Tryz.ntmps108
    go_wp2
    go_ret
    exact ⟨by simp, (Below.refl _ _).alloc (Nat.le_refl _) _⟩
  · have H := Lib.hid (decide_eq_false h)
    have hne := str_ne h
    clear h
    go_enter Tryz.func108, Tryz.ntmps108
    go_wp2
    go_ret
    exact ⟨by rw [H.out]; rfl, (Below.refl _ _).alloc (Nat.le_refl _) _⟩
theorem enters_cloName : ∀ args w, (callFunc 108 args).run Tryz.prog w = .ok (.enter 108 args) w := enters_of Tryz.func108 (by kernel_rfl) rfl
theorem tests_cloName (s : ByteArray) (g : Nat) (T : TypeId) (W : World) (hk : Bk W g T #[.string s]) : Tests trA 108 #[.pointer (some ⟨g, 0, none⟩)] W (fun a => decide (a.nm = s)) := fun a v w hb _ hr => by
  have h := hk.below hb (Nat.le_refl _)
  exact cloName_any a s g v w hr (h.cell 0) h.lt

set_option maxRecDepth 100000 in
theorem implActivityIndex_any (p : Pj) (s : ByteArray) (v : Value) (w : World) (hv : (trPj p).rd w v) (hk : (trPj p).ok) :
    Calls Tryz.prog 73 #[v, .string s] w fun e w' => e = .returned (.int .i64 (plcB p.acts s)) ∧ Below w.heap.size w w' := by
  obtain ⟨A1, c1, A2, c2, A3, c3, A4, c4, rfl, r1, r2, r3, r4⟩ := rdProject_t hv
  have R1 := Lib.hid r1
  have K1 := Lib.hid hk.2.1
  clear hv r1 r2 r3 r4 hk
  have S0 := Lib.hid (((Sn.start w).box 36 [.int .i64 p.dl, .slice A1 p.acts.length c1, .slice A2 p.lks.length c2, .slice A3 p.ress.length c3, .slice A4 p.stk.length c4]).box 9 [.string s])
  simp only [World.size_alloc] at S0
  go_enter Tryz.func73, Tryz.ntmps73
  go_wp2_with fail
  refine (indexFuncActivity_any 108 _ (fun a => decide (a.nm = s)) p.acts _ _ (by exact S0.out.old R1.out) K1.out enters_cloName (by exact tests_cloName s _ _ _ (S0.out.bk 0 rfl))).mono ?_
  rintro e w1 ⟨rfl, b⟩
  have S1 := Lib.hid (S0.out.go b)
  clear S0 b
  go_wp2
  go_ret
  exact ⟨rfl, S1.out.1⟩

set_option maxRecDepth 100000 in
set_option maxHeartbeats 2000000 in
theorem haveOwnNames_any (p : Pj) (v : Value) (w : World) (hv : (trPj p).rd w v) (hk : (trPj p).ok) :
    Calls Tryz.prog 119 #[v] w fun e w' => e = .returned (.bool (ownB p.acts)) ∧ Below w.heap.size w w' := by
  have HV := Lib.hid hv
  have HK := Lib.hid hk
  obtain ⟨A1, c1, A2, c2, A3, c3, A4, c4, rfl, r1, r2, r3, r4⟩ := rdProject_t hv
  obtain ⟨hl, A, c, he, ga⟩ := rdActivityS_t r1
  injection he with he _ he2
  subst he
  subst he2
  have GA := Lib.hid ga
  clear hv r1 r2 r3 r4 ga hk
  generalize hres : ownB p.acts = res
  have RES := Lib.hid hres
  clear hres
  have S0 := Lib.hid ((Sn.start w).box 36 [.int .i64 p.dl, .slice A1 p.acts.length c1, .slice A2 p.lks.length c2, .slice A3 p.ress.length c3, .slice A4 p.stk.length c4])
  go_enter Tryz.func119, Tryz.ntmps119
  go_wp2
  go_loopw [8] (fun i wr => ∃ k : Nat, k ≤ p.acts.length ∧ i = .int .i64 k ∧ Sn w wr [boxI w.heap.size 36 [.int .i64 p.dl, .slice A1 p.acts.length c1, .slice A2 p.lks.length c2, .slice A3 p.ress.length c3, .slice A4 p.stk.length c4]] ∧ ∀ j, (hj : j < p.acts.length) → j < k → plcB p.acts p.acts[j].nm = (j : Int)) (fun i _ => p.acts.length - (intOf i).toNat)
  case atStart => exact ⟨0, Nat.zero_le _, rfl, S0.out, fun j _ h => absurd h (by omega)⟩
  case round =>
    obtain ⟨k, hkl, rfl, hS, hall⟩ := hrel
    have S1 := Lib.hid hS
    clear hS
    by_cases hlt : k < p.acts.length
    · have hlt' : (k : Int) < (p.acts.length : Int) := by omega
      obtain ⟨b, o, rfl, hb, hc⟩ := GA.out k hlt
      obtain ⟨B2, d2, g0, g1, g2, _⟩ := hc k hlt
      have hx0 := (S1.out.1.cell (p := ⟨b, o + k * 3, none⟩) hb).trans g0
      have hx1 := (S1.out.1.cell (p := ⟨b, o + k * 3 + 1, none⟩) hb).trans g1
      have hx2 := (S1.out.1.cell (p := ⟨b, o + k * 3 + 2, none⟩) hb).trans g2
      clear hc g0 g1 g2
      obtain ⟨e0, e1, e2, e3, e4, ef⟩ := (S1.out.bk 0 rfl).c5
      have hbs := (S1.out.bk 0 rfl).lt
      generalize p.acts[k].ms.length = lm at hx2
      generalize p.acts[k].fa = fa at hx1
      have NO := Lib.hid (fun h => ownB_no hlt h)
      have YES := Lib.hid (fun h => step_all' hlt hall h)
      clear hall
      generalize p.acts[k].nm = nm at hx0 NO YES
      go_wp2_with fail
      have S2 := Lib.hid (S1.out.box 89 [.string nm, .int .i64 fa, .slice B2 lm d2])
      clear S1 e0 e1 e2 e3 e4 ef hbs
      refine (implActivityIndex_any p nm _ _ (by exact S2.out.old HV.out) HK.out).mono ?_
      rintro e w1 ⟨rfl, b⟩
      have S3 := Lib.hid (S2.out.go b)
      clear S2 b
      generalize plcB p.acts nm = z at NO YES
      by_cases hz : z = (k : Int)
      · have hz' : (z != (k : Int)) = false := by simp [hz]
        have ST := Lib.hid (YES.out hz)
        clear hz YES NO
        go_wp2
        go_roundw
        case rel => exact ⟨k + 1, by omega, by go_num, S3.out.drop 0, ST.out⟩
        case measure => simp [intOf]; omega
      · have hz' : (z != (k : Int)) = true := by simp [hz]
        have HN := Lib.hid (NO.out hz)
        clear hz YES NO
        go_wp2
        go_ret
        exact ⟨ret_boo (by rw [← RES.out, HN.out]), S3.out.1⟩
    · have hge : ¬ (k : Int) < (p.acts.length : Int) := by omega
      have HY := Lib.hid (ownB_yes (fun j hj => hall j hj (by omega)))
      clear hall
      go_wp2
      go_ret
      exact ⟨ret_boo (by rw [← RES.out, HY.out]), S1.out.1⟩

theorem isStock_any (n : Int) (w : World) :
    Calls Tryz.prog 123 #[.int .i64 n] w fun e w' => e = .returned (.bool (inB n 0 100)) ∧ Below w.heap.size w w' := by
  by_cases h : 0 ≤ n
  all_goals
    go_enter Tryz.func123, Tryz.ntmps123
    go_wp2
    go_ret
    exact ⟨by simp [inB] <;> omega, Below.refl _ _⟩
theorem enters_isStock : ∀ args w, (callFunc 123 args).run Tryz.prog w = .ok (.enter 123 args) w := enters_of Tryz.func123 (by kernel_rfl) rfl
theorem isBelow_any (n k : Int) (w : World) :
    Calls Tryz.prog 89 #[.int .i64 n, .int .i64 k] w fun e w' => e = .returned (.bool (inB n 0 (k - 1))) ∧ w = w' := by
  by_cases h : 0 ≤ n
  · by_cases h2 : n < k
    all_goals
      go_enter Tryz.func89, Tryz.ntmps89
      go_wp2
      go_ret
      exact ⟨by simp [inB] <;> omega, rfl⟩
  · go_enter Tryz.func89, Tryz.ntmps89
    go_wp2
    go_ret
    exact ⟨by simp [inB] <;> omega, rfl⟩

set_option maxRecDepth 100000 in
set_option maxHeartbeats 1000000 in
theorem isLink_any (l : Lk) (n : Nat) (v : Value) (w : World) (hv : (trLk l).rd w v) :
    Calls Tryz.prog 117 #[v, .int .i64 (n : Int)] w fun e w' => e = .returned (.bool (lokB n l)) ∧ Below w.heap.size w w' := by
  obtain rfl := rdLink_t hv
  clear hv
  generalize hres : lokB n l = res
  have RES := Lib.hid hres
  clear hres
  have HB := Lib.hid ((Below.refl w.heap.size w).alloc (Nat.le_refl _) (.cells #[.int .i64 l.fr, .int .i64 l.to, .bool l.fe, .int .i64 l.lag] 93))
  go_enter Tryz.func117, Tryz.ntmps117
  go_wp2_with fail
  refine (isBelow_any _ _ _).mono ?_
  rintro e w1 ⟨rfl, rfl⟩
  rcases h1 : inB l.fr 0 ((n : Int) - 1) with _ | _
  · have H1 := Lib.hid h1
    clear h1
    go_wp2
    go_ret
    exact ⟨ret_boo (by rw [← RES.out, lokB, H1.out]; rfl), HB.out⟩
  have H1 := Lib.hid h1
  clear h1
  go_wp2_with fail
  refine (isBelow_any _ _ _).mono ?_
  rintro e w1 ⟨rfl, rfl⟩
  rcases h2 : inB l.to 0 ((n : Int) - 1) with _ | _
  · have H2 := Lib.hid h2
    clear h2
    go_wp2
    go_ret
    exact ⟨ret_boo (by rw [← RES.out, lokB, H1.out, H2.out]; rfl), HB.out⟩
  have H2 := Lib.hid h2
  clear h2
  by_cases h3 : l.fr = l.to
  · have h3' : (l.fr != l.to) = false := by simp [h3]
    have H3 := Lib.hid (decide_eq_true h3)
    clear h3
    go_wp2
    go_ret
    exact ⟨ret_boo (by rw [← RES.out, lokB, H1.out, H2.out, H3.out]; rfl), HB.out⟩
  have h3' : (l.fr != l.to) = true := by simp [h3]
  have H3 := Lib.hid (decide_eq_false h3)
  clear h3
  by_cases h4 : -60 ≤ l.lag
  · by_cases h5 : l.lag ≤ 60
    · have H4 := Lib.hid (inB_yes (n := l.lag) (lo := -60) (hi := 60) ⟨h4, h5⟩)
      go_wp2
      go_ret
      exact ⟨ret_boo (by rw [← RES.out, lokB, H1.out, H2.out, H3.out, H4.out]; rfl), HB.out⟩
    · have H4 := Lib.hid (inB_no (n := l.lag) (lo := -60) (hi := 60) (by omega))
      go_wp2
      go_ret
      exact ⟨ret_boo (by rw [← RES.out, lokB, H1.out, H2.out, H3.out, H4.out]; simp <;> omega), HB.out⟩
  · have H4 := Lib.hid (inB_no (n := l.lag) (lo := -60) (hi := 60) (by omega))
    go_wp2
    go_ret
    exact ⟨ret_boo (by rw [← RES.out, lokB, H1.out, H2.out, H3.out, H4.out]; rfl), HB.out⟩
end Go.Proofs.YtgbpomakomddjabGreatDoor
