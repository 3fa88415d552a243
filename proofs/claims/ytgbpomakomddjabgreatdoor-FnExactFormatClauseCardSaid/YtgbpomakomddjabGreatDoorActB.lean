/- DERIVED. CONTRACTS: ActivityOk, of the model and of the program. -/
import Derived.Test.YtgbpomakomddjabGreatDoorActA
import Derived.Test.YtgbpomakomddjabGreatDoorName
import Derived.Test.YtgbpomakomddjabGreatDoorCore
namespace Go.Proofs.YtgbpomakomddjabGreatDoor
open Go.RowKit

/-- A valid activity. -/
def aokB (a : Ac) (r s : Int) : Bool := a.ms.all (fun m => mokB m r s) && (nmB a.nm && (inB a.fa 0 3 && inB (a.ms.length : Int) 1 3))
theorem all_no {ms : List Md} {f : Md → Bool} {k : Nat} (hk : k < ms.length) (h : f ms[k] = false) : ms.all f = false :=
  List.all_eq_false.2 ⟨ms[k], List.getElem_mem hk, by simp [h]⟩
theorem all_yes {ms : List Md} {f : Md → Bool} (h : ∀ j, (hj : j < ms.length) → f ms[j] = true) : ms.all f = true :=
  List.all_eq_true.2 fun x hx => by obtain ⟨j, hj, rfl⟩ := List.mem_iff_getElem.1 hx; exact h j hj
theorem step_md {ms : List Md} {k : Nat} {p : Md → Prop} (hlt : k < ms.length) (hall : ∀ j, (h : j < ms.length) → j < k → p ms[j]) (hp : p ms[k]) : ∀ j, (h : j < ms.length) → j < k + 1 → p ms[j] := fun j hj hjk => by
  by_cases e : j = k
  · subst e; exact hp
  · exact hall j hj (by omega)

set_option maxRecDepth 100000 in
set_option maxHeartbeats 1000000 in
theorem specActivityOk_any (a : Ac) (r s : Int) (v : Value) (w : World) (hs : a.nm.size ≤ maxLen) (hv : (trA a).rd w v) :
    Calls Tryz.prog 110 #[v, .int .i64 r, .int .i64 s] w fun e w' => e = .returned (.bool (aokB a r s)) ∧ Below w.heap.size w w' := by
  obtain ⟨A, c, rfl, hms⟩ := rdA hv
  obtain ⟨hla, A, c, he, ga⟩ := rdMs hms
  injection he with he _ he2
  subst he
  subst he2
  clear hms hv
  generalize hres : aokB a r s = res
  have RES := Lib.hid hres
  clear hres
  have GA := Lib.hid ga
  clear ga
  have HS := Lib.hid hs
  clear hs
  have K0 := Lib.hid (Bk.new w 89 #[.string a.nm, .int .i64 a.fa, .slice A a.ms.length c])
  go_enter Tryz.func110, Tryz.ntmps110
  go_wp2
  have hb0 : Below w.heap.size w (w.alloc (.cells #[.string a.nm, .int .i64 a.fa, .slice A a.ms.length c] 89)) := (Below.refl _ _).alloc (Nat.le_refl _) _
  have hsz0 : (w.alloc (.cells #[.string a.nm, .int .i64 a.fa, .slice A a.ms.length c] 89)).heap.size = w.heap.size + 1 := by simp
  generalize w.alloc (.cells #[.string a.nm, .int .i64 a.fa, .slice A a.ms.length c] 89) = w0 at hb0 hsz0 K0 ⊢
  have HB0 := Lib.hid hb0
  clear hb0
  go_loopw [12] (fun i wr => ∃ k : Nat, k ≤ a.ms.length ∧ i = .int .i64 k ∧ Below w0.heap.size w0 wr ∧ ∀ j, (hj : j < a.ms.length) → j < k → mokB a.ms[j] r s = true) (fun i _ => a.ms.length - (intOf i).toNat)
  case atStart => exact ⟨0, Nat.zero_le _, rfl, Below.refl _ _, fun j _ h => absurd h (by omega)⟩
  case round =>
    obtain ⟨k, hk, rfl, hbel, hall⟩ := hrel
    have HBB := Lib.hid (HB0.out.trans (hbel.mono HB0.out.size))
    by_cases hlt : k < a.ms.length
    · have hlt' : (k : Int) < (a.ms.length : Int) := by omega
      obtain ⟨b, o, rfl, hb, hc⟩ := GA.out k hlt
      obtain ⟨U, cu, C, cc, hc0, hc1, hc2, r1, r2⟩ := hc k hlt
      have hx0 := (HBB.out.cell (p := ⟨b, o + k * 3, none⟩) hb).trans hc0
      have hx1 := (HBB.out.cell (p := ⟨b, o + k * 3 + 1, none⟩) hb).trans hc1
      have hx2 := (HBB.out.cell (p := ⟨b, o + k * 3 + 2, none⟩) hb).trans hc2
      have HM := Lib.hid (mk_rdM (m := a.ms[k]) (r1.below HBB.out (Nat.le_refl _)) (r2.below HBB.out (Nat.le_refl _)))
      clear hc hc0 hc1 hc2 r1 r2
      have HB := Lib.hid hbel
      clear hbel
      rcases hok : mokB a.ms[k] r s with _ | _
      · have HN := Lib.hid (all_no (f := fun m => mokB m r s) hlt hok)
        have HOK := Lib.hid hok
        clear hok hall
        generalize a.ms[k] = m at hx0 hx1 hx2 HM HOK
        go_wp2_with fail
        refine (specModeOk_any m r s _ _ (Tr.rd_below ((Below.refl _ _).alloc (Nat.le_refl _) _) (Nat.le_refl _) _ _ HM.out)).mono ?_
        rintro e w1 ⟨rfl, hb1⟩
        rw [HOK.out]
        have HE := Lib.hid (HBB.out.trans ((((Below.refl _ _).alloc (Nat.le_refl _) _).trans (hb1.mono (by simp))).mono HBB.out.size))
        clear hb1
        go_wp2
        go_ret
        exact ⟨ret_boo (by rw [← RES.out, aokB, HN.out]; rfl), HE.out⟩
      · have STEP := Lib.hid (step_md (p := fun m => mokB m r s = true) hlt hall hok)
        have HOK := Lib.hid hok
        clear hok hall
        generalize a.ms[k] = m at hx0 hx1 hx2 HM HOK
        go_wp2_with fail
        refine (specModeOk_any m r s _ _ (Tr.rd_below ((Below.refl _ _).alloc (Nat.le_refl _) _) (Nat.le_refl _) _ _ HM.out)).mono ?_
        rintro e w1 ⟨rfl, hb1⟩
        rw [HOK.out]
        have HE := Lib.hid (HB.out.trans ((((Below.refl _ _).alloc (Nat.le_refl _) _).trans (hb1.mono (by simp))).mono HB.out.size))
        clear hb1
        go_wp2
        go_roundw
        case rel => exact ⟨k + 1, by omega, by go_num, HE.out, STEP.out⟩
        case measure => simp [intOf]; omega
    · have hge : ¬ (k : Int) < (a.ms.length : Int) := by omega
      have HY := Lib.hid (all_yes (f := fun m => mokB m r s) (fun j hj => hall j hj (by omega)))
      obtain ⟨k0, k1, k2, kf⟩ := (K0.out.below hbel (Nat.le_refl _)).c3
      clear hall hbel
      go_wp2_with fail
      refine (specIsName_any _ _ HS.out).mono ?_
      rintro e w1 ⟨rfl, hw⟩
      subst hw
      rcases h1 : nmB a.nm with _ | _
      · have H1 := Lib.hid h1
        clear h1
        go_wp2
        go_ret
        exact ⟨ret_boo (by rw [← RES.out, aokB, H1.out]; simp), HBB.out⟩
      · have H1 := Lib.hid h1
        clear h1
        go_wp2_with fail
        refine (inD_any _ _ _ _).mono ?_
        rintro e w1 ⟨rfl, hw⟩
        subst hw
        rcases h2 : inB a.fa 0 3 with _ | _
        · have H2 := Lib.hid h2
          clear h2
          go_wp2
          go_ret
          exact ⟨ret_boo (by rw [← RES.out, aokB, H2.out]; simp), HBB.out⟩
        · have H2 := Lib.hid h2
          clear h2
          go_wp2_with fail
          refine (inD_any _ _ _ _).mono ?_
          rintro e w1 ⟨rfl, hw⟩
          subst hw
          go_wp2
          go_ret
          exact ⟨ret_boo (by rw [← RES.out, aokB, HY.out, H1.out, H2.out]; simp), HBB.out⟩

set_option maxRecDepth 100000 in
theorem taskOf_any (a : Ac) (v : Value) (w : World) (hv : (trA a).rd w v) :
    Calls Tryz.prog 139 #[v] w fun e w' => e = .returned v ∧ Below w.heap.size w w' := by
  obtain ⟨A, c, rfl, _⟩ := rdA hv
  clear hv
  go_enter Tryz.func139, Tryz.ntmps139
  go_wp2
  refine bodyPost_ret (v := .agg #[.string a.nm, .int .i64 a.fa, .slice A a.ms.length c]) (by simp [results, Tryz.results139, go_sem]) rfl ⟨rfl, ?_⟩
  repeat (first | exact Below.refl _ _ | refine Below.setCell ?_ (by simp) _ | refine Below.alloc ?_ (by first | (simp; done) | (simp; omega)) _)

set_option maxRecDepth 100000 in
set_option maxHeartbeats 1000000 in
theorem areOk_any (ms : List Md) (r s : Int) (v : Value) (w : World) (hv : (trMs ms).rd w v) :
    Calls Tryz.prog 141 #[v, .int .i64 r, .int .i64 s] w fun e w' => e = .returned (.bool (inB (ms.length : Int) 1 3 && ms.all (fun m => mokB m r s))) ∧ Below w.heap.size w w' := by
  obtain ⟨hla, A, c, rfl, ga⟩ := rdMs hv
  clear hv
  generalize hres : (inB (ms.length : Int) 1 3 && ms.all (fun m => mokB m r s)) = res
  have RES := Lib.hid hres
  clear hres
  have GA := Lib.hid ga
  clear ga
  by_cases h1 : (ms.length : Int) < 1
  · go_enter Tryz.func141, Tryz.ntmps141
    go_wp2
    go_ret
    exact ⟨ret_boo (by rw [← RES.out]; simp [inB]; omega), Below.refl _ _⟩
  by_cases h3 : (3 : Int) < (ms.length : Int)
  · go_enter Tryz.func141, Tryz.ntmps141
    go_wp2
    go_ret
    exact ⟨ret_boo (by rw [← RES.out]; simp [inB]; omega), Below.refl _ _⟩
  have HIN := Lib.hid (show inB (ms.length : Int) 1 3 = true from inB_yes (by omega))
  go_enter Tryz.func141, Tryz.ntmps141
  go_wp2
  go_loopw [19] (fun i wr => ∃ k : Nat, k ≤ ms.length ∧ i = .int .i64 k ∧ Below w.heap.size w wr ∧ ∀ j, (hj : j < ms.length) → j < k → mokB ms[j] r s = true) (fun i _ => ms.length - (intOf i).toNat)
  case atStart => exact ⟨0, Nat.zero_le _, rfl, Below.refl _ _, fun j _ h => absurd h (by omega)⟩
  case round =>
    obtain ⟨k, hk, rfl, hbel, hall⟩ := hrel
    by_cases hlt : k < ms.length
    · have hlt' : (k : Int) < (ms.length : Int) := by omega
      obtain ⟨b, o, rfl, hb, hc⟩ := GA.out k hlt
      obtain ⟨U, cu, C, cc, hc0, hc1, hc2, r1, r2⟩ := hc k hlt
      have hx0 := (hbel.cell (p := ⟨b, o + k * 3, none⟩) hb).trans hc0
      have hx1 := (hbel.cell (p := ⟨b, o + k * 3 + 1, none⟩) hb).trans hc1
      have hx2 := (hbel.cell (p := ⟨b, o + k * 3 + 2, none⟩) hb).trans hc2
      have HM := Lib.hid (mk_rdM (m := ms[k]) (r1.below hbel (Nat.le_refl _)) (r2.below hbel (Nat.le_refl _)))
      clear hc hc0 hc1 hc2 r1 r2
      have HB := Lib.hid hbel
      clear hbel
      rcases hok : mokB ms[k] r s with _ | _
      · have HN := Lib.hid (all_no (f := fun m => mokB m r s) hlt hok)
        have HOK := Lib.hid hok
        clear hok hall
        generalize ms[k] = m at hx0 hx1 hx2 HM HOK
        go_wp2_with fail
        refine (implModeOk_any m r s _ _ (Tr.rd_below ((Below.refl _ _).alloc (Nat.le_refl _) _) (Nat.le_refl _) _ _ HM.out)).mono ?_
        rintro e w1 ⟨rfl, hb1⟩
        rw [HOK.out]
        have HE := Lib.hid (HB.out.trans ((((Below.refl _ _).alloc (Nat.le_refl _) _).trans (hb1.mono (by simp))).mono HB.out.size))
        clear hb1
        go_wp2
        go_ret
        exact ⟨ret_boo (by rw [← RES.out, HN.out]; simp), HE.out⟩
      · have STEP := Lib.hid (step_md (p := fun m => mokB m r s = true) hlt hall hok)
        have HOK := Lib.hid hok
        clear hok hall
        generalize ms[k] = m at hx0 hx1 hx2 HM HOK
        go_wp2_with fail
        refine (implModeOk_any m r s _ _ (Tr.rd_below ((Below.refl _ _).alloc (Nat.le_refl _) _) (Nat.le_refl _) _ _ HM.out)).mono ?_
        rintro e w1 ⟨rfl, hb1⟩
        rw [HOK.out]
        have HE := Lib.hid (HB.out.trans ((((Below.refl _ _).alloc (Nat.le_refl _) _).trans (hb1.mono (by simp))).mono HB.out.size))
        clear hb1
        go_wp2
        go_roundw
        case rel => exact ⟨k + 1, by omega, by go_num, HE.out, STEP.out⟩
        case measure => simp [intOf]; omega
    · have hge : ¬ (k : Int) < (ms.length : Int) := by omega
      have HY := Lib.hid (all_yes (f := fun m => mokB m r s) (fun j hj => hall j hj (by omega)))
      have HB := Lib.hid hbel
      clear hall hbel
      go_wp2
      go_ret
      exact ⟨ret_boo (by rw [← RES.out, HY.out, HIN.out]; rfl), HB.out⟩

set_option maxRecDepth 100000 in
set_option maxHeartbeats 1000000 in
theorem implActivityOk_any (a : Ac) (r s : Int) (v : Value) (w : World) (hs : a.nm.size ≤ maxLen) (hv : (trA a).rd w v) :
    Calls Tryz.prog 115 #[v, .int .i64 r, .int .i64 s] w fun e w' => e = .returned (.bool (aokB a r s)) ∧ Below w.heap.size w w' := by
  have HV := Lib.hid hv
  obtain ⟨A, c, rfl, hms⟩ := rdA hv
  clear hv
  generalize hres : aokB a r s = res
  have RES := Lib.hid hres
  clear hres
  have HMS := Lib.hid hms
  clear hms
  have HS := Lib.hid hs
  clear hs
  have S0 := Lib.hid ((Sn.start w).box 89 [.string a.nm, .int .i64 a.fa, .slice A a.ms.length c])
  go_enter Tryz.func115, Tryz.ntmps115
  go_wp2_with fail
  refine (taskOf_any a _ _ (by exact S0.out.old HV.out)).mono ?_
  rintro e w1 ⟨rfl, b⟩
  have S1 := Lib.hid ((S0.out.go b).box 180 [.string a.nm, .int .i64 a.fa, .slice A a.ms.length c])
  clear S0 b
  go_wp2_with fail
  refine (implIsName_any _ _ HS.out).mono ?_
  rintro e w2 ⟨rfl, b⟩
  have S2 := Lib.hid (S1.out.go b)
  clear S1 b
  obtain ⟨c0, c1, c2, cf⟩ := (S2.out.bk 0 rfl).c3
  rcases h1 : nmB a.nm with _ | _
  · have H1 := Lib.hid h1
    clear h1
    go_wp2
    go_ret
    exact ⟨ret_boo (by rw [← RES.out, aokB, H1.out]; simp), S2.out.1⟩
  have H1 := Lib.hid h1
  clear h1
  by_cases h2 : (0 : Int) ≤ a.fa
  · by_cases h3 : a.fa ≤ 3
    · go_wp2_with fail
      refine (areOk_any a.ms r s _ _ (by exact S2.out.old HMS.out)).mono ?_
      rintro e w3 ⟨rfl, b⟩
      have S3 := Lib.hid (S2.out.go b)
      clear S2 b
      go_wp2
      go_ret
      exact ⟨ret_boo (by rw [← RES.out, aokB, H1.out, inB_yes ⟨h2, h3⟩]; simp [Bool.and_comm]), S3.out.1⟩
    · go_wp2
      go_ret
      exact ⟨ret_boo (by rw [← RES.out, aokB, inB_no (lo := 0) (hi := 3) (by omega)]; simp), S2.out.1⟩
  · go_wp2
    go_ret
    exact ⟨ret_boo (by rw [← RES.out, aokB, inB_no (lo := 0) (hi := 3) (by omega)]; simp), S2.out.1⟩
end Go.Proofs.YtgbpomakomddjabGreatDoor
