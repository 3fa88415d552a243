/- DERIVED. CONTRACTS: FormatMode, of the model and of the program. -/
import Derived.Test.YtlcmnmobfhajdabGreatDoorModTxt
import Derived.Test.YtlcmnmobfhajdabGreatDoorActA
import Derived.Test.YtlcmnmobfhajdabGreatDoorFmts
import Derived.Test.YtlcmnmobfhajdabGreatDoorJoinI
import Derived.Test.YtlcmnmobfhajdabGreatDoorShp
namespace Go.Proofs.YtlcmnmobfhajdabGreatDoor
open Go.RowKit

theorem ret_str {a b : ByteArray} (h : a = b) : Ending.returned (.string a) = .returned (.string b) := by rw [h]
theorem wf_rangeM {n : Int} (hn : (Lit.int .i64 n).wf = true) : -9223372036854775808 ≤ n ∧ n ≤ 9223372036854775807 := by
  have h1 : IntKind.i64.min = -9223372036854775808 := rfl
  have h2 : IntKind.i64.max = 9223372036854775807 := rfl
  simp only [Lit.wf, Bool.and_eq_true, decide_eq_true_eq] at hn
  omega

theorem okI_inR {l : List Int} (h : ∀ x ∈ l, (Lit.int .i64 x).wf = true) : ∀ n ∈ l, -9223372036854775808 ≤ n ∧ n ≤ 9223372036854775807 := fun n hn => wf_rangeM (h n hn)
def inR (l : List Int) : Prop := ∀ n ∈ l, -9223372036854775808 ≤ n ∧ n ≤ 9223372036854775807
theorem emp {x : ByteArray} (h : x = ⟨#[]⟩) : x.toList.isEmpty = true := by subst h; rw [ByteArray.toList_eq]; rfl

set_option maxRecDepth 100000 in
set_option maxHeartbeats 2000000 in
theorem specFmtMode_any (m : Md) (v : Value) (w : World) (hv : (trM m).rd w v) (hlu : m.us.length ≤ 1048576) (hlc : m.co.length ≤ 1048576) (hu : inR m.us) (hc : inR m.co) :
    Calls Tryz.prog 22 #[v] w fun e w' => e = .returned (.string (fmtMd m.du m.us m.co)) ∧ Below w.heap.size w w' := by
  obtain ⟨U, cu, C, cc, rfl, r1, r2⟩ := rdM hv
  clear hv
  have S0 := Lib.hid ((Sn.start w).box 59 [.int .i64 m.du, .slice U m.us.length cu, .slice C m.co.length cc])
  have R1 := Lib.hid r1
  have R2 := Lib.hid r2
  clear r1 r2
  generalize hres : fmtMd m.du m.us m.co = res
  have RES := Lib.hid hres
  have HU := Lib.hid hu
  have HC := Lib.hid hc
  have hzu := fmts_size m.us
  have hzc := fmts_size m.co
  have hzd := fmtB_size m.du
  clear hres hu hc
  go_enter Tryz.func22, Tryz.ntmps22
  go_wp2_with fail
  refine (specFmts_any m.us _ _ (R1.out.below S0.out.1 (Nat.le_refl _)) hlu HU.out).mono ?_
  rintro e w1 ⟨rfl, b⟩
  have S1 := Lib.hid (S0.out.go b)
  clear S0 b
  obtain ⟨c0, c1, c2, cf⟩ := (S1.out.bk 0 rfl).c3
  go_wp2_with fail
  clear c0 c1 c2 cf
  refine (specFmts_any m.co _ _ (R2.out.below S1.out.1 (Nat.le_refl _)) hlc HC.out).mono ?_
  rintro e w2 ⟨rfl, b⟩
  have S2 := Lib.hid (S1.out.go b)
  clear S1 b
  obtain ⟨c0, c1, c2, cf⟩ := (S2.out.bk 0 rfl).c3
  go_wp2_with fail
  refine (inD_any _ _ _ _).mono ?_
  rintro e w3 ⟨rfl, hw⟩
  subst hw
  rcases h1 : inB m.du 1 12 with _ | _
  · have H1 := Lib.hid h1
    clear h1
    go_wp2
    go_ret
    exact ⟨ret_str (by rw [← RES.out, fmtMd_no (.inl H1.out)]), S2.out.1⟩
  have hb1 := inB_iff.1 h1
  have H1 := Lib.hid h1
  clear h1
  by_cases h2 : fmtsB m.us = ⟨#[]⟩
  · have H2 := Lib.hid h2
    have h2' := emp h2
    clear h2
    go_wp2
    go_ret
    exact ⟨ret_str (by rw [← RES.out, fmtMd_no (.inr (.inl H2.out))]), S2.out.1⟩
  have H2 := Lib.hid h2
  have h2' := str_some h2
  clear h2
  by_cases h3 : fmtsB m.co = ⟨#[]⟩
  · have H3 := Lib.hid h3
    have h3' := emp h3
    clear h3
    go_wp2
    go_ret
    exact ⟨ret_str (by rw [← RES.out, fmtMd_no (.inr (.inr H3.out))]), S2.out.1⟩
  have H3 := Lib.hid h3
  have h3' := str_some h3
  clear h3
  go_wp2_with fail
  refine (specFmt_any m.du _ (by omega) (by omega)).mono ?_
  rintro e w3 ⟨rfl, b⟩
  have S3 := Lib.hid (S2.out.go b)
  clear S2 b
  have hs1 : (fmtB m.du).size + 1 ≤ 9223372036854775807 := by omega
  have hs2 : (fmtB m.du).size + 1 + (fmtsB m.us).size ≤ 9223372036854775807 := by omega
  have hs3 : (fmtB m.du).size + 1 + (fmtsB m.us).size + 1 ≤ 9223372036854775807 := by omega
  have hs4 : (fmtB m.du).size + 1 + (fmtsB m.us).size + 1 + (fmtsB m.co).size ≤ 9223372036854775807 := by omega
  go_wp2
  go_ret
  exact ⟨ret_str (by rw [← RES.out, fmtMd_yes H1.out (by exact H2.out) (by exact H3.out), join3]; rfl), S3.out.1⟩

/-- What a walk carries through the calls of a drawn region: the box of a mode. -/
def MK (w0 : World) (g : Nat) (d u c : Value) (W : World) : Prop := Below w0.heap.size w0 W ∧ Bk W g 59 #[d, u, c]
theorem implFmtsK_any (w0 : World) (g : Nat) (d u c : Value) (xs : List Int) (v : Value) (W : World) (hK : MK w0 g d u c W) (hr : Rd w0 v (xs.map (.int .i64))) (hl : xs.length ≤ 1048576) (hx : inR xs) (ht : TB w0) :
    Calls Tryz.prog 79 #[v] W fun e w' => e = .returned (.string (fmtsB xs)) ∧ MK w0 g d u c w' ∧ w'.cell? ⟨g, 1, none⟩ = some u ∧ w'.cell? ⟨g, 2, none⟩ = some c :=
  (implFmts_any xs v W (hr.below hK.1 (Nat.le_refl _)) hl hx (ht.below hK.1 (Nat.le_refl _))).mono fun _ _ ⟨he, hb⟩ =>
    have hk := hK.2.below hb (Nat.le_refl _)
    ⟨he, ⟨hK.1.trans (hb.mono hK.1.size), hk⟩, hk.c3.2.1, hk.c3.2.2.1⟩

/-- joinAll of the three parts of a mode. -/
theorem joinThree_any (f0 f1 f2 : ByteArray) (T : TypeId) (W : World) (hs0 : f0.size ≤ 100) (hs1 : f1.size ≤ 10000000) (hs2 : f2.size ≤ 10000000) :
    Calls Tryz.prog 30 #[.string ⟨#[47]⟩, .slice (some ⟨W.heap.size, 0, none⟩) 3 3] (W.alloc (.cells #[.string f0, .string f1, .string f2] T)) fun e w' => e = .returned (.string (joinB [f0, f1, f2] slash)) ∧ Below W.heap.size W w' := by
  obtain ⟨hb0, hk, hs⟩ := boxes1 W T #[.string f0, .string f1, .string f2]
  obtain ⟨c0, c1, c2, _⟩ := hk.c3
  have hrd : Rd (W.alloc (.cells #[.string f0, .string f1, .string f2] T)) (.slice (some ⟨W.heap.size, 0, none⟩) 3 3) ([f0, f1, f2].map .string) := by
    refine ⟨by simp [maxLen], _, _, rfl, .inr ⟨W.heap.size, 0, rfl, by omega, fun j hj => ?_⟩⟩
    match j, hj with
    | 0, _ => simp [c0]
    | 1, _ => simp [c1]
    | 2, _ => simp [c2]
  refine (joinAll_any [f0, f1, f2] ⟨#[47]⟩ _ _ hrd (by simp [tot]; omega) (by simp) (by decide)).mono ?_
  rintro e w' ⟨rfl, hb2⟩
  exact ⟨rfl, hb0.trans (hb2.mono (by omega))⟩

set_option maxRecDepth 100000 in
set_option maxHeartbeats 4000000 in
theorem implFmtMode_any (m : Md) (v : Value) (w : World) (hv : (trM m).rd w v) (hlu : m.us.length ≤ 1048576) (hlc : m.co.length ≤ 1048576) (hu : inR m.us) (hc : inR m.co) (ht : TB w) :
    Calls Tryz.prog 81 #[v] w fun e w' => e = .returned (.string (fmtMd m.du m.us m.co)) ∧ Below w.heap.size w w' := by
  obtain ⟨U, cu, C, cc, rfl, r1, r2⟩ := rdM hv
  clear hv
  obtain ⟨hb0, hk0, hs0⟩ := boxes1 w 59 #[.int .i64 m.du, .slice U m.us.length cu, .slice C m.co.length cc]
  have R1 := Lib.hid (r1.below hb0 (Nat.le_refl _))
  have R2 := Lib.hid (r2.below hb0 (Nat.le_refl _))
  have T0 := Lib.hid (ht.below hb0 (Nat.le_refl _))
  clear r1 r2 ht
  generalize hres : fmtMd m.du m.us m.co = res
  have RES := Lib.hid hres
  have HU := Lib.hid hu
  have HC := Lib.hid hc
  have hzu := fmts_size m.us
  have hzc := fmts_size m.co
  have hzd := fmtB_size m.du
  clear hres hu hc
  go_enter Tryz.func81, Tryz.ntmps81
  go_wp2
  generalize w.alloc (.cells #[.int .i64 m.du, .slice U m.us.length cu, .slice C m.co.length cc] 59) = w0 at hb0 hk0 hs0 R1 R2 T0 ⊢
  obtain ⟨c0, c1, c2, cf⟩ := hk0.c3
  have hk : MK w0 w.heap.size (.int .i64 m.du) (.slice U m.us.length cu) (.slice C m.co.length cc) w0.drew := ⟨(Below.refl _ _).drew, hk0.below (Below.refl _ _).drew (Nat.le_refl _)⟩
  have HB0 := Lib.hid hb0
  clear hb0 hk0 hs0
  go_region_with (first
    | (go_at_call_of 79 (Value.slice U m.us.length cu); refine (implFmtsK_any w0 w.heap.size (.int .i64 m.du) (.slice U m.us.length cu) (.slice C m.co.length cc) m.us _ _ (by assumption) R1.out hlu HU.out T0.out).mono ?_; rintro e wk ⟨rfl, hk, ck1, ck2⟩)
    | (go_at_call_of 79 (Value.slice C m.co.length cc); refine (implFmtsK_any w0 w.heap.size (.int .i64 m.du) (.slice U m.us.length cu) (.slice C m.co.length cc) m.co _ _ (by assumption) R2.out hlc HC.out T0.out).mono ?_; rintro e wk ⟨rfl, hk, ck1, ck2⟩))
  all_goals
    have MKF := Lib.hid hk
    obtain ⟨e0, e1, e2, ef⟩ := hk.2.c3
    clear c0 c1 c2 cf ck1 ck2 hk
    go_wp2_with fail
    refine (isDur_any _ _).mono ?_
    rintro e w3 ⟨rfl, hw⟩
    subst hw
    rcases h1 : inB m.du 1 12 with _ | _
    · have H1 := Lib.hid h1
      clear h1
      go_wp2
      go_ret
      exact ⟨ret_str (by rw [← RES.out, fmtMd_no (.inl H1.out)]), HB0.out.trans (MKF.out.1.mono HB0.out.size)⟩
    have hb1 := inB_iff.1 h1
    have H1 := Lib.hid h1
    clear h1
    by_cases h2 : fmtsB m.us = ⟨#[]⟩
    · have H2 := Lib.hid h2
      have h2' := emp h2
      clear h2
      go_wp2
      go_ret
      exact ⟨ret_str (by rw [← RES.out, fmtMd_no (.inr (.inl H2.out))]), HB0.out.trans (MKF.out.1.mono HB0.out.size)⟩
    have H2 := Lib.hid h2
    have h2' := str_some h2
    clear h2
    by_cases h3 : fmtsB m.co = ⟨#[]⟩
    · have H3 := Lib.hid h3
      have h3' := emp h3
      clear h3
      go_wp2
      go_ret
      exact ⟨ret_str (by rw [← RES.out, fmtMd_no (.inr (.inr H3.out))]), HB0.out.trans (MKF.out.1.mono HB0.out.size)⟩
    have H3 := Lib.hid h3
    have h3' := str_some h3
    clear h3
    go_wp2_with fail
    refine (implFmt_any m.du _ (by omega) (by omega) (T0.out.below MKF.out.1 (Nat.le_refl _))).mono ?_
    rintro e w4 ⟨rfl, b⟩
    have B4 := Lib.hid (MKF.out.1.trans (b.mono MKF.out.1.size))
    clear b
    go_wp2_with fail
    refine (joinThree_any (fmtB m.du) (fmtsB m.us) (fmtsB m.co) _ w4 (by omega) (by omega) (by omega)).mono ?_
    rintro e w5 ⟨rfl, b⟩
    have B5 := Lib.hid (B4.out.trans (b.mono B4.out.size))
    clear b
    go_wp2
    go_ret
    exact ⟨ret_str (by rw [← RES.out, fmtMd_yes H1.out (by exact H2.out) (by exact H3.out)]), HB0.out.trans (B5.out.mono HB0.out.size)⟩
end Go.Proofs.YtlcmnmobfhajdabGreatDoor
