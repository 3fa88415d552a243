/- DERIVED. CONTRACTS: elementAt over resources and activities; IsMachine, SetupTime, ProjectStats, of the model and of the program. -/
import Derived.Test.YtgbpomakomddjabGreatDoorPrB
import Derived.Deep.QuietTactic

section
namespace Go.Proofs.YtgbpomakomddjabGreatDoor
open Go.RowKit Go.Shelf
set_option linter.unusedVariables false

/-- The ands of the program in the order of the model. -/
theorem pok_false_0 {a b c d e f g h i : Bool}  (h0 : (a && e) = false) : false = (a && (b && (c && (d && (e && (f && (g && (h && i)))))))) := by
  cases a <;> cases b <;> cases c <;> cases d <;> cases e <;> cases f <;> cases g <;> cases h <;> cases i <;> simp_all
theorem pok_false_1 {a b c d e f g h i : Bool} (h0 : (a && e) = true) (h1 : (f) = false) : false = (a && (b && (c && (d && (e && (f && (g && (h && i)))))))) := by
  cases a <;> cases b <;> cases c <;> cases d <;> cases e <;> cases f <;> cases g <;> cases h <;> cases i <;> simp_all
theorem pok_false_2 {a b c d e f g h i : Bool} (h0 : (a && e) = true) (h1 : (f) = true) (h2 : (b && g) = false) : false = (a && (b && (c && (d && (e && (f && (g && (h && i)))))))) := by
  cases a <;> cases b <;> cases c <;> cases d <;> cases e <;> cases f <;> cases g <;> cases h <;> cases i <;> simp_all
theorem pok_false_3 {a b c d e f g h i : Bool} (h0 : (a && e) = true) (h1 : (f) = true) (h2 : (b && g) = true) (h3 : (c && h) = false) : false = (a && (b && (c && (d && (e && (f && (g && (h && i)))))))) := by
  cases a <;> cases b <;> cases c <;> cases d <;> cases e <;> cases f <;> cases g <;> cases h <;> cases i <;> simp_all
theorem pok_false_4 {a b c d e f g h i : Bool} (h0 : (a && e) = true) (h1 : (f) = true) (h2 : (b && g) = true) (h3 : (c && h) = true) (h4 : (d && i) = false) : false = (a && (b && (c && (d && (e && (f && (g && (h && i)))))))) := by
  cases a <;> cases b <;> cases c <;> cases d <;> cases e <;> cases f <;> cases g <;> cases h <;> cases i <;> simp_all
theorem pok_true {a b c d e f g h i : Bool} (h0 : (a && e) = true) (h1 : (f) = true) (h2 : (b && g) = true) (h3 : (c && h) = true) (h4 : (d && i) = true) : true = (a && (b && (c && (d && (e && (f && (g && (h && i)))))))) := by
  cases a <;> cases b <;> cases c <;> cases d <;> cases e <;> cases f <;> cases g <;> cases h <;> cases i <;> simp_all

set_option maxRecDepth 100000 in
theorem cloOk1_any (a : Ac) (dl : Int) (A1 A2 A3 A4 : Option Addr) (n1 c1 n2 c2 n3 c3 n4 c4 : Nat) (g : Nat) (T : TypeId) (v : Value) (w : World) (hv : (trA a).rd w v) (hk : a.nm.size ≤ maxLen) (hg : Bk w g T #[.int .i64 dl, .slice A1 n1 c1, .slice A2 n2 c2, .slice A3 n3 c3, .slice A4 n4 c4]) :
    Calls Tryz.prog 114 #[v, .pointer (some ⟨g, 0, none⟩)] w fun e w' => e = .returned (.bool (aokB a n3 n4)) ∧ Below w.heap.size w w' := by
  have HV := Lib.hid hv
  have HK := Lib.hid hk
  obtain ⟨A, c, rfl, _⟩ := rdActivity_t hv
  clear hv hk
  obtain ⟨e0, e1, e2, e3, e4, ef⟩ := hg.c5
  have hlt := hg.lt
  have S1 := Lib.hid ((Sn.start w).box 89 [.string a.nm, .int .i64 a.fa, .slice A a.ms.length c])
  clear hg
  generalize hres : aokB a n3 n4 = res
  have RES := Lib.hid hres
  clear hres
  go_enter Tryz.func114, Tryz.ntmps114
  go_wp2_with fail
  refine (implActivityOk_any a _ _ _ _ HK.out (by exact S1.out.old HV.out)).mono ?_
  rintro e w1 ⟨rfl, b⟩
  have S2 := Lib.hid (S1.out.go b)
  clear S1 b e0 e1 e2 e3 e4 ef
  go_wp2
  go_ret
  exact ⟨ret_boo RES.out, S2.out.1⟩
theorem enters_cloOk1 : ∀ args w, (callFunc 114 args).run Tryz.prog w = .ok (.enter 114 args) w := enters_of Tryz.func114 (by kernel_rfl) rfl
theorem tests_cloOk1 (dl : Int) (A1 A2 A3 A4 : Option Addr) (n1 c1 n2 c2 n3 c3 n4 c4 : Nat) (g : Nat) (T : TypeId) (W : World) (hg : Bk W g T #[.int .i64 dl, .slice A1 n1 c1, .slice A2 n2 c2, .slice A3 n3 c3, .slice A4 n4 c4]) :
    Tests trA 114 #[.pointer (some ⟨g, 0, none⟩)] W (fun a => aokB a n3 n4) := fun a v w hb hk hr =>
  cloOk1_any a dl A1 A2 A3 A4 n1 c1 n2 c2 n3 c3 n4 c4 g T v w hr hk.1 (hg.below hb (Nat.le_refl _))

set_option maxRecDepth 100000 in
theorem cloOk2_any (l : Lk) (dl : Int) (A1 A2 A3 A4 : Option Addr) (n1 c1 n2 c2 n3 c3 n4 c4 : Nat) (g : Nat) (T : TypeId) (v : Value) (w : World) (hv : (trLk l).rd w v) (hk : True) (hg : Bk w g T #[.int .i64 dl, .slice A1 n1 c1, .slice A2 n2 c2, .slice A3 n3 c3, .slice A4 n4 c4]) :
    Calls Tryz.prog 116 #[v, .pointer (some ⟨g, 0, none⟩)] w fun e w' => e = .returned (.bool (lokB n1 l)) ∧ Below w.heap.size w w' := by
  have HV := Lib.hid hv
  have HK := Lib.hid hk
  obtain rfl := rdLink_t hv
  clear hv hk
  obtain ⟨e0, e1, e2, e3, e4, ef⟩ := hg.c5
  have hlt := hg.lt
  have S1 := Lib.hid ((Sn.start w).box 93 [.int .i64 l.fr, .int .i64 l.to, .bool l.fe, .int .i64 l.lag])
  clear hg
  generalize hres : lokB n1 l = res
  have RES := Lib.hid hres
  clear hres
  go_enter Tryz.func116, Tryz.ntmps116
  go_wp2_with fail
  refine (isLink_any l n1 _ _ (by exact S1.out.old HV.out)).mono ?_
  rintro e w1 ⟨rfl, b⟩
  have S2 := Lib.hid (S1.out.go b)
  clear S1 b e0 e1 e2 e3 e4 ef
  go_wp2
  go_ret
  exact ⟨ret_boo RES.out, S2.out.1⟩
theorem enters_cloOk2 : ∀ args w, (callFunc 116 args).run Tryz.prog w = .ok (.enter 116 args) w := enters_of Tryz.func116 (by kernel_rfl) rfl
theorem tests_cloOk2 (dl : Int) (A1 A2 A3 A4 : Option Addr) (n1 c1 n2 c2 n3 c3 n4 c4 : Nat) (g : Nat) (T : TypeId) (W : World) (hg : Bk W g T #[.int .i64 dl, .slice A1 n1 c1, .slice A2 n2 c2, .slice A3 n3 c3, .slice A4 n4 c4]) :
    Tests trLk 116 #[.pointer (some ⟨g, 0, none⟩)] W (fun l => lokB n1 l) := fun l v w hb hk hr =>
  cloOk2_any l dl A1 A2 A3 A4 n1 c1 n2 c2 n3 c3 n4 c4 g T v w hr trivial (hg.below hb (Nat.le_refl _))

theorem enters_ResourceOk : ∀ args w, (callFunc 121 args).run Tryz.prog w = .ok (.enter 121 args) w := enters_of Tryz.func121 (by kernel_rfl) rfl

set_option maxRecDepth 100000 in
set_option maxHeartbeats 2000000 in
theorem implProjectOk_any (p : Pj) (v : Value) (w : World) (hv : (trPj p).rd w v) (hk : (trPj p).ok) :
    Calls Tryz.prog 88 #[v] w fun e w' => e = .returned (.bool (pokB p)) ∧ Below w.heap.size w w' := by
  have HV := Lib.hid hv
  have HK := Lib.hid hk
  obtain ⟨A1, c1, A2, c2, A3, c3, A4, c4, rfl, r1, r2, r3, r4⟩ := rdProject_t hv
  obtain ⟨_, k1, k2, k3, k4, _⟩ := hk
  have R1 := Lib.hid r1
  have R2 := Lib.hid r2
  have R3 := Lib.hid r3
  have R4 := Lib.hid r4
  have K1 := Lib.hid k1
  have K2 := Lib.hid k2
  have K3 := Lib.hid k3
  have K4 := Lib.hid k4
  clear hv r1 r2 r3 r4 k1 k2 k3 k4
  generalize hres : pokB p = res
  have RES := Lib.hid hres
  clear hres
  have S0 := Lib.hid ((Sn.start w).box 36 [.int .i64 p.dl, .slice A1 p.acts.length c1, .slice A2 p.lks.length c2, .slice A3 p.ress.length c3, .slice A4 p.stk.length c4])
  by_cases h1 : p.dl < 1
  · have H1 := Lib.hid (inB_no (n := p.dl) (lo := 1) (hi := 60) (by omega))
    go_enter Tryz.func88, Tryz.ntmps88
    go_wp2
    go_ret
    exact ⟨ret_boo (by rw [← RES.out, pokB, H1.out]; rfl), S0.out.1⟩
  by_cases h2 : 60 < p.dl
  · have H1 := Lib.hid (inB_no (n := p.dl) (lo := 1) (hi := 60) (by omega))
    go_enter Tryz.func88, Tryz.ntmps88
    go_wp2
    go_ret
    exact ⟨ret_boo (by rw [← RES.out, pokB, H1.out]; rfl), S0.out.1⟩
  have H1 := Lib.hid (inB_yes (n := p.dl) (lo := 1) (hi := 60) (by omega))
  by_cases h3 : (p.acts.length : Int) < 1
  · have H2 := Lib.hid (inB_no (n := (p.acts.length : Int)) (lo := 1) (hi := 6) (by omega))
    go_enter Tryz.func88, Tryz.ntmps88
    go_wp2
    go_ret
    exact ⟨ret_boo (by rw [← RES.out, pokB, H1.out, H2.out]; rfl), S0.out.1⟩
  have hpos : 1 ≤ (p.acts.length : Int) := by omega
  have HPOS := Lib.hid (show inB (p.acts.length : Int) 1 6 = decide ((p.acts.length : Int) ≤ 6) by simp [inB]; omega)
  have RS := Lib.hid (show res = (decide ((p.acts.length : Int) ≤ 6) && (decide ((p.ress.length : Int) ≤ 3) && (decide ((p.stk.length : Int) ≤ 2) && (decide ((p.lks.length : Int) ≤ 12) &&
    (p.acts.all (fun a => aokB a p.ress.length p.stk.length) && (ownB p.acts && (p.ress.all rokB && (p.stk.all (fun n => inB n 0 100) && p.lks.all (lokB p.acts.length))))))))) by rw [← RES.out, pokB, H1.out, HPOS.out]; rfl)
  clear HPOS hpos RES
  go_enter Tryz.func88, Tryz.ntmps88
  go_wp2_with fail
  refine (areUpToActivity_any 6 114 _ (fun a => aokB a p.ress.length p.stk.length) p.acts _ _ (by exact S0.out.old R1.out) K1.out enters_cloOk1 (by exact tests_cloOk1 _ _ _ _ _ _ _ _ _ _ _ _ _ _ _ _ (S0.out.bk 0 rfl))).mono ?_
  rintro e w1 ⟨rfl, b⟩
  have S1 := Lib.hid (S0.out.go b)
  clear S0 b
  rcases hb0 : (decide ((p.acts.length : Int) ≤ 6) && p.acts.all (fun a => aokB a p.ress.length p.stk.length)) with _ | _
  · have B0 := Lib.hid hb0
    clear hb0
    go_wp2
    go_ret
    exact ⟨ret_boo (by rw [RS.out]; exact pok_false_0 B0.out), S1.out.1⟩
  have B0 := Lib.hid hb0
  clear hb0
  obtain ⟨e0, e1, e2, e3, e4, ef⟩ := (S1.out.bk 0 rfl).c5
  have hbs := (S1.out.bk 0 rfl).lt
  go_wp2_with fail
  clear e0 e1 e2 e3 e4 ef hbs
  refine (haveOwnNames_any p _ _ (by exact S1.out.old HV.out) HK.out).mono ?_
  rintro e w2 ⟨rfl, b⟩
  have S2 := Lib.hid (S1.out.go b)
  clear S1 b
  rcases hb1 : (ownB p.acts) with _ | _
  · have B1 := Lib.hid hb1
    clear hb1
    go_wp2
    go_ret
    exact ⟨ret_boo (by rw [RS.out]; exact pok_false_1 B0.out B1.out), S2.out.1⟩
  have B1 := Lib.hid hb1
  clear hb1
  obtain ⟨e0, e1, e2, e3, e4, ef⟩ := (S2.out.bk 0 rfl).c5
  have hbs := (S2.out.bk 0 rfl).lt
  go_wp2_with fail
  clear e0 e1 e2 e3 e4 ef hbs
  refine (areUpToResource_any 3 121 #[] rokB p.ress _ _ (by exact S2.out.old R3.out) K3.out enters_ResourceOk (fun r v w _ hx hr => implResourceOk_any r v w hr hx)).mono ?_
  rintro e w3 ⟨rfl, b⟩
  have S3 := Lib.hid (S2.out.go b)
  clear S2 b
  rcases hb2 : (decide ((p.ress.length : Int) ≤ 3) && p.ress.all rokB) with _ | _
  · have B2 := Lib.hid hb2
    clear hb2
    go_wp2
    go_ret
    exact ⟨ret_boo (by rw [RS.out]; exact pok_false_2 B0.out B1.out B2.out), S3.out.1⟩
  have B2 := Lib.hid hb2
  clear hb2
  obtain ⟨e0, e1, e2, e3, e4, ef⟩ := (S3.out.bk 0 rfl).c5
  have hbs := (S3.out.bk 0 rfl).lt
  go_wp2_with fail
  clear e0 e1 e2 e3 e4 ef hbs
  refine (areUpToint_any 2 123 #[] (fun n => inB n 0 100) p.stk _ _ (by exact S3.out.old R4.out) K4.out enters_isStock (fun x v w _ _ hx => by obtain rfl : v = .int .i64 x := hx; exact isStock_any x w)).mono ?_
  rintro e w4 ⟨rfl, b⟩
  have S4 := Lib.hid (S3.out.go b)
  clear S3 b
  rcases hb3 : (decide ((p.stk.length : Int) ≤ 2) && p.stk.all (fun n => inB n 0 100)) with _ | _
  · have B3 := Lib.hid hb3
    clear hb3
    go_wp2
    go_ret
    exact ⟨ret_boo (by rw [RS.out]; exact pok_false_3 B0.out B1.out B2.out B3.out), S4.out.1⟩
  have B3 := Lib.hid hb3
  clear hb3
  obtain ⟨e0, e1, e2, e3, e4, ef⟩ := (S4.out.bk 0 rfl).c5
  have hbs := (S4.out.bk 0 rfl).lt
  go_wp2_with fail
  clear e0 e1 e2 e3 e4 ef hbs
  refine (areUpToLink_any 12 116 _ (lokB p.acts.length) p.lks _ _ (by exact S4.out.old R2.out) K2.out enters_cloOk2 (by exact tests_cloOk2 _ _ _ _ _ _ _ _ _ _ _ _ _ _ _ _ (S4.out.bk 0 rfl))).mono ?_
  rintro e w5 ⟨rfl, b⟩
  have S5 := Lib.hid (S4.out.go b)
  clear S4 b
  rcases hb4 : (decide ((p.lks.length : Int) ≤ 12) && p.lks.all (lokB p.acts.length)) with _ | _
  · have B4 := Lib.hid hb4
    clear hb4
    go_wp2
    go_ret
    exact ⟨ret_boo (by rw [RS.out]; exact pok_false_4 B0.out B1.out B2.out B3.out B4.out), S5.out.1⟩
  have B4 := Lib.hid hb4
  clear hb4
  go_wp2
  go_ret
  exact ⟨ret_boo (by rw [RS.out]; exact pok_true B0.out B1.out B2.out B3.out B4.out), S5.out.1⟩
end Go.Proofs.YtgbpomakomddjabGreatDoor
end

section
namespace Go.Proofs.YtgbpomakomddjabGreatDoor
open Go.RowKit Go.Shelf
set_option linter.unusedVariables false

set_option maxRecDepth 100000 in
set_option maxHeartbeats 4000000 in
theorem specProjectOk_any (p : Pj) (v : Value) (w : World) (hv : (trPj p).rd w v) (hk : (trPj p).ok) :
    Calls Tryz.prog 81 #[v] w fun e w' => e = .returned (.bool (pokB p)) ∧ Below w.heap.size w w' := by
  have HV := Lib.hid hv
  obtain ⟨A1, c1, A2, c2, A3, c3, A4, c4, rfl, r1, r2, r3, r4⟩ := rdProject_t hv
  have KA := Lib.hid (okL_flat (f := cellsA) (xs := p.acts) hk.2.1)
  obtain ⟨hl1, B1, d1, he, g1⟩ := rdActivityS_t r1
  injection he with he _ he2
  subst he he2
  obtain ⟨hl2, B2, d2, he, g2⟩ := rdLinkS_t r2
  injection he with he _ he2
  subst he he2
  obtain ⟨hl3, B3, d3, he, g3⟩ := rdResourceS_t r3
  injection he with he _ he2
  subst he he2
  obtain ⟨hl4, B4, d4, he, g4⟩ := rdI (rd_flat r4)
  injection he with he _ he2
  subst he he2
  have G1 := Lib.hid g1
  have G2 := Lib.hid g2
  have G3 := Lib.hid g3
  have G4 := Lib.hid g4
  unfold maxLen at hl4
  clear hv r1 r2 r3 r4 g1 g2 g3 g4 hk
  generalize hres : pokB p = res
  have RES := Lib.hid hres
  clear hres
  have S0 := Lib.hid ((Sn.start w).box 36 [.int .i64 p.dl, .slice A1 p.acts.length c1, .slice A2 p.lks.length c2, .slice A3 p.ress.length c3, .slice A4 p.stk.length c4])
  go_enter Tryz.func81, Tryz.ntmps81
  go_wp2_with fail
  refine (inD_any _ _ _ _).mono ?_
  rintro e w1 ⟨rfl, hw⟩
  subst hw
  rcases h1 : inB p.dl 1 60 with _ | _
  · have H1 := Lib.hid h1
    clear h1
    go_wp2
    go_ret
    exact ⟨ret_boo (by rw [← RES.out, pokB, H1.out]; rfl), S0.out.1⟩
  have H1 := Lib.hid h1
  clear h1
  go_wp2_with fail
  refine (inD_any _ _ _ _).mono ?_
  rintro e w1 ⟨rfl, hw⟩
  subst hw
  rcases h2 : inB (p.acts.length : Int) 1 6 with _ | _
  · have H2 := Lib.hid h2
    clear h2
    go_wp2
    go_ret
    exact ⟨ret_boo (by rw [← RES.out, pokB, H2.out]; simp), S0.out.1⟩
  have hn6 := (inB_iff.1 h2).2
  have H2 := Lib.hid h2
  clear h2
  by_cases h3 : (3 : Int) < (p.ress.length : Int)
  · have H3 := Lib.hid (decide_eq_false (show ¬ (p.ress.length : Int) ≤ 3 by omega))
    go_wp2
    go_ret
    exact ⟨ret_boo (by rw [← RES.out, pokB, H3.out]; simp), S0.out.1⟩
  have H3 := Lib.hid (decide_eq_true (show (p.ress.length : Int) ≤ 3 by omega))
  by_cases h4 : (2 : Int) < (p.stk.length : Int)
  · have H4 := Lib.hid (decide_eq_false (show ¬ (p.stk.length : Int) ≤ 2 by omega))
    go_wp2
    go_ret
    exact ⟨ret_boo (by rw [← RES.out, pokB, H4.out]; simp), S0.out.1⟩
  have H4 := Lib.hid (decide_eq_true (show (p.stk.length : Int) ≤ 2 by omega))
  by_cases h5 : (12 : Int) < (p.lks.length : Int)
  · have H5 := Lib.hid (decide_eq_false (show ¬ (p.lks.length : Int) ≤ 12 by omega))
    go_wp2
    go_ret
    exact ⟨ret_boo (by rw [← RES.out, pokB, H5.out]; simp), S0.out.1⟩
  have H5 := Lib.hid (decide_eq_true (show (p.lks.length : Int) ≤ 12 by omega))
  go_wp2
  go_loopw [45] (fun i wr => ∃ k : Nat, k ≤ p.acts.length ∧ i = .int .i64 k ∧ Sn w wr [boxI w.heap.size 36 [.int .i64 p.dl, .slice A1 p.acts.length c1, .slice A2 p.lks.length c2, .slice A3 p.ress.length c3, .slice A4 p.stk.length c4]] ∧ (∀ j, (hj : j < p.acts.length) → j < k → aokB p.acts[j] p.ress.length p.stk.length = true) ∧ ∀ j, (hj : j < p.acts.length) → j < k → plcB p.acts p.acts[j].nm = (j : Int)) (fun i _ => p.acts.length - (intOf i).toNat)
  case atStart => exact ⟨0, Nat.zero_le _, rfl, S0.out, fun j _ h => absurd h (by omega), fun j _ h => absurd h (by omega)⟩
  case round =>
    obtain ⟨k, hkl, rfl, hS, hall, hown⟩ := hrel
    have S1 := Lib.hid hS
    clear hS S0
    by_cases hlt : k < p.acts.length
    · have hlt' : (k : Int) < (p.acts.length : Int) := by omega
      obtain ⟨b, o, rfl, hb, hc⟩ := G1.out k hlt
      obtain ⟨U, cu, y0, y1, y2, ru⟩ := hc k hlt
      have hx0 := (S1.out.1.cell (p := ⟨b, o + k * 3, none⟩) hb).trans y0
      have hx1 := (S1.out.1.cell (p := ⟨b, o + k * 3 + 1, none⟩) hb).trans y1
      have hx2 := (S1.out.1.cell (p := ⟨b, o + k * 3 + 2, none⟩) hb).trans y2
      have RA := Lib.hid (mk_rdActivity_t (d := p.acts[k]) ru)
      have KK := Lib.hid (KA.out _ (List.getElem_mem hlt)).1
      clear hc y0 y1 y2 ru
      obtain ⟨e0, e1, e2, e3, e4, ef⟩ := (S1.out.bk 0 rfl).c5
      have hbs := (S1.out.bk 0 rfl).lt
      have NO := Lib.hid (fun h => ownB_no hlt h)
      have YES := Lib.hid (fun h => step_all' hlt hown h)
      have NA := Lib.hid (fun h => all_noG (f := fun a : Ac => aokB a p.ress.length p.stk.length) hlt h)
      have YA := Lib.hid (fun h => step_all (p := fun a : Ac => aokB a p.ress.length p.stk.length = true) hlt hall h)
      clear hall hown
      generalize p.acts[k] = m at hx0 hx1 hx2 NO YES NA YA RA KK
      go_wp2_with fail
      have S2 := Lib.hid (S1.out.box 89 [.string m.nm, .int .i64 m.fa, .slice U m.ms.length cu])
      clear e0 e1 e2 e3 e4 ef hbs
      refine (specActivityOk_any m _ _ _ _ KK.out (by exact S2.out.old RA.out)).mono ?_
      rintro e w1 ⟨rfl, b2⟩
      have S3 := Lib.hid (S2.out.go b2)
      clear S2 b2 S1
      rcases ha : aokB m p.ress.length p.stk.length with _ | _
      · have HN := Lib.hid (NA.out ha)
        clear ha
        go_wp2
        go_ret
        exact ⟨ret_boo (by rw [← RES.out, pokB, HN.out]; simp), S3.out.1⟩
      have HA := Lib.hid (YA.out ha)
      clear ha
      obtain ⟨e0, e1, e2, e3, e4, ef⟩ := (S3.out.bk 1 rfl).c5
      have hbs := (S3.out.bk 1 rfl).lt
      obtain ⟨f0, f1, f2, ff⟩ := (S3.out.bk 0 rfl).c3
      go_wp2_with fail
      clear e0 e1 e2 e3 e4 ef hbs f0 f1 f2 ff
      refine (specActivityIndex_any p m.nm _ _ (by exact S3.out.old HV.out)).mono ?_
      rintro e w2 ⟨rfl, b2⟩
      have S4 := Lib.hid (S3.out.go b2)
      clear S3 b2
      generalize plcB p.acts m.nm = z at NO YES
      by_cases hz : z = (k : Int)
      · have hz' : (z != (k : Int)) = false := by simp [hz]
        have ST := Lib.hid (YES.out hz)
        clear hz YES NO
        go_wp2
        go_roundw
        case rel => exact ⟨k + 1, by omega, by go_num, S4.out.drop 0, HA.out, ST.out⟩
        case measure => simp [intOf]; omega
      · have hz' : (z != (k : Int)) = true := by simp [hz]
        have HN := Lib.hid (NO.out hz)
        clear hz YES NO
        go_wp2
        go_ret
        exact ⟨ret_boo (by rw [← RES.out, pokB, HN.out]; simp), S4.out.1⟩
    · have hge : ¬ (k : Int) < (p.acts.length : Int) := by omega
      have HYA := Lib.hid (all_yesG (f := fun a : Ac => aokB a p.ress.length p.stk.length) (fun j hj => hall j hj (by omega)))
      have HYO := Lib.hid (ownB_yes (fun j hj => hown j hj (by omega)))
      clear hall hown
      obtain ⟨e0, e1, e2, e3, e4, ef⟩ := (S1.out.bk 0 rfl).c5
      go_wp2
      clear e0 e1 e2 e3 e4 ef
      go_loopw [71] (fun i wr => ∃ k : Nat, k ≤ p.ress.length ∧ i = .int .i64 k ∧ Sn w wr [boxI w.heap.size 36 [.int .i64 p.dl, .slice A1 p.acts.length c1, .slice A2 p.lks.length c2, .slice A3 p.ress.length c3, .slice A4 p.stk.length c4]] ∧ ∀ j, (hj : j < p.ress.length) → j < k → rokB p.ress[j] = true) (fun i _ => p.ress.length - (intOf i).toNat)
      case atStart => exact ⟨0, Nat.zero_le _, rfl, S1.out, fun j _ h => absurd h (by omega)⟩
      case round =>
        obtain ⟨k2, hkl2, rfl, hS, hall⟩ := hrel
        have S2 := Lib.hid hS
        clear hS S1
        by_cases hlt : k2 < p.ress.length
        · have hlt' : (k2 : Int) < (p.ress.length : Int) := by omega
          obtain ⟨b, o, rfl, hb, hc⟩ := G3.out k2 hlt
          obtain ⟨U, cu, T, ct, y0, y1, ru, rt⟩ := hc k2 hlt
          have hx0 := (S2.out.1.cell (p := ⟨b, o + k2 * 2, none⟩) hb).trans y0
          have hx1 := (S2.out.1.cell (p := ⟨b, o + k2 * 2 + 1, none⟩) hb).trans y1
          have RA := Lib.hid (mk_rdResource_t (d := p.ress[k2]) ru rt)
          clear hc y0 y1 ru rt
          have NA := Lib.hid (fun h => all_noG (f := rokB) hlt h)
          have YA := Lib.hid (fun h => step_all (p := fun a : Rs => rokB a = true) hlt hall h)
          clear hall
          generalize p.ress[k2] = m at hx0 hx1 NA YA RA
          go_wp2_with fail
          have S3 := Lib.hid (S2.out.box 98 [.slice U m.st.length cu, .slice T m.su.length ct])
          refine (specResourceOk_any m _ _ (by exact S3.out.old RA.out)).mono ?_
          rintro e w1 ⟨rfl, b2⟩
          have S4 := Lib.hid (S3.out.go b2)
          clear S3 b2 S2
          rcases ha : rokB m with _ | _
          · have HN := Lib.hid (NA.out ha)
            clear ha
            go_wp2
            go_ret
            exact ⟨ret_boo (by rw [← RES.out, pokB, HN.out]; simp), S4.out.1⟩
          · have HA := Lib.hid (YA.out ha)
            clear ha
            go_wp2
            go_roundw
            case rel => exact ⟨k2 + 1, by omega, by go_num, S4.out.drop 0, HA.out⟩
            case measure => simp [intOf]; omega
        · have hge2 : ¬ (k2 : Int) < (p.ress.length : Int) := by omega
          have HYR := Lib.hid (all_yesG (f := rokB) (fun j hj => hall j hj (by omega)))
          clear hall
          obtain ⟨e0, e1, e2, e3, e4, ef⟩ := (S2.out.bk 0 rfl).c5
          go_wp2
          clear e0 e1 e2 e3 e4 ef
          go_loopw [82] (fun i wr => ∃ k : Nat, k ≤ p.stk.length ∧ i = .int .i64 k ∧ Sn w wr [boxI w.heap.size 36 [.int .i64 p.dl, .slice A1 p.acts.length c1, .slice A2 p.lks.length c2, .slice A3 p.ress.length c3, .slice A4 p.stk.length c4]] ∧ ∀ j, (hj : j < p.stk.length) → j < k → inB p.stk[j] 0 100 = true) (fun i _ => p.stk.length - (intOf i).toNat)
          case atStart => exact ⟨0, Nat.zero_le _, rfl, S2.out, fun j _ h => absurd h (by omega)⟩
          case round =>
            obtain ⟨k3, hkl3, rfl, hS, hall⟩ := hrel
            have S3 := Lib.hid hS
            clear hS S2
            by_cases hlt : k3 < p.stk.length
            · have hlt' : (k3 : Int) < (p.stk.length : Int) := by omega
              obtain ⟨b, o, rfl, hb, hc⟩ := G4.out k3 hlt
              have hx0 := (S3.out.1.cell (p := ⟨b, o + k3, none⟩) hb).trans (hc k3 hlt)
              clear hc
              have NA := Lib.hid (fun h => all_noG (f := fun n => inB n 0 100) hlt h)
              have YA := Lib.hid (fun h => step_all (p := fun n => inB n 0 100 = true) hlt hall h)
              clear hall
              generalize p.stk[k3] = m at hx0 NA YA
              go_wp2_with fail
              refine (inD_any _ _ _ _).mono ?_
              rintro e w1 ⟨rfl, hw⟩
              subst hw
              rcases ha : inB m 0 100 with _ | _
              · have HN := Lib.hid (NA.out ha)
                clear ha
                go_wp2
                go_ret
                exact ⟨ret_boo (by rw [← RES.out, pokB, HN.out]; simp), S3.out.1⟩
              · have HA := Lib.hid (YA.out ha)
                clear ha
                go_wp2
                go_roundw
                case rel => exact ⟨k3 + 1, by omega, by go_num, S3.out, HA.out⟩
                case measure => simp [intOf]; omega
            · have hge3 : ¬ (k3 : Int) < (p.stk.length : Int) := by omega
              have HYS := Lib.hid (all_yesG (f := fun n => inB n 0 100) (fun j hj => hall j hj (by omega)))
              clear hall
              obtain ⟨e0, e1, e2, e3, e4, ef⟩ := (S3.out.bk 0 rfl).c5
              go_wp2
              clear e0 e1 e2 e3 e4 ef
              go_loopw [93] (fun i wr => ∃ k : Nat, k ≤ p.lks.length ∧ i = .int .i64 k ∧ Sn w wr [boxI w.heap.size 36 [.int .i64 p.dl, .slice A1 p.acts.length c1, .slice A2 p.lks.length c2, .slice A3 p.ress.length c3, .slice A4 p.stk.length c4]] ∧ ∀ j, (hj : j < p.lks.length) → j < k → lokB p.acts.length p.lks[j] = true) (fun i _ => p.lks.length - (intOf i).toNat)
              case atStart => exact ⟨0, Nat.zero_le _, rfl, S3.out, fun j _ h => absurd h (by omega)⟩
              case round =>
                obtain ⟨k4, hkl4, rfl, hS, hall⟩ := hrel
                have S4 := Lib.hid hS
                clear hS S3
                by_cases hlt : k4 < p.lks.length
                · have hlt' : (k4 : Int) < (p.lks.length : Int) := by omega
                  obtain ⟨b, o, rfl, hb, hc⟩ := G2.out k4 hlt
                  obtain ⟨y0, y1, y2, y3⟩ := hc k4 hlt
                  have hx0 := (S4.out.1.cell (p := ⟨b, o + k4 * 4, none⟩) hb).trans y0
                  have hx1 := (S4.out.1.cell (p := ⟨b, o + k4 * 4 + 1, none⟩) hb).trans y1
                  have hx2 := (S4.out.1.cell (p := ⟨b, o + k4 * 4 + 2, none⟩) hb).trans y2
                  have hx3 := (S4.out.1.cell (p := ⟨b, o + k4 * 4 + 3, none⟩) hb).trans y3
                  clear hc y0 y1 y2 y3
                  have NA := Lib.hid (fun h => all_noG (f := lokB p.acts.length) hlt h)
                  have YA := Lib.hid (fun h => step_all (p := fun l => lokB p.acts.length l = true) hlt hall h)
                  clear hall
                  generalize p.lks[k4] = m at hx0 hx1 hx2 hx3 NA YA
                  have HE := Lib.hid (S4.out.box 93 [.int .i64 m.fr, .int .i64 m.to, .bool m.fe, .int .i64 m.lag])
                  clear S4
                  go_wp2_with fail
                  refine (inD_any _ _ _ _).mono ?_
                  rintro e w1 ⟨rfl, hw⟩
                  subst hw
                  rcases ha : inB m.fr 0 ((p.acts.length : Int) - 1) with _ | _
                  · have HN := Lib.hid (NA.out (by rw [lokB, ha]; rfl))
                    clear ha
                    go_wp2
                    go_ret
                    exact ⟨ret_boo (by rw [← RES.out, pokB, HN.out]; simp), HE.out.1⟩
                  have HA := Lib.hid ha
                  clear ha
                  go_wp2_with fail
                  refine (inD_any _ _ _ _).mono ?_
                  rintro e w1 ⟨rfl, hw⟩
                  subst hw
                  rcases hb' : inB m.to 0 ((p.acts.length : Int) - 1) with _ | _
                  · have HN := Lib.hid (NA.out (by rw [lokB, hb']; simp))
                    clear hb'
                    go_wp2
                    go_ret
                    exact ⟨ret_boo (by rw [← RES.out, pokB, HN.out]; simp), HE.out.1⟩
                  have HB := Lib.hid hb'
                  clear hb'
                  by_cases hc : m.fr = m.to
                  · have hc' : (m.fr == m.to) = true := by simp [hc]
                    have HN := Lib.hid (NA.out (by rw [lokB, decide_eq_true hc]; simp))
                    clear hc
                    go_wp2
                    go_ret
                    exact ⟨ret_boo (by rw [← RES.out, pokB, HN.out]; simp), HE.out.1⟩
                  have hc' : (m.fr == m.to) = false := by simp [hc]
                  have HC := Lib.hid (decide_eq_false hc)
                  clear hc
                  go_wp2_with fail
                  refine (inD_any _ _ _ _).mono ?_
                  rintro e w1 ⟨rfl, hw⟩
                  subst hw
                  rcases hd : inB m.lag (-60) 60 with _ | _
                  · have HN := Lib.hid (NA.out (by rw [lokB, hd]; simp))
                    clear hd
                    go_wp2
                    go_ret
                    exact ⟨ret_boo (by rw [← RES.out, pokB, HN.out]; simp), HE.out.1⟩
                  · have HD := Lib.hid (YA.out (by rw [lokB, HA.out, HB.out, HC.out, hd]; rfl))
                    clear hd
                    go_wp2
                    go_roundw
                    case rel => exact ⟨k4 + 1, by omega, by go_num, HE.out.drop 0, HD.out⟩
                    case measure => simp [intOf]; omega
                · have hge4 : ¬ (k4 : Int) < (p.lks.length : Int) := by omega
                  have HYL := Lib.hid (all_yesG (f := lokB p.acts.length) (fun j hj => hall j hj (by omega)))
                  clear hall
                  go_wp2
                  go_ret
                  exact ⟨ret_boo (by rw [← RES.out, pokB, H1.out, H2.out, H3.out, H4.out, H5.out, HYA.out, HYO.out, HYR.out, HYS.out, HYL.out]; rfl), S4.out.1⟩
end Go.Proofs.YtgbpomakomddjabGreatDoor
end

section
namespace Go.Proofs.YtgbpomakomddjabGreatDoor
open Go.RowKit Go.Shelf
set_option linter.unusedVariables false

def atI {α : Type} (xs : List α) (i : Int) : Option α := if 0 ≤ i then xs[i.toNat]? else none
theorem atI_no {α : Type} {xs : List α} {i : Int} (h : ¬ (0 ≤ i ∧ i < (xs.length : Int))) : atI xs i = none := by
  unfold atI
  by_cases h0 : 0 ≤ i
  · rw [if_pos h0, List.getElem?_eq_none (by omega)]
  · rw [if_neg h0]
theorem atI_yes {α : Type} {xs : List α} {n : Nat} (h : n < xs.length) : atI xs (n : Int) = some xs[n] := by
  unfold atI
  rw [if_pos (by omega), Int.toNat_natCast, List.getElem?_eq_getElem h]
def machB (p : Pj) (r : Int) : Bool := match atI p.ress r with | some x => decide (0 < (x.su.length : Int)) | none => false
theorem machB_no {p : Pj} {r : Int} (h : ¬ (0 ≤ r ∧ r < (p.ress.length : Int))) : machB p r = false := by rw [machB, atI_no h]
theorem machB_yes {p : Pj} {n : Nat} (h : n < p.ress.length) : machB p (n : Int) = decide (0 < (p.ress[n].su.length : Int)) := by rw [machB, atI_yes h]

set_option maxRecDepth 100000 in
set_option maxHeartbeats 1000000 in
theorem elemActivity_no (xs : List Ac) (i : Int) (v : Value) (w : World) (hr : (trAs xs).rd w v) (h : ¬ (0 ≤ i ∧ i < (xs.length : Int))) :
    Calls Tryz.prog 87 #[v, .int .i64 i] w fun e w' => e = .returned (.tuple #[.agg #[.string ⟨#[]⟩, .int .i64 0, .slice none 0 0], .bool false]) ∧ Below w.heap.size w w' := by
  obtain ⟨hla, A, c, rfl, _⟩ := rdActivityS_t hr
  clear hr
  by_cases h0 : i < 0
  · clear h
    go_enter Tryz.func87, Tryz.ntmps87
    go_wp2
    refine bodyPost_ret (v := .tuple #[.agg #[.string ⟨#[]⟩, .int .i64 0, .slice none 0 0], .bool false]) (by simp [results, Tryz.results87, go_sem]) rfl ⟨rfl, ?_⟩
    repeat (first | exact Below.refl _ _ | refine Below.setCell ?_ (by simp) _ | refine Below.alloc ?_ (by first | (simp; done) | (simp; omega)) _)
  · have h1 : (xs.length : Int) ≤ i := by omega
    clear h
    go_enter Tryz.func87, Tryz.ntmps87
    go_wp2
    refine bodyPost_ret (v := .tuple #[.agg #[.string ⟨#[]⟩, .int .i64 0, .slice none 0 0], .bool false]) (by simp [results, Tryz.results87, go_sem]) rfl ⟨rfl, ?_⟩
    repeat (first | exact Below.refl _ _ | refine Below.setCell ?_ (by simp) _ | refine Below.alloc ?_ (by first | (simp; done) | (simp; omega)) _)

set_option maxRecDepth 100000 in
set_option maxHeartbeats 1000000 in
theorem elemActivity_yes (xs : List Ac) (n : Nat) (hn : n < xs.length) (v : Value) (w : World) (hr : (trAs xs).rd w v) :
    Calls Tryz.prog 87 #[v, .int .i64 (n : Int)] w fun e w' => ∃ A2 a2, e = .returned (.tuple #[.agg #[.string xs[n].nm, .int .i64 xs[n].fa, .slice A2 xs[n].ms.length a2], .bool true]) ∧ (trA xs[n]).rd w (.agg #[.string xs[n].nm, .int .i64 xs[n].fa, .slice A2 xs[n].ms.length a2]) ∧ Below w.heap.size w w' := by
  obtain ⟨hla, A, c, rfl, ga⟩ := rdActivityS_t hr
  clear hr
  obtain ⟨b, o, rfl, hb, hc⟩ := ga n hn
  obtain ⟨A2, a2, x0, x1, x2, r2⟩ := hc n hn
  have HM := Lib.hid (mk_rdActivity_t (d := xs[n]) r2)
  have h0 : (0 : Int) ≤ (n : Int) := by omega
  have h1 : (n : Int) < (xs.length : Int) := by omega
  clear ga hc r2
  refine Calls.mono ?_ (fun e w' (h : e = .returned (.tuple #[.agg #[.string xs[n].nm, .int .i64 xs[n].fa, .slice A2 xs[n].ms.length a2], .bool true]) ∧ Below w.heap.size w w') => ⟨A2, a2, h.1, HM.out, h.2⟩)
  generalize xs[n] = m at x0 x1 x2 ⊢
  clear HM
  go_enter Tryz.func87, Tryz.ntmps87
  go_wp2
  refine bodyPost_ret (v := .tuple #[.agg #[.string m.nm, .int .i64 m.fa, .slice A2 m.ms.length a2], .bool true]) (by simp [results, Tryz.results87, go_sem]) rfl ⟨rfl, ?_⟩
  repeat (first | exact Below.refl _ _ | refine Below.setCell ?_ (by simp) _ | refine Below.alloc ?_ (by first | (simp; done) | (simp; omega)) _)

/-- A slice of ints built at once. -/
theorem row1_new (w : World) (e : TypeId) (xs : List Int) (hx : xs.length ≤ maxLen) : (flat e (xs.map (.int .i64))).own (w.alloc (.cells ⟨xs.map (.int .i64)⟩ e)) w.heap.size (.slice (some ⟨w.heap.size, 0, none⟩) xs.length xs.length) [w.heap.size] ∧ Below w.heap.size w (w.alloc (.cells ⟨xs.map (.int .i64)⟩ e)) := by
  refine ⟨⟨xs.map (.int .i64), [], ⟨by simp, .inr ⟨w.heap.size, xs.length, ⟨xs.map (.int .i64)⟩, by simp, Nat.le_refl _, heap_alloc_new w _, by simp, hx, by simp, List.take_of_length_le (by simp)⟩⟩, ownL_ones.2 ⟨rfl, rfl⟩, by simp [Value.ownBlock]⟩, (Below.refl _ _).alloc (Nat.le_refl _) _⟩
def modesN (al : List Ac) : Nat := (al.map fun a => a.ms.length).sum
theorem modesN_take {al : List Ac} {k : Nat} (h : k < al.length) : modesN (al.take (k + 1)) = modesN (al.take k) + al[k].ms.length := by
  unfold modesN
  rw [List.take_succ_eq_append_getElem h, List.map_append, List.sum_append]
  simp
theorem modesN_le (al : List Ac) : ∀ {n : Nat}, (∀ a ∈ al, a.ms.length ≤ n) → modesN al ≤ al.length * n := by
  intro n h
  unfold modesN
  induction al with
  | nil => simp
  | cons a al ih =>
    have h1 := h a (by simp)
    have h2 := ih (fun x hx => h x (by simp [hx]))
    simp only [List.map_cons, List.sum_cons, List.length_cons, Nat.succ_mul]
    omega
noncomputable def statsB (p : Pj) : List Int := if pokB p = true then [(p.acts.length : Int), (modesN p.acts : Int), (p.lks.length : Int), (p.ress.length : Int), (p.stk.length : Int)] else []
theorem statsB_len (p : Pj) : (statsB p).length ≤ 5 := by unfold statsB; split <;> simp
theorem pok_acts {p : Pj} (h : pokB p = true) : p.acts.length ≤ 6 ∧ ∀ a ∈ p.acts, aokB a p.ress.length p.stk.length = true := by
  simp only [pokB, Bool.and_eq_true, List.all_eq_true] at h
  exact ⟨by have := (inB_iff.1 h.2.1).2; omega, h.2.2.2.2.2.1⟩
theorem aok_modes {a : Ac} {r s : Int} (h : aokB a r s = true) : a.ms.length ≤ 3 ∧ (∀ m ∈ a.ms, mokB m r s = true) ∧ inB a.fa 0 3 = true := by
  simp only [aokB, Bool.and_eq_true, List.all_eq_true] at h
  exact ⟨by have := (inB_iff.1 h.2.2.2).2; omega, h.1, h.2.2.1⟩
theorem mok_us {m : Md} {r s : Int} (h : mokB m r s = true) : (m.us.length : Int) = r ∧ ∀ x ∈ m.us, inB x 0 20 = true := by
  simp only [mokB, numsB, Bool.and_eq_true, List.all_eq_true, decide_eq_true_eq] at h
  exact ⟨h.2.1.2, h.2.1.1⟩

end Go.Proofs.YtgbpomakomddjabGreatDoor
end
