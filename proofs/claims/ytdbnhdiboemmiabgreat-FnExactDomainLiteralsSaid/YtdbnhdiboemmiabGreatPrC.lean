/- DERIVED. CONTRACT: ProjectOk of the program. -/
import Derived.Test.YtdbnhdiboemmiabGreatPrB
namespace Go.Proofs.YtdbnhdiboemmiabGreat
open Go.RowKit Go.Shelf
set_option linter.unusedVariables false

/-- The ands of the program in the order of the model. -/
theorem pok_false_0 {a b c d e f g h i : Bool}  (h0 : (a && e) = false) : false = (a && (b && (c && (d && (e && (f && (g && (h && i)))))))) := by
  cases a <;> cases b <;> cases c <;> cases d <;> cases e <;> cases f <;> cases g <;> cases h <;> cases i <;> simp_all
theorem pok_false_1 {a b c d e f g h i : Bool} (h0 : (a && e) = true) (h1 : (f) = false) : false = (a && (b && (c && (d && (e && (f && (g && (h && i)))))))) := by
  cases a <;> cases b <;> cases c <;> cases d <;> cases e <;> cases f <;> cases g <;> cases h <;> cases i <;> simp_all
theorem pok_false_2 {a b c d e f g h i : Bool} (h0 : (a && e) = true) (h1 : (f) = true) (h2 : (b && g) = false) : false = (a && (b && (c && (d && (e && (f && (g && (h && i)))))))) := by
  cases a <;> cases b <;> cases c <;> cases d <;> cases e <;> cases f <;> cases g <;> cases h <;> cases i <;> simp_all
theorem pok_false_3 {a b c d e f g h i : Bool} (h0 : (a && e) = true) (h1 : (f) = true) (h2 : (b && g) = true) (h3 : (c && h) = false) : false = (a && (b && (c && (d && (e && (f && (g && (h && i)))))))) := by
  cases a <;> cases b <;> cases c <;> cases d <;> cases e <;> cases f <;> cases g <;> cases h <;> cases i <;> simp_all
theorem pok_false_4 {a b c d e f g h i : Bool} (h0 : (a && e) = true) (h1 : (f) = true) (h2 : (b && g) = true) (h3 : (c && h) = true) (h4 : (d && i) = false) : false = (a && (b && (c && (d && (e && (f && (g && (h && i)))))))) := by
  cases a <;> cases b <;> cases c <;> cases d <;> cases e <;> cases f <;> cases g <;> cases h <;> cases i <;> simp_all
theorem pok_true {a b c d e f g h i : Bool} (h0 : (a && e) = true) (h1 : (f) = true) (h2 : (b && g) = true) (h3 : (c && h) = true) (h4 : (d && i) = true) : true = (a && (b && (c && (d && (e && (f && (g && (h && i)))))))) := by
  cases a <;> cases b <;> cases c <;> cases d <;> cases e <;> cases f <;> cases g <;> cases h <;> cases i <;> simp_all

set_option maxRecDepth 100000 in
theorem cloOk1_any (a : Ac) (dl : Int) (A1 A2 A3 A4 : Option Addr) (n1 c1 n2 c2 n3 c3 n4 c4 : Nat) (g : Nat) (T : TypeId) (v : Value) (w : World) (hv : (trA a).rd w v) (hk : a.nm.size ≤ maxLen) (hg : Bk w g T #[.int .i64 dl, .slice A1 n1 c1, .slice A2 n2 c2, .slice A3 n3 c3, .slice A4 n4 c4]) :
    Calls Tryz.prog 77 #[v, .pointer (some ⟨g, 0, none⟩)] w fun e w' => e = .returned (.bool (aokB a n3 n4)) ∧ Below w.heap.size w w' := by
  have HV := Lib.hid hv
  have HK := Lib.hid hk
  obtain ⟨A, c, rfl, _⟩ := rdActivity_t hv
  clear hv hk
  obtain ⟨e0, e1, e2, e3, e4, ef⟩ := hg.c5
  have hlt := hg.lt
  have S1 := Lib.hid ((Sn.start w).box 58 [.string a.nm, .int .i64 a.fa, .slice A a.ms.length c])
  clear hg
  generalize hres : aokB a n3 n4 = res
  have RES := Lib.hid hres
  clear hres
  go_enter Tryz.func77, Tryz.ntmps77
  go_wp2_with fail
  refine (implActivityOk_any a _ _ _ _ HK.out (by exact S1.out.old HV.out)).mono ?_
  rintro e w1 ⟨rfl, b⟩
  have S2 := Lib.hid (S1.out.go b)
  clear S1 b e0 e1 e2 e3 e4 ef
  go_wp2
  go_ret
  exact ⟨ret_boo RES.out, S2.out.1⟩
theorem enters_cloOk1 : ∀ args w, (callFunc 77 args).run Tryz.prog w = .ok (.enter 77 args) w := enters_of Tryz.func77 (by kernel_rfl) rfl
theorem tests_cloOk1 (dl : Int) (A1 A2 A3 A4 : Option Addr) (n1 c1 n2 c2 n3 c3 n4 c4 : Nat) (g : Nat) (T : TypeId) (W : World) (hg : Bk W g T #[.int .i64 dl, .slice A1 n1 c1, .slice A2 n2 c2, .slice A3 n3 c3, .slice A4 n4 c4]) :
    Tests trA 77 #[.pointer (some ⟨g, 0, none⟩)] W (fun a => aokB a n3 n4) := fun a v w hb hk hr =>
  cloOk1_any a dl A1 A2 A3 A4 n1 c1 n2 c2 n3 c3 n4 c4 g T v w hr hk.1 (hg.below hb (Nat.le_refl _))

set_option maxRecDepth 100000 in
theorem cloOk2_any (l : Lk) (dl : Int) (A1 A2 A3 A4 : Option Addr) (n1 c1 n2 c2 n3 c3 n4 c4 : Nat) (g : Nat) (T : TypeId) (v : Value) (w : World) (hv : (trLk l).rd w v) (hk : True) (hg : Bk w g T #[.int .i64 dl, .slice A1 n1 c1, .slice A2 n2 c2, .slice A3 n3 c3, .slice A4 n4 c4]) :
    Calls Tryz.prog 79 #[v, .pointer (some ⟨g, 0, none⟩)] w fun e w' => e = .returned (.bool (lokB n1 l)) ∧ Below w.heap.size w w' := by
  have HV := Lib.hid hv
  have HK := Lib.hid hk
  obtain rfl := rdLink_t hv
  clear hv hk
  obtain ⟨e0, e1, e2, e3, e4, ef⟩ := hg.c5
  have hlt := hg.lt
  have S1 := Lib.hid ((Sn.start w).box 92 [.int .i64 l.fr, .int .i64 l.to, .bool l.fe, .int .i64 l.lag])
  clear hg
  generalize hres : lokB n1 l = res
  have RES := Lib.hid hres
  clear hres
  go_enter Tryz.func79, Tryz.ntmps79
  go_wp2_with fail
  refine (isLink_any l n1 _ _ (by exact S1.out.old HV.out)).mono ?_
  rintro e w1 ⟨rfl, b⟩
  have S2 := Lib.hid (S1.out.go b)
  clear S1 b e0 e1 e2 e3 e4 ef
  go_wp2
  go_ret
  exact ⟨ret_boo RES.out, S2.out.1⟩
theorem enters_cloOk2 : ∀ args w, (callFunc 79 args).run Tryz.prog w = .ok (.enter 79 args) w := enters_of Tryz.func79 (by kernel_rfl) rfl
theorem tests_cloOk2 (dl : Int) (A1 A2 A3 A4 : Option Addr) (n1 c1 n2 c2 n3 c3 n4 c4 : Nat) (g : Nat) (T : TypeId) (W : World) (hg : Bk W g T #[.int .i64 dl, .slice A1 n1 c1, .slice A2 n2 c2, .slice A3 n3 c3, .slice A4 n4 c4]) :
    Tests trLk 79 #[.pointer (some ⟨g, 0, none⟩)] W (fun l => lokB n1 l) := fun l v w hb hk hr =>
  cloOk2_any l dl A1 A2 A3 A4 n1 c1 n2 c2 n3 c3 n4 c4 g T v w hr trivial (hg.below hb (Nat.le_refl _))

theorem enters_ResourceOk : ∀ args w, (callFunc 84 args).run Tryz.prog w = .ok (.enter 84 args) w := enters_of Tryz.func84 (by kernel_rfl) rfl

set_option maxRecDepth 100000 in
set_option maxHeartbeats 2000000 in
theorem implProjectOk_any (p : Pj) (v : Value) (w : World) (hv : (trPj p).rd w v) (hk : (trPj p).ok) :
    Calls Tryz.prog 57 #[v] w fun e w' => e = .returned (.bool (pokB p)) ∧ Below w.heap.size w w' := by
  have HV := Lib.hid hv
  have HK := Lib.hid hk
  obtain ⟨A1, c1, A2, c2, A3, c3, A4, c4, rfl, r1, r2, r3, r4⟩ := rdProject_t hv
  obtain ⟨_, k1, k2, k3, k4, _⟩ := hk
  have R1 := Lib.hid r1
  have R2 := Lib.hid r2
  have R3 := Lib.hid r3
  have R4 := Lib.hid r4
  have K1 := Lib.hid k1
  have K2 := Lib.hid k2
  have K3 := Lib.hid k3
  have K4 := Lib.hid k4
  clear hv r1 r2 r3 r4 k1 k2 k3 k4
  generalize hres : pokB p = res
  have RES := Lib.hid hres
  clear hres
  have S0 := Lib.hid ((Sn.start w).box 39 [.int .i64 p.dl, .slice A1 p.acts.length c1, .slice A2 p.lks.length c2, .slice A3 p.ress.length c3, .slice A4 p.stk.length c4])
  by_cases h1 : p.dl < 1
  · have H1 := Lib.hid (inB_no (n := p.dl) (lo := 1) (hi := 60) (by omega))
    go_enter Tryz.func57, Tryz.ntmps57
    go_wp2
    go_ret
    exact ⟨ret_boo (by rw [← RES.out, pokB, H1.out]; rfl), S0.out.1⟩
  by_cases h2 : 60 < p.dl
  · have H1 := Lib.hid (inB_no (n := p.dl) (lo := 1) (hi := 60) (by omega))
    go_enter Tryz.func57, Tryz.ntmps57
    go_wp2
    go_ret
    exact ⟨ret_boo (by rw [← RES.out, pokB, H1.out]; rfl), S0.out.1⟩
  have H1 := Lib.hid (inB_yes (n := p.dl) (lo := 1) (hi := 60) (by omega))
  by_cases h3 : (p.acts.length : Int) < 1
  · have H2 := Lib.hid (inB_no (n := (p.acts.length : Int)) (lo := 1) (hi := 6) (by omega))
    go_enter Tryz.func57, Tryz.ntmps57
    go_wp2
    go_ret
    exact ⟨ret_boo (by rw [← RES.out, pokB, H1.out, H2.out]; rfl), S0.out.1⟩
  have hpos : 1 ≤ (p.acts.length : Int) := by omega
  have HPOS := Lib.hid (show inB (p.acts.length : Int) 1 6 = decide ((p.acts.length : Int) ≤ 6) by simp [inB]; omega)
  have RS := Lib.hid (show res = (decide ((p.acts.length : Int) ≤ 6) && (decide ((p.ress.length : Int) ≤ 3) && (decide ((p.stk.length : Int) ≤ 2) && (decide ((p.lks.length : Int) ≤ 12) &&
    (p.acts.all (fun a => aokB a p.ress.length p.stk.length) && (ownB p.acts && (p.ress.all rokB && (p.stk.all (fun n => inB n 0 100) && p.lks.all (lokB p.acts.length))))))))) by rw [← RES.out, pokB, H1.out, HPOS.out]; rfl)
  clear HPOS hpos RES
  go_enter Tryz.func57, Tryz.ntmps57
  go_wp2_with fail
  refine (areUpToActivity_any 6 77 _ (fun a => aokB a p.ress.length p.stk.length) p.acts _ _ (by exact S0.out.old R1.out) K1.out enters_cloOk1 (by exact tests_cloOk1 _ _ _ _ _ _ _ _ _ _ _ _ _ _ _ _ (S0.out.bk 0 rfl))).mono ?_
  rintro e w1 ⟨rfl, b⟩
  have S1 := Lib.hid (S0.out.go b)
  clear S0 b
  rcases hb0 : (decide ((p.acts.length : Int) ≤ 6) && p.acts.all (fun a => aokB a p.ress.length p.stk.length)) with _ | _
  · have B0 := Lib.hid hb0
    clear hb0
    go_wp2
    go_ret
    exact ⟨ret_boo (by rw [RS.out]; exact pok_false_0 B0.out), S1.out.1⟩
  have B0 := Lib.hid hb0
  clear hb0
  obtain ⟨e0, e1, e2, e3, e4, ef⟩ := (S1.out.bk 0 rfl).c5
  have hbs := (S1.out.bk 0 rfl).lt
  go_wp2_with fail
  clear e0 e1 e2 e3 e4 ef hbs
  refine (haveOwnNames_any p _ _ (by exact S1.out.old HV.out) HK.out).mono ?_
  rintro e w2 ⟨rfl, b⟩
  have S2 := Lib.hid (S1.out.go b)
  clear S1 b
  rcases hb1 : (ownB p.acts) with _ | _
  · have B1 := Lib.hid hb1
    clear hb1
    go_wp2
    go_ret
    exact ⟨ret_boo (by rw [RS.out]; exact pok_false_1 B0.out B1.out), S2.out.1⟩
  have B1 := Lib.hid hb1
  clear hb1
  obtain ⟨e0, e1, e2, e3, e4, ef⟩ := (S2.out.bk 0 rfl).c5
  have hbs := (S2.out.bk 0 rfl).lt
  go_wp2_with fail
  clear e0 e1 e2 e3 e4 ef hbs
  refine (areUpToResource_any 3 84 #[] rokB p.ress _ _ (by exact S2.out.old R3.out) K3.out enters_ResourceOk (fun r v w _ hx hr => implResourceOk_any r v w hr hx)).mono ?_
  rintro e w3 ⟨rfl, b⟩
  have S3 := Lib.hid (S2.out.go b)
  clear S2 b
  rcases hb2 : (decide ((p.ress.length : Int) ≤ 3) && p.ress.all rokB) with _ | _
  · have B2 := Lib.hid hb2
    clear hb2
    go_wp2
    go_ret
    exact ⟨ret_boo (by rw [RS.out]; exact pok_false_2 B0.out B1.out B2.out), S3.out.1⟩
  have B2 := Lib.hid hb2
  clear hb2
  obtain ⟨e0, e1, e2, e3, e4, ef⟩ := (S3.out.bk 0 rfl).c5
  have hbs := (S3.out.bk 0 rfl).lt
  go_wp2_with fail
  clear e0 e1 e2 e3 e4 ef hbs
  refine (areUpToint_any 2 86 #[] (fun n => inB n 0 100) p.stk _ _ (by exact S3.out.old R4.out) K4.out enters_isStock (fun x v w _ _ hx => by obtain rfl : v = .int .i64 x := hx; exact isStock_any x w)).mono ?_
  rintro e w4 ⟨rfl, b⟩
  have S4 := Lib.hid (S3.out.go b)
  clear S3 b
  rcases hb3 : (decide ((p.stk.length : Int) ≤ 2) && p.stk.all (fun n => inB n 0 100)) with _ | _
  · have B3 := Lib.hid hb3
    clear hb3
    go_wp2
    go_ret
    exact ⟨ret_boo (by rw [RS.out]; exact pok_false_3 B0.out B1.out B2.out B3.out), S4.out.1⟩
  have B3 := Lib.hid hb3
  clear hb3
  obtain ⟨e0, e1, e2, e3, e4, ef⟩ := (S4.out.bk 0 rfl).c5
  have hbs := (S4.out.bk 0 rfl).lt
  go_wp2_with fail
  clear e0 e1 e2 e3 e4 ef hbs
  refine (areUpToLink_any 12 79 _ (lokB p.acts.length) p.lks _ _ (by exact S4.out.old R2.out) K2.out enters_cloOk2 (by exact tests_cloOk2 _ _ _ _ _ _ _ _ _ _ _ _ _ _ _ _ (S4.out.bk 0 rfl))).mono ?_
  rintro e w5 ⟨rfl, b⟩
  have S5 := Lib.hid (S4.out.go b)
  clear S4 b
  rcases hb4 : (decide ((p.lks.length : Int) ≤ 12) && p.lks.all (lokB p.acts.length)) with _ | _
  · have B4 := Lib.hid hb4
    clear hb4
    go_wp2
    go_ret
    exact ⟨ret_boo (by rw [RS.out]; exact pok_false_4 B0.out B1.out B2.out B3.out B4.out), S5.out.1⟩
  have B4 := Lib.hid hb4
  clear hb4
  go_wp2
  go_ret
  exact ⟨ret_boo (by rw [RS.out]; exact pok_true B0.out B1.out B2.out B3.out B4.out), S5.out.1⟩
end Go.Proofs.YtdbnhdiboemmiabGreat
