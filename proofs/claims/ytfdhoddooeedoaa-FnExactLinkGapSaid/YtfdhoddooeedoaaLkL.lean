/- DERIVED. CONTRACTS: LinkGap, of the model and of the program. -/
import Derived.Test.YtfdhoddooeedoaaLkG
import Derived.Test.YtfdhoddooeedoaaLkGi
import Derived.Test.YtfdhoddooeedoaaPrE
namespace Go.Proofs.Ytfdhoddooeedoaa
open Go.RowKit Go.Shelf
set_option linter.unusedVariables false

theorem isInts_wf {w : World} {a : Option Addr} {len cap : Nat} {zs : List Int} (h : IsInts w a len cap zs) : ∀ y ∈ zs.take len, (Lit.int .i64 y).wf = true := by
  intro y hy
  rcases h with ⟨_, _, _, rfl⟩ | ⟨x, _, _, _, _, _, _, hw⟩
  · simp at hy
  · exact hw y (List.mem_of_mem_take hy)
theorem okI : ∀ {xs : List Int}, (∀ y ∈ xs, (Lit.int .i64 y).wf = true) → (trI xs).ok
  | [], _ => trivial
  | x :: xs, h => ⟨h x (by simp), okI fun y hy => h y (by simp [hy])⟩


set_option maxRecDepth 100000 in
set_option maxHeartbeats 1000000 in
theorem elemLink_no (xs : List Lk) (i : Int) (v : Value) (w : World) (hr : (trLs xs).rd w v) (h : ¬ (0 ≤ i ∧ i < (xs.length : Int))) :
    Calls Try.prog 34 #[v, .int .i64 i] w fun e w' => e = .returned (.tuple #[.agg #[.int .i64 0, .int .i64 0, .bool false, .int .i64 0], .bool false]) ∧ Below w.heap.size w w' := by
  obtain ⟨hla, A, c, rfl, _⟩ := rdLinkS_t hr
  clear hr
  by_cases h0 : i < 0
  · clear h
    go_enter Try.func34, Try.ntmps34
    go_wp2
    refine bodyPost_ret (v := .tuple #[.agg #[.int .i64 0, .int .i64 0, .bool false, .int .i64 0], .bool false]) (by simp [results, Try.results34, go_sem]) rfl ⟨rfl, ?_⟩
    repeat (first | exact Below.refl _ _ | refine Below.setCell ?_ (by simp) _ | refine Below.alloc ?_ (by first | (simp; done) | (simp; omega)) _)
  · have h1 : (xs.length : Int) ≤ i := by omega
    clear h
    go_enter Try.func34, Try.ntmps34
    go_wp2
    refine bodyPost_ret (v := .tuple #[.agg #[.int .i64 0, .int .i64 0, .bool false, .int .i64 0], .bool false]) (by simp [results, Try.results34, go_sem]) rfl ⟨rfl, ?_⟩
    repeat (first | exact Below.refl _ _ | refine Below.setCell ?_ (by simp) _ | refine Below.alloc ?_ (by first | (simp; done) | (simp; omega)) _)

set_option maxRecDepth 100000 in
set_option maxHeartbeats 1000000 in
theorem elemLink_yes (xs : List Lk) (n : Nat) (hn : n < xs.length) (v : Value) (w : World) (hr : (trLs xs).rd w v) :
    Calls Try.prog 34 #[v, .int .i64 (n : Int)] w fun e w' => e = .returned (.tuple #[.agg #[.int .i64 xs[n].fr, .int .i64 xs[n].to, .bool xs[n].fe, .int .i64 xs[n].lag], .bool true]) ∧ Below w.heap.size w w' := by
  obtain ⟨hla, A, c, rfl, ga⟩ := rdLinkS_t hr
  clear hr
  obtain ⟨b, o, rfl, hb, hc⟩ := ga n hn
  obtain ⟨x0, x1, x2, x3⟩ := hc n hn
  have h0 : (0 : Int) ≤ (n : Int) := by omega
  have h1 : (n : Int) < (xs.length : Int) := by omega
  clear ga hc
  generalize xs[n] = m at x0 x1 x2 x3 ⊢
  go_enter Try.func34, Try.ntmps34
  go_wp2
  refine bodyPost_ret (v := .tuple #[.agg #[.int .i64 m.fr, .int .i64 m.to, .bool m.fe, .int .i64 m.lag], .bool true]) (by simp [results, Try.results34, go_sem]) rfl ⟨rfl, ?_⟩
  repeat (first | exact Below.refl _ _ | refine Below.setCell ?_ (by simp) _ | refine Below.alloc ?_ (by first | (simp; done) | (simp; omega)) _)


set_option maxRecDepth 100000 in
set_option maxHeartbeats 4000000 in
theorem specLinkGap_any (p : Pj) (k : Int) (S : List Int) (v u : Value) (w : World) (hv : (trPj p).rd w v) (hu : (trI S).rd w u) (hk : (trPj p).ok) :
    Calls Try.prog 6 #[v, .int .i64 k, u] w fun e w' => e = .returned (.int .i64 (linkGapB p k S)) ∧ Below w.heap.size w w' := by
  have HV := Lib.hid hv
  obtain ⟨A1, c1, A2, c2, A3, c3, A4, c4, rfl, r1, r2, r3, r4⟩ := rdProject_t hv
  obtain ⟨hl2, B2, d2, he, g2⟩ := rdLinkS_t r2
  injection he with he _ he2
  subst he he2
  have G2 := Lib.hid g2
  clear hv r1 r2 r3 r4 g2
  have HK := Lib.hid hk
  have HU := Lib.hid hu
  clear hk hu G2
  have S0 := Lib.hid ((Sn.start w).box 34 [.int .i64 p.dl, .slice A1 p.acts.length c1, .slice A2 p.lks.length c2, .slice A3 p.ress.length c3, .slice A4 p.stk.length c4])
  go_enter Try.func6, Try.ntmps6
  obtain ⟨e0, e1, e2, e3, e4, ef⟩ := (S0.out.bk 0 rfl).c5
  go_wp2_with fail
  clear e0 e1 e2 e3 e4 ef
  refine (specProjectOk_any p _ _ (by exact S0.out.old HV.out) HK.out).mono ?_
  rintro e w1 ⟨rfl, b⟩
  have S1 := Lib.hid (S0.out.go b)
  clear S0 b
  rcases hok : pokB p with _ | _
  · have HS := Lib.hid (linkGap_bad (k := k) (S := S) hok)
    clear hok
    go_wp2
    go_ret
    exact ⟨by rw [HS.out] <;> rfl, S1.out.1⟩
  obtain ⟨e0, e1, e2, e3, e4, ef⟩ := (S1.out.bk 0 rfl).c5
  have HOK := Lib.hid hok
  have h12 := (pok_lks hok).1
  clear hok
  go_wp2_with fail
  refine (inD_any _ _ _ _).mono ?_
  rintro e wz ⟨rfl, hw⟩
  subst hw
  by_cases hr : 0 ≤ k ∧ k < (p.lks.length : Int)
  case neg =>
    have HS := Lib.hid (linkGap_no (S := S) hr)
    rw [inB_no (n := k) (lo := 0) (hi := (p.lks.length : Int) - 1) (by omega)]
    clear hr e0 e1 e2 e3 e4 ef
    go_wp2
    go_ret
    exact ⟨by rw [HS.out] <;> rfl, S1.out.1⟩
  rw [inB_yes (n := k) (lo := 0) (hi := (p.lks.length : Int) - 1) (by omega)]
  obtain ⟨n, rfl⟩ : ∃ n : Nat, k = (n : Int) := ⟨k.toNat, by omega⟩
  have hn : n < p.lks.length := by omega
  have HS := Lib.hid (linkGap_yes (S := S) HOK.out hn)
  clear hr
  go_wp2_with fail
  clear e0 e1 e2 e3 e4 ef
  refine (specGap_any p n S _ _ _ (by exact S1.out.old HV.out) (by exact rd_flat (S1.out.old HU.out)) HOK.out hn).mono ?_
  rintro e w2 ⟨rfl, b⟩
  rw [← HS.out]
  have S2 := Lib.hid (S1.out.go b)
  clear b S1
  go_wp2
  go_ret
  exact ⟨rfl, S2.out.1⟩

set_option maxRecDepth 100000 in
set_option maxHeartbeats 4000000 in
theorem implLinkGap_any (p : Pj) (k : Int) (S : List Int) (v u : Value) (w : World) (hv : (trPj p).rd w v) (hu : (trI S).rd w u) (hk : (trPj p).ok) :
    Calls Try.prog 9 #[v, .int .i64 k, u] w fun e w' => e = .returned (.int .i64 (linkGapB p k S)) ∧ Below w.heap.size w w' := by
  have HV := Lib.hid hv
  obtain ⟨A1, c1, A2, c2, A3, c3, A4, c4, rfl, r1, r2, r3, r4⟩ := rdProject_t hv
  obtain ⟨hl2, B2, d2, he, g2⟩ := rdLinkS_t r2
  injection he with he _ he2
  subst he he2
  have G2 := Lib.hid g2
  have R2 := Lib.hid r2
  clear hv r1 r2 r3 r4 g2
  have HK := Lib.hid hk
  have HU := Lib.hid hu
  clear hk hu G2
  have S0 := Lib.hid ((Sn.start w).box 34 [.int .i64 p.dl, .slice A1 p.acts.length c1, .slice A2 p.lks.length c2, .slice A3 p.ress.length c3, .slice A4 p.stk.length c4])
  go_enter Try.func9, Try.ntmps9
  obtain ⟨e0, e1, e2, e3, e4, ef⟩ := (S0.out.bk 0 rfl).c5
  by_cases hr : 0 ≤ k ∧ k < (p.lks.length : Int)
  case neg =>
    have HS := Lib.hid (linkGap_no (S := S) hr)
    have HR := Lib.hid hr
    clear hr
    go_wp2_with fail
    clear e0 e1 e2 e3 e4 ef
    refine (elemLink_no p.lks k _ _ (by exact S0.out.old R2.out) HR.out).mono ?_
    rintro e w1 ⟨rfl, b⟩
    have S1 := Lib.hid ((S0.out.go b).box 46 [.int .i64 0, .int .i64 0, .bool false, .int .i64 0])
    clear S0 b
    go_wp2
    go_ret
    exact ⟨by rw [HS.out] <;> rfl, S1.out.1⟩
  obtain ⟨n, rfl⟩ : ∃ n : Nat, k = (n : Int) := ⟨k.toNat, by omega⟩
  have hn : n < p.lks.length := by omega
  clear hr
  go_wp2_with fail
  clear e0 e1 e2 e3 e4 ef
  refine (elemLink_yes p.lks n hn _ _ (by exact S0.out.old R2.out)).mono ?_
  rintro e w1 ⟨rfl, b⟩
  have LOK := Lib.hid (fun h : pokB p = true => ((pok_lks h).2 _ (List.getElem_mem hn)).1)
  have HSY := Lib.hid (fun h : pokB p = true => linkGap_yes (S := S) h hn)
  generalize p.lks[n] = m at LOK HSY ⊢
  have S1 := Lib.hid ((S0.out.go b).box 46 [.int .i64 m.fr, .int .i64 m.to, .bool m.fe, .int .i64 m.lag])
  clear S0 b
  obtain ⟨e0, e1, e2, e3, e4, ef⟩ := (S1.out.bk 1 rfl).c5
  go_wp2_with fail
  clear e0 e1 e2 e3 e4 ef
  refine (implProjectOk_any p _ _ (by exact S1.out.old HV.out) HK.out).mono ?_
  rintro e w2 ⟨rfl, b⟩
  have S2 := Lib.hid (S1.out.go b)
  clear S1 b
  rcases hok : pokB p with _ | _
  · have HS := Lib.hid (linkGap_bad (k := (n : Int)) (S := S) hok)
    clear hok
    go_wp2
    go_ret
    exact ⟨by rw [HS.out] <;> rfl, S2.out.1⟩
  have HS := Lib.hid (HSY.out hok)
  have HF := Lib.hid (LOK.out hok)
  clear hok HSY LOK
  obtain ⟨e0, e1, e2, e3, e4, ef⟩ := (S2.out.bk 1 rfl).c5
  obtain ⟨q0, q1, q2, q3, qf⟩ := (S2.out.bk 0 rfl).c4
  go_wp2_with fail
  clear e0 e1 e2 e3 e4 ef q0 q1 q2 q3 qf
  refine (implGap_any p m S _ _ _ (by exact S2.out.old HV.out) (by exact rd_flat (S2.out.old HU.out)) HF.out).mono ?_
  rintro e w3 ⟨rfl, b⟩
  rw [← HS.out]
  have S3 := Lib.hid (S2.out.go b)
  clear b S2
  go_wp2
  go_ret
  exact ⟨rfl, S3.out.1⟩

end Go.Proofs.Ytfdhoddooeedoaa

