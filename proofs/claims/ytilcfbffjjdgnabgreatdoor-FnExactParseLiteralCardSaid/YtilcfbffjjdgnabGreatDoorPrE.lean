/- DERIVED. CONTRACTS: elementAt over resources and activities; IsMachine, SetupTime, ProjectStats, of the model and of the program. -/
import Derived.Test.YtilcfbffjjdgnabGreatDoorPrD
import Derived.Deep.QuietTactic
namespace Go.Proofs.YtilcfbffjjdgnabGreatDoor
open Go.RowKit Go.Shelf
set_option linter.unusedVariables false

def atI {α : Type} (xs : List α) (i : Int) : Option α := if 0 ≤ i then xs[i.toNat]? else none
theorem atI_no {α : Type} {xs : List α} {i : Int} (h : ¬ (0 ≤ i ∧ i < (xs.length : Int))) : atI xs i = none := by
  unfold atI
  by_cases h0 : 0 ≤ i
  · rw [if_pos h0, List.getElem?_eq_none (by omega)]
  · rw [if_neg h0]
theorem atI_yes {α : Type} {xs : List α} {n : Nat} (h : n < xs.length) : atI xs (n : Int) = some xs[n] := by
  unfold atI
  rw [if_pos (by omega), Int.toNat_natCast, List.getElem?_eq_getElem h]
def machB (p : Pj) (r : Int) : Bool := match atI p.ress r with | some x => decide (0 < (x.su.length : Int)) | none => false
theorem machB_no {p : Pj} {r : Int} (h : ¬ (0 ≤ r ∧ r < (p.ress.length : Int))) : machB p r = false := by rw [machB, atI_no h]
theorem machB_yes {p : Pj} {n : Nat} (h : n < p.ress.length) : machB p (n : Int) = decide (0 < (p.ress[n].su.length : Int)) := by rw [machB, atI_yes h]

set_option maxRecDepth 100000 in
set_option maxHeartbeats 1000000 in
theorem elemResource_no (xs : List Rs) (i : Int) (v : Value) (w : World) (hr : (trRs xs).rd w v) (h : ¬ (0 ≤ i ∧ i < (xs.length : Int))) :
    Calls Tryz.prog 259 #[v, .int .i64 i] w fun e w' => e = .returned (.tuple #[.agg #[.slice none 0 0, .slice none 0 0], .bool false]) ∧ Below w.heap.size w w' := by
  obtain ⟨hla, A, c, rfl, _⟩ := rdResourceS_t hr
  clear hr
  by_cases h0 : i < 0
  · clear h
    go_enter Tryz.func259, Tryz.ntmps259
    go_wp2
    refine bodyPost_ret (v := .tuple #[.agg #[.slice none 0 0, .slice none 0 0], .bool false]) (by simp [results, Tryz.results259, go_sem]) rfl ⟨rfl, ?_⟩
    repeat (first | exact Below.refl _ _ | refine Below.setCell ?_ (by simp) _ | refine Below.alloc ?_ (by first | (simp; done) | (simp; omega)) _)
  · have h1 : (xs.length : Int) ≤ i := by omega
    clear h
    go_enter Tryz.func259, Tryz.ntmps259
    go_wp2
    refine bodyPost_ret (v := .tuple #[.agg #[.slice none 0 0, .slice none 0 0], .bool false]) (by simp [results, Tryz.results259, go_sem]) rfl ⟨rfl, ?_⟩
    repeat (first | exact Below.refl _ _ | refine Below.setCell ?_ (by simp) _ | refine Below.alloc ?_ (by first | (simp; done) | (simp; omega)) _)

set_option maxRecDepth 100000 in
set_option maxHeartbeats 1000000 in
theorem elemResource_yes (xs : List Rs) (n : Nat) (hn : n < xs.length) (v : Value) (w : World) (hr : (trRs xs).rd w v) :
    Calls Tryz.prog 259 #[v, .int .i64 (n : Int)] w fun e w' => ∃ A0 a0 A1 a1, e = .returned (.tuple #[.agg #[.slice A0 xs[n].st.length a0, .slice A1 xs[n].su.length a1], .bool true]) ∧ (trR xs[n]).rd w (.agg #[.slice A0 xs[n].st.length a0, .slice A1 xs[n].su.length a1]) ∧ Below w.heap.size w w' := by
  obtain ⟨hla, A, c, rfl, ga⟩ := rdResourceS_t hr
  clear hr
  obtain ⟨b, o, rfl, hb, hc⟩ := ga n hn
  obtain ⟨A0, a0, A1, a1, x0, x1, r0, r1⟩ := hc n hn
  have HM := Lib.hid (mk_rdResource_t (d := xs[n]) r0 r1)
  have h0 : (0 : Int) ≤ (n : Int) := by omega
  have h1 : (n : Int) < (xs.length : Int) := by omega
  clear ga hc r0 r1
  refine Calls.mono ?_ (fun e w' (h : e = .returned (.tuple #[.agg #[.slice A0 xs[n].st.length a0, .slice A1 xs[n].su.length a1], .bool true]) ∧ Below w.heap.size w w') => ⟨A0, a0, A1, a1, h.1, HM.out, h.2⟩)
  generalize xs[n] = m at x0 x1 ⊢
  clear HM
  go_enter Tryz.func259, Tryz.ntmps259
  go_wp2
  refine bodyPost_ret (v := .tuple #[.agg #[.slice A0 m.st.length a0, .slice A1 m.su.length a1], .bool true]) (by simp [results, Tryz.results259, go_sem]) rfl ⟨rfl, ?_⟩
  repeat (first | exact Below.refl _ _ | refine Below.setCell ?_ (by simp) _ | refine Below.alloc ?_ (by first | (simp; done) | (simp; omega)) _)

set_option maxRecDepth 100000 in
set_option maxHeartbeats 1000000 in
theorem elemActivity_no (xs : List Ac) (i : Int) (v : Value) (w : World) (hr : (trAs xs).rd w v) (h : ¬ (0 ≤ i ∧ i < (xs.length : Int))) :
    Calls Tryz.prog 103 #[v, .int .i64 i] w fun e w' => e = .returned (.tuple #[.agg #[.string ⟨#[]⟩, .int .i64 0, .slice none 0 0], .bool false]) ∧ Below w.heap.size w w' := by
  obtain ⟨hla, A, c, rfl, _⟩ := rdActivityS_t hr
  clear hr
  by_cases h0 : i < 0
  · clear h
    go_enter Tryz.func103, Tryz.ntmps103
    go_wp2
    refine bodyPost_ret (v := .tuple #[.agg #[.string ⟨#[]⟩, .int .i64 0, .slice none 0 0], .bool false]) (by simp [results, Tryz.results103, go_sem]) rfl ⟨rfl, ?_⟩
    repeat (first | exact Below.refl _ _ | refine Below.setCell ?_ (by simp) _ | refine Below.alloc ?_ (by first | (simp; done) | (simp; omega)) _)
  · have h1 : (xs.length : Int) ≤ i := by omega
    clear h
    go_enter Tryz.func103, Tryz.ntmps103
    go_wp2
    refine bodyPost_ret (v := .tuple #[.agg #[.string ⟨#[]⟩, .int .i64 0, .slice none 0 0], .bool false]) (by simp [results, Tryz.results103, go_sem]) rfl ⟨rfl, ?_⟩
    repeat (first | exact Below.refl _ _ | refine Below.setCell ?_ (by simp) _ | refine Below.alloc ?_ (by first | (simp; done) | (simp; omega)) _)

set_option maxRecDepth 100000 in
set_option maxHeartbeats 1000000 in
theorem elemActivity_yes (xs : List Ac) (n : Nat) (hn : n < xs.length) (v : Value) (w : World) (hr : (trAs xs).rd w v) :
    Calls Tryz.prog 103 #[v, .int .i64 (n : Int)] w fun e w' => ∃ A2 a2, e = .returned (.tuple #[.agg #[.string xs[n].nm, .int .i64 xs[n].fa, .slice A2 xs[n].ms.length a2], .bool true]) ∧ (trA xs[n]).rd w (.agg #[.string xs[n].nm, .int .i64 xs[n].fa, .slice A2 xs[n].ms.length a2]) ∧ Below w.heap.size w w' := by
  obtain ⟨hla, A, c, rfl, ga⟩ := rdActivityS_t hr
  clear hr
  obtain ⟨b, o, rfl, hb, hc⟩ := ga n hn
  obtain ⟨A2, a2, x0, x1, x2, r2⟩ := hc n hn
  have HM := Lib.hid (mk_rdActivity_t (d := xs[n]) r2)
  have h0 : (0 : Int) ≤ (n : Int) := by omega
  have h1 : (n : Int) < (xs.length : Int) := by omega
  clear ga hc r2
  refine Calls.mono ?_ (fun e w' (h : e = .returned (.tuple #[.agg #[.string xs[n].nm, .int .i64 xs[n].fa, .slice A2 xs[n].ms.length a2], .bool true]) ∧ Below w.heap.size w w') => ⟨A2, a2, h.1, HM.out, h.2⟩)
  generalize xs[n] = m at x0 x1 x2 ⊢
  clear HM
  go_enter Tryz.func103, Tryz.ntmps103
  go_wp2
  refine bodyPost_ret (v := .tuple #[.agg #[.string m.nm, .int .i64 m.fa, .slice A2 m.ms.length a2], .bool true]) (by simp [results, Tryz.results103, go_sem]) rfl ⟨rfl, ?_⟩
  repeat (first | exact Below.refl _ _ | refine Below.setCell ?_ (by simp) _ | refine Below.alloc ?_ (by first | (simp; done) | (simp; omega)) _)

set_option maxRecDepth 100000 in
set_option maxHeartbeats 1000000 in
theorem implIsMachine_any (p : Pj) (r : Int) (v : Value) (w : World) (hv : (trPj p).rd w v) :
    Calls Tryz.prog 258 #[v, .int .i64 r] w fun e w' => e = .returned (.bool (machB p r)) ∧ Below w.heap.size w w' := by
  obtain ⟨A1, c1, A2, c2, A3, c3, A4, c4, rfl, r1, r2, r3, r4⟩ := rdProject_t hv
  have R3 := Lib.hid r3
  clear hv r1 r2 r3 r4
  have S0 := Lib.hid ((Sn.start w).box 36 [.int .i64 p.dl, .slice A1 p.acts.length c1, .slice A2 p.lks.length c2, .slice A3 p.ress.length c3, .slice A4 p.stk.length c4])
  by_cases h : 0 ≤ r ∧ r < (p.ress.length : Int)
  · obtain ⟨n, rfl⟩ : ∃ n : Nat, r = (n : Int) := ⟨r.toNat, by omega⟩
    have hn : n < p.ress.length := by omega
    rw [machB_yes hn]
    clear h
    go_enter Tryz.func258, Tryz.ntmps258
    go_wp2_with fail
    refine (elemResource_yes p.ress n hn _ _ (by exact S0.out.old R3.out)).mono ?_
    rintro e w1 ⟨A0, a0, B1, a1, rfl, _, b⟩
    have S1 := Lib.hid ((S0.out.go b).box 112 [.slice A0 p.ress[n].st.length a0, .slice B1 p.ress[n].su.length a1])
    clear S0 b
    go_wp2
    go_ret
    exact ⟨by simp, S1.out.1⟩
  · rw [machB_no h]
    go_enter Tryz.func258, Tryz.ntmps258
    go_wp2_with fail
    refine (elemResource_no p.ress r _ _ (by exact S0.out.old R3.out) h).mono ?_
    rintro e w1 ⟨rfl, b⟩
    have S1 := Lib.hid ((S0.out.go b).box 112 [.slice none 0 0, .slice none 0 0])
    clear S0 b
    go_wp2
    go_ret
    exact ⟨rfl, S1.out.1⟩

/-- A slice of ints built at once. -/
theorem row1_new (w : World) (e : TypeId) (xs : List Int) (hx : xs.length ≤ maxLen) : (flat e (xs.map (.int .i64))).own (w.alloc (.cells ⟨xs.map (.int .i64)⟩ e)) w.heap.size (.slice (some ⟨w.heap.size, 0, none⟩) xs.length xs.length) [w.heap.size] ∧ Below w.heap.size w (w.alloc (.cells ⟨xs.map (.int .i64)⟩ e)) := by
  refine ⟨⟨xs.map (.int .i64), [], ⟨by simp, .inr ⟨w.heap.size, xs.length, ⟨xs.map (.int .i64)⟩, by simp, Nat.le_refl _, heap_alloc_new w _, by simp, hx, by simp, List.take_of_length_le (by simp)⟩⟩, ownL_ones.2 ⟨rfl, rfl⟩, by simp [Value.ownBlock]⟩, (Below.refl _ _).alloc (Nat.le_refl _) _⟩
def modesN (al : List Ac) : Nat := (al.map fun a => a.ms.length).sum
theorem modesN_take {al : List Ac} {k : Nat} (h : k < al.length) : modesN (al.take (k + 1)) = modesN (al.take k) + al[k].ms.length := by
  unfold modesN
  rw [List.take_succ_eq_append_getElem h, List.map_append, List.sum_append]
  simp
theorem modesN_le (al : List Ac) : ∀ {n : Nat}, (∀ a ∈ al, a.ms.length ≤ n) → modesN al ≤ al.length * n := by
  intro n h
  unfold modesN
  induction al with
  | nil => simp
  | cons a al ih =>
    have h1 := h a (by simp)
    have h2 := ih (fun x hx => h x (by simp [hx]))
    simp only [List.map_cons, List.sum_cons, List.length_cons, Nat.succ_mul]
    omega
noncomputable def statsB (p : Pj) : List Int := if pokB p = true then [(p.acts.length : Int), (modesN p.acts : Int), (p.lks.length : Int), (p.ress.length : Int), (p.stk.length : Int)] else []
theorem statsB_len (p : Pj) : (statsB p).length ≤ 5 := by unfold statsB; split <;> simp
theorem pok_acts {p : Pj} (h : pokB p = true) : p.acts.length ≤ 6 ∧ ∀ a ∈ p.acts, aokB a p.ress.length p.stk.length = true := by
  simp only [pokB, Bool.and_eq_true, List.all_eq_true] at h
  exact ⟨by have := (inB_iff.1 h.2.1).2; omega, h.2.2.2.2.2.1⟩
theorem aok_modes {a : Ac} {r s : Int} (h : aokB a r s = true) : a.ms.length ≤ 3 ∧ (∀ m ∈ a.ms, mokB m r s = true) ∧ inB a.fa 0 3 = true := by
  simp only [aokB, Bool.and_eq_true, List.all_eq_true] at h
  exact ⟨by have := (inB_iff.1 h.2.2.2).2; omega, h.1, h.2.2.1⟩
theorem mok_us {m : Md} {r s : Int} (h : mokB m r s = true) : (m.us.length : Int) = r ∧ ∀ x ∈ m.us, inB x 0 20 = true := by
  simp only [mokB, numsB, Bool.and_eq_true, List.all_eq_true, decide_eq_true_eq] at h
  exact ⟨h.2.1.2, h.2.1.1⟩

set_option maxRecDepth 100000 in
set_option maxHeartbeats 2000000 in
theorem implProjectStats_any (p : Pj) (v : Value) (w : World) (hv : (trPj p).rd w v) (hk : (trPj p).ok) :
    Calls Tryz.prog 25 #[v] w fun e w' => ∃ u F, e = .returned u ∧ (trI (statsB p)).own w' w.heap.size u F ∧ F.Nodup ∧ Below w.heap.size w w' := by
  have HV := Lib.hid hv
  have HK := Lib.hid hk
  obtain ⟨A1, c1, A2, c2, A3, c3, A4, c4, rfl, r1, r2, r3, r4⟩ := rdProject_t hv
  obtain ⟨hl1, B1, d1, he, g1⟩ := rdActivityS_t r1
  injection he with he _ he2
  subst he he2
  obtain ⟨hl2, _⟩ := rdLinkS_t r2
  obtain ⟨hl3, _⟩ := rdResourceS_t r3
  obtain ⟨hl4, _⟩ := rdI (rd_flat r4)
  unfold maxLen at hl4
  have G1 := Lib.hid g1
  clear hv r1 r2 r3 r4 g1 hk
  have S0 := Lib.hid ((Sn.start w).box 36 [.int .i64 p.dl, .slice A1 p.acts.length c1, .slice A2 p.lks.length c2, .slice A3 p.ress.length c3, .slice A4 p.stk.length c4])
  go_enter Tryz.func25, Tryz.ntmps25
  go_wp2_with fail
  refine (implProjectOk_any p _ _ (by exact S0.out.old HV.out) HK.out).mono ?_
  rintro e w1 ⟨rfl, b⟩
  have S1 := Lib.hid (S0.out.go b)
  clear S0 b
  rcases hok : pokB p with _ | _
  · have HS := Lib.hid (show statsB p = [] by rw [statsB, if_neg (by rw [hok]; simp)])
    clear hok
    go_wp2
    go_ret
    have hnil : (trI (statsB p)).own w1 w.heap.size (.slice none 0 0) [] := by rw [HS.out]; exact ⟨[], [], ⟨rfl, .inl ⟨rfl, rfl⟩⟩, ⟨rfl, rfl⟩, rfl⟩
    first
      | exact ⟨[], hnil, List.nodup_nil, S1.out.1⟩
      | exact ⟨.slice none 0 0, [], rfl, hnil, List.nodup_nil, S1.out.1⟩
      | exact ⟨.slice none 0 0, rfl, [], hnil, List.nodup_nil, S1.out.1⟩
  have HS := Lib.hid (show statsB p = [(p.acts.length : Int), (modesN p.acts : Int), (p.lks.length : Int), (p.ress.length : Int), (p.stk.length : Int)] by rw [statsB, if_pos hok])
  have HM3 := Lib.hid (fun a ha => (aok_modes ((pok_acts hok).2 a ha)).1)
  have h6 : p.acts.length ≤ 6 := (pok_acts hok).1
  clear hok
  obtain ⟨e0, e1, e2, e3, e4, ef⟩ := (S1.out.bk 0 rfl).c5
  go_wp2
  clear e0 e1 e2 e3 e4 ef
  go_loopw [3, 12] (fun q i wr => ∃ k : Nat, k ≤ p.acts.length ∧ i = .int .i64 k ∧ q = .int .i64 (modesN (p.acts.take k) : Nat) ∧ Sn w wr [boxI w.heap.size 36 [.int .i64 p.dl, .slice A1 p.acts.length c1, .slice A2 p.lks.length c2, .slice A3 p.ress.length c3, .slice A4 p.stk.length c4]]) (fun _ i _ => p.acts.length - (intOf i).toNat)
  case atStart => exact ⟨0, Nat.zero_le _, rfl, rfl, S1.out⟩
  case round =>
    obtain ⟨k, hkl, rfl, rfl, hS⟩ := hrel
    have S2 := Lib.hid hS
    clear hS S1
    by_cases hlt : k < p.acts.length
    · have hlt' : (k : Int) < (p.acts.length : Int) := by omega
      obtain ⟨b, o, rfl, hb, hc⟩ := G1.out k hlt
      obtain ⟨U, cu, y0, y1, y2, ru⟩ := hc k hlt
      have hx0 := (S2.out.1.cell (p := ⟨b, o + k * 3, none⟩) hb).trans y0
      have hx1 := (S2.out.1.cell (p := ⟨b, o + k * 3 + 1, none⟩) hb).trans y1
      have hx2 := (S2.out.1.cell (p := ⟨b, o + k * 3 + 2, none⟩) hb).trans y2
      have MT := Lib.hid (modesN_take hlt)
      have h3 := HM3.out _ (List.getElem_mem hlt)
      have hle := modesN_le (p.acts.take k) (n := 3) (fun a ha => HM3.out a (List.mem_of_mem_take ha))
      rw [List.length_take] at hle
      have hq : modesN (p.acts.take k) ≤ 18 := by omega
      clear hc y0 y1 y2 ru hle
      generalize p.acts[k] = m at hx0 hx1 hx2 MT h3
      generalize modesN (p.acts.take k) = q at MT hq
      have HE := Lib.hid ((S2.out.box 74 [.string m.nm, .int .i64 m.fa, .slice U m.ms.length cu]).drop 0)
      clear S2
      go_wp2
      go_roundw
      case rel => exact ⟨k + 1, by omega, by go_num, by rw [MT.out]; rfl, HE.out⟩
      case measure => simp [intOf]; omega
    · have hge : ¬ (k : Int) < (p.acts.length : Int) := by omega
      obtain rfl : k = p.acts.length := by omega
      rw [List.take_length]
      obtain ⟨e0, e1, e2, e3, e4, ef⟩ := (S2.out.bk 0 rfl).c5
      go_wp2
      go_ret
      have hr := row1_new wr 3 [(p.acts.length : Int), (modesN p.acts : Int), (p.lks.length : Int), (p.ress.length : Int), (p.stk.length : Int)] (by unfold maxLen; simp)
      have SN := S2.out.new hr.1 (by simp) hr.2
      exact ⟨_, rfl, [wr.heap.size], by rw [HS.out]; exact (SN.own 0 rfl).1, by simp, SN.1⟩

end Go.Proofs.YtilcfbffjjdgnabGreatDoor
