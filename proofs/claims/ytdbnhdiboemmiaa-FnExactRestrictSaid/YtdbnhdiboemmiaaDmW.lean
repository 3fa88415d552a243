/- DERIVED. CONTRACTS of chapter 13: Restrict of the program. -/
import Derived.Test.YtdbnhdiboemmiaaDmR
import Derived.Test.YtdbnhdiboemmiaaTLiteral
import Derived.Deep.QuietTactic
namespace Go.Proofs.Ytdbnhdiboemmiaa
open Go.RowKit Go.Shelf
set_option linter.unusedVariables false

theorem Sn.unpack {w0 W : World} {L : List Item} {t : Tr} {ts : List Tr} {v : Value} {vs : List Value} {F : List Nat} (h : Sn w0 W (⟨.agg (t :: ts), .agg ⟨v :: vs⟩, F⟩ :: L)) : ∃ G K, Sn w0 W (⟨t, v, G⟩ :: ⟨.agg ts, .agg ⟨vs⟩, K⟩ :: L) := by
  obtain ⟨oa, na, pa, rest⟩ := h.2
  obtain ⟨us, he, v1, us', G, K, hu, o1, o2, rfl⟩ := oa
  have e1 : (v :: vs) = us := by injection he with he; injection he
  rw [← e1] at hu
  obtain ⟨rfl, rfl⟩ : v1 = v ∧ us' = vs := by injection hu with a b; exact ⟨a.symm, b.symm⟩
  obtain ⟨n1, n2, n3⟩ := List.nodup_append.1 na
  refine ⟨G, K, h.1, o1, n1, fun s hs k hk => ?_, ⟨us', rfl, o2⟩, n2, fun s hs k hk => pa s hs k (List.mem_append.2 (.inr hk)), rest⟩
  rcases List.mem_cons.1 hs with rfl | hs
  · exact fun e => n3 k hk k e rfl
  · exact pa s hs k (List.mem_append.2 (.inl hk))
/-- A domain of one's own, its rows apart: the least starts first. -/
theorem Sn.undom {w0 W : World} {L : List Item} {d : Dm} {v1 v2 v3 : Value} {F : List Nat} (h : Sn w0 W (⟨trDm d, .agg #[v1, v2, v3], F⟩ :: L)) : ∃ F1 F2 F3, Sn w0 W (⟨trI d.mn, v1, F1⟩ :: ⟨trI d.mx, v2, F2⟩ :: ⟨trSu d.md, v3, F3⟩ :: L) := by
  obtain ⟨F1, G1, h1⟩ := Sn.unpack (t := trI d.mn) (ts := [trI d.mx, trSu d.md]) (v := v1) (vs := [v2, v3]) h
  obtain ⟨F2, G2, h2⟩ := Sn.unpack (t := trI d.mx) (ts := [trSu d.md]) (v := v2) (vs := [v3]) (h1.pick 1 rfl)
  obtain ⟨F3, G3, h3⟩ := Sn.unpack (t := trSu d.md) (ts := []) (v := v3) (vs := []) (h2.pick 1 rfl)
  have h4 := (((h3.drop 1).pick 1 rfl).pick 2 rfl)
  exact ⟨F1, F2, F3, h4⟩
theorem rest_1 {d : Dm} {n : Nat} {ac va : Int} : restA d ⟨1, ac, va⟩ n = ⟨d.mn.set n (max (mnD d n) (brT va)), d.mx, d.md⟩ := rfl
theorem rest_2 {d : Dm} {n : Nat} {ac va : Int} : restA d ⟨2, ac, va⟩ n = ⟨d.mn, d.mx.set n (min (mxD d n) (brT va)), d.md⟩ := rfl
theorem rest_3 {d : Dm} {n : Nat} {ac va : Int} : restA d ⟨3, ac, va⟩ n = ⟨d.mn, d.mx, d.md.set n (interB (mdD d n) [brT va])⟩ := rfl
theorem rest_4 {d : Dm} {n : Nat} {ac va : Int} : restA d ⟨4, ac, va⟩ n = ⟨d.mn, d.mx, d.md.set n (pickB (neB (brT va)) (mdD d n))⟩ := rfl
theorem rest_o {d : Dm} {n : Nat} {ki ac va : Int} (h1 : ¬ ki = 1) (h2 : ¬ ki = 2) (h3 : ¬ ki = 3) (h4 : ¬ ki = 4) : restA d ⟨ki, ac, va⟩ n = d := by simp [restA, h1, h2, h3, h4]
theorem mk_rdDom {w : World} {d : Dm} {v1 v2 v3 : Value} (h1 : (trI d.mn).rd w v1) (h2 : (trI d.mx).rd w v2) (h3 : (trSu d.md).rd w v3) : (trDm d).rd w (.agg #[v1, v2, v3]) := ⟨_, rfl, _, _, rfl, h1, _, _, rfl, h2, _, _, rfl, h3, rfl⟩
set_option maxRecDepth 100000 in
set_option maxHeartbeats 8000000 in
theorem inPlace_any (d : Dm) (l : Lt) (g : Nat) (A1 A2 A3 : Option Addr) (a1 a2 a3 : Nat) (F1 F2 F3 : List Nat) (L : List Item) (W0 w : World) (hsz : (trDm d).sz ≤ 1048576)
    (h : Sn W0 w (⟨trI d.mn, .slice A1 d.mn.length a1, F1⟩ :: ⟨trI d.mx, .slice A2 d.mx.length a2, F2⟩ :: ⟨trSu d.md, .slice A3 d.md.length a3, F3⟩ :: boxI g 40 [.slice A1 d.mn.length a1, .slice A2 d.mx.length a2, .slice A3 d.md.length a3] :: L)) :
    Calls Try.prog 74 #[.pointer (some ⟨g, 0, none⟩), ltV l] w fun e w' => e = .returned (.tuple #[]) ∧ ∃ F3', Sn W0 w' (⟨trI (restD d l).mn, .slice A1 d.mn.length a1, F1⟩ :: ⟨trI (restD d l).mx, .slice A2 d.mx.length a2, F2⟩ :: ⟨trSu (restD d l).md, .slice A3 d.md.length a3, F3'⟩ :: boxI g 40 [.slice A1 d.mn.length a1, .slice A2 d.mx.length a2, .slice A3 d.md.length a3] :: L) := by
  obtain ⟨ki, ac, va⟩ := l
  have HN := Lib.hid (fun h => @rest_no d ⟨ki, ac, va⟩ h)
  have HY := Lib.hid (fun n h e => @rest_yes d ⟨ki, ac, va⟩ n h e)
  generalize restD d ⟨ki, ac, va⟩ = res at HN HY ⊢
  have ZM := Lib.hid (fun j (h : j < d.md.length) => Nat.le_trans (su_at h) (by rw [dm_sz] at hsz; omega : (trSu d.md).sz ≤ 1048576))
  clear hsz
  have S0 := Lib.hid (h.box 54 [.int .i64 ki, .int .i64 ac, .int .i64 va])
  have hsW := h.1.size
  have hgl := (h.bk 3 rfl).lt
  clear h
  unfold ltV
  go_enter Try.func74, Try.ntmps74
  go_wp2_with fail
  generalize World.alloc w _ = wq at S0 ⊢
  generalize w.heap.size = gl at S0 hgl ⊢
  obtain ⟨q0, q1, q2, qf⟩ := (S0.out.bk 0 rfl).c3
  go_quiet (first | (go_at_call 97; exact quiet_left (clampT_any _ _)) | fail)
  generalize hwr : World.drewN wq _ = wr
  have hbr : Below wq.heap.size wq wr := hwr ▸ below_drewN (Below.refl _ _) _
  have S1 := Lib.hid (S0.out.go hbr)
  clear hwr hbr S0 q0 q1 q2 qf
  obtain ⟨e0, e1, e2, ef⟩ := (S1.out.bk 4 rfl).c3
  go_wp2_with fail
  refine (hasAct_any d ac _ _ (by exact mk_rdDom (S1.out.rd 1 rfl) (S1.out.rd 2 rfl) (S1.out.rd 3 rfl))).mono ?_
  rintro e w2 ⟨rfl, b⟩
  have S2 := Lib.hid (S1.out.go b)
  clear S1 b e0 e1 e2 ef
  by_cases ht : thereD d ac
  rotate_left
  · rw [decide_eq_false ht]
    have RES := Lib.hid (HN.out ht)
    go_wp2
    refine bodyPost_ret (v := .tuple #[]) (by simp [results, Try.results74, go_sem]) rfl ⟨rfl, F3, by rw [RES.out]; exact S2.out.drop 0⟩
  rw [decide_eq_true ht]
  obtain ⟨n, rfl⟩ : ∃ n : Nat, ac = (n : Int) := ⟨ac.toNat, by have := ht.1; omega⟩
  have RES := Lib.hid (HY.out n ht rfl)
  obtain ⟨k0, k1, k2, k3⟩ := ht
  have n1 : n < d.mn.length := by omega
  have n2 : n < d.mx.length := by omega
  have n3 : n < d.md.length := by omega
  obtain ⟨b1, rfl, hac1⟩ := (S2.out.pick 1 rfl).formI (by omega)
  obtain ⟨b2, rfl, hac2⟩ := (S2.out.pick 2 rfl).formI (by omega)
  obtain ⟨b3, rfl, hac3, hlt3⟩ := (S2.out.pick 3 rfl).formR (by omega)
  clear HN HY
  obtain ⟨q0, q1, q2, qf⟩ := (S2.out.bk 0 rfl).c3
  obtain ⟨e0, e1, e2, ef⟩ := (S2.out.bk 4 rfl).c3
  have hlq := (S2.out.bk 0 rfl).lt
  have hle := (S2.out.bk 4 rfl).lt
  by_cases h1 : ki = 1
  · subst h1
    rw [rest_1] at RES
    go_wp2_with fail
    have CI := (S2.out.pick 1 rfl).cellI n1
    have hc := CI.1
    have hlb := ((S2.out.pick 1 rfl).own 0 rfl)
    have hlt9 := (Tr.own_lt _ _ _ hlb.1 b1 (by rw [(own_flat hlb.1).2]; simp [Value.ownBlock])).2
    rw [← mnD_at] at hc
    have S3 := Lib.hid S2.out.drew1
    clear S2 CI hlb
    generalize hxx : mnD d n = xx at hc RES
    have CE := Lib.hid (fun (W : World) (h : Wr [] w2.drew W) => show Hid (Wr [] w2.drew W) ∧ W.cell? ⟨g, 0, none⟩ = some (.slice (some ⟨b1, 0, none⟩) d.mn.length a1) ∧ W.cell? ⟨b1, n, none⟩ = some (.int .i64 xx) from ⟨Lib.hid h, (wr_cell h (p := ⟨g, 0, none⟩) hle (by simp)).trans (by exact by simpa using e0), (wr_cell h (p := ⟨b1, n, none⟩) (by show b1 < _; simpa using hlt9) (by simp)).trans (by exact by simpa using hc)⟩)
    have INIT := Lib.hid (CE.out _ (Wr.refl _ _))
    have KW := Lib.hid (fun (W2 W : World) (hb : Wr [] W W2) (h : Hid (Wr [] w2.drew W) ∧ W.cell? ⟨g, 0, none⟩ = some (.slice (some ⟨b1, 0, none⟩) d.mn.length a1) ∧ W.cell? ⟨b1, n, none⟩ = some (.int .i64 xx)) => CE.out W2 (h.1.out.trans hb))
    clear e0 e1 e2 ef q0 q1 q2 qf hc hlq hle hlt9
    refine wpAnyZ_start 15 (fun W => Hid (Wr [] w2.drew W) ∧ W.cell? ⟨g, 0, none⟩ = some (.slice (some ⟨b1, 0, none⟩) d.mn.length a1) ∧ W.cell? ⟨b1, n, none⟩ = some (.int .i64 xx)) (by kernel_rfl) INIT.out (fun hHeld => ?_)
    clear CE INIT KW
    refine wpAnyZ_take (i := 0) (v := ?_) rfl (by kernel_rfl) (by kernel_rfl) (by kernel_rfl) (fun _ _ _ h => h) (Or.inl ⟨by rfl, ?_⟩) (by assumption) ?_
    rotate_left
    · (intro W hSw; (try dsimp only at hSw); go_simp <;> with_reducible rfl)
    (try simp only [Act.put])
    refine wpAnyZ_take (i := 1) (v := ?_) rfl (by kernel_rfl) (by kernel_rfl) (by kernel_rfl) (fun _ _ _ h => h) (Or.inl ⟨by rfl, ?_⟩) (by assumption) ?_
    rotate_left
    · (intro W hSw; (try dsimp only at hSw); go_simp <;> with_reducible rfl)
    (try simp only [Act.put])
    refine wpAnyZ_take (i := 2) (v := ?_) rfl (by kernel_rfl) (by kernel_rfl) (by kernel_rfl) (fun _ _ _ h => h) (Or.inl ⟨by rfl, ?_⟩) (by assumption) ?_
    rotate_left
    · (intro W hSw; (try dsimp only at hSw); go_simp <;> with_reducible rfl)
    (try simp only [Act.put])
    refine wpAnyZ_take (i := 3) (v := ?_) rfl (by kernel_rfl) (by kernel_rfl) (by kernel_rfl) (fun _ _ _ h => h) (Or.inl ⟨by rfl, ?_⟩) (by assumption) ?_
    rotate_left
    · (intro W hSw; (try dsimp only at hSw); go_simp <;> with_reducible rfl)
    (try simp only [Act.put])
    refine wpAnyZ_take (i := 4) (v := ?_) rfl (by kernel_rfl) (by kernel_rfl) (by kernel_rfl) (fun _ _ _ h => h) (Or.inl ⟨by rfl, ?_⟩) (by assumption) ?_
    rotate_left
    · (intro W hSw; (try dsimp only at hSw); go_simp <;> with_reducible rfl)
    (try simp only [Act.put])
    refine wpAnyZ_take (i := 5) (v := ?_) rfl (by kernel_rfl) (by kernel_rfl) (by kernel_rfl) (fun _ _ _ h => h) (Or.inl ⟨by rfl, ?_⟩) (by assumption) ?_
    rotate_left
    · (intro W hSw; (try dsimp only at hSw); go_simp <;> with_reducible rfl)
    (try simp only [Act.put])
    refine wpAnyZ_take (i := 6) (v := ?_) rfl (by kernel_rfl) (by kernel_rfl) (by kernel_rfl) (fun _ _ _ h => h) (Or.inl ⟨by rfl, ?_⟩) (by assumption) ?_
    rotate_left
    · (intro W hSw; (try dsimp only at hSw); go_simp <;> with_reducible rfl)
    (try simp only [Act.put])
    refine wpAnyZ_take (i := 7) (v := ?_) rfl (by kernel_rfl) (by kernel_rfl) (by kernel_rfl) (fun _ _ _ h => h) (Or.inl ⟨by rfl, ?_⟩) (by assumption) ?_
    rotate_left
    · (intro W hSw; (try dsimp only at hSw); go_simp <;> with_reducible rfl)
    (try simp only [Act.put])
    refine wpAnyZ_take (i := 8) (v := ?_) rfl (by kernel_rfl) (by kernel_rfl) (by kernel_rfl) (fun _ _ _ h => h) (Or.inl ⟨by rfl, ?_⟩) (by assumption) ?_
    rotate_left
    · (intro W hSw; (try dsimp only at hSw); go_simp <;> with_reducible rfl)
    (try simp only [Act.put])
    refine wpAnyZ_take (i := 9) (v := ?_) rfl (by kernel_rfl) (by kernel_rfl) (by kernel_rfl) (fun _ _ _ h => h) (Or.inl ⟨by rfl, ?_⟩) (by assumption) ?_
    rotate_left
    · (intro W hSw; (try dsimp only at hSw); go_simp <;> with_reducible rfl)
    (try simp only [Act.put])
    refine wpAnyZ_take (i := 10) (v := ?_) rfl (by kernel_rfl) (by kernel_rfl) (by kernel_rfl) (fun _ _ _ h => h) (Or.inl ⟨by rfl, ?_⟩) (by assumption) ?_
    rotate_left
    · (intro W hSw; (try dsimp only at hSw); go_simp <;> with_reducible rfl)
    (try simp only [Act.put])
    refine wpAnyZ_take (i := 11) (v := ?_) rfl (by kernel_rfl) (by kernel_rfl) (by kernel_rfl) (fun _ _ _ h => h) (Or.inl ⟨by rfl, ?_⟩) (by assumption) ?_
    rotate_left
    · (intro W hSw; (try dsimp only at hSw); go_simp <;> with_reducible rfl)
    (try simp only [Act.put])
    refine wpAnyZ_take (i := 12) (v := ?_) rfl (by kernel_rfl) (by kernel_rfl) (by kernel_rfl) (fun _ _ _ h => h) (Or.inl ⟨by rfl, ?_⟩) (by assumption) ?_
    rotate_left
    · (intro W hSw; (try dsimp only at hSw); go_simp <;> with_reducible rfl)
    (try simp only [Act.put])
    refine wpAnyZ_take (i := 13) (v := ?_) rfl (by kernel_rfl) (by kernel_rfl) (by kernel_rfl) (fun _ _ _ h => h) (Or.inl ⟨by rfl, ?_⟩) (by assumption) ?_
    rotate_left
    · (intro W hSw; (try dsimp only at hSw); go_simp <;> with_reducible rfl)
    (try simp only [Act.put])
    have CF := (S3.out.pick 1 rfl).cellI n1
    have hcf := CF.1
    have hff := CF.2
    have S4 := Lib.hid ((S3.out.pick 1 rfl).setI n (max xx (brT va)))
    simp only [List.eraseIdx_cons_succ, List.eraseIdx_cons_zero] at S4
    refine wpAnyZ_take (i := 14) (v := ?_) rfl (by kernel_rfl) (by kernel_rfl) (by kernel_rfl) (fun _ _ _ h => h) (Or.inl ⟨by rfl, ?_⟩) (by assumption) ?_
    rotate_left
    · (intro W hSw; (try dsimp only at hSw); go_simp <;> with_reducible rfl)
    (try simp only [Act.put])
    refine wpAnyZ_last (by kernel_rfl) (by kernel_rfl) rfl (fun K hK => ?_)
    go_simp
    refine hK.out _ _ ?_
    clear hK K
    go_wp2
    go_end0
    refine ⟨rfl, F3, ?_⟩
    rw [RES.out]
    first
      | exact S4.out.drop 1
      | (have hmm : (max xx (brT va)) = (if brT va < xx then brT va else xx) := by omega
         rw [hmm] at *
         exact S4.out.drop 1)
  by_cases h2 : ki = 2
  · subst h2
    rw [rest_2] at RES
    go_wp2_with fail
    have CI := (S2.out.pick 2 rfl).cellI n2
    have hc := CI.1
    have hlb := ((S2.out.pick 2 rfl).own 0 rfl)
    have hlt9 := (Tr.own_lt _ _ _ hlb.1 b2 (by rw [(own_flat hlb.1).2]; simp [Value.ownBlock])).2
    rw [← mxD_at] at hc
    have S3 := Lib.hid S2.out.drew1
    clear S2 CI hlb
    generalize hxx : mxD d n = xx at hc RES
    have CE := Lib.hid (fun (W : World) (h : Wr [] w2.drew W) => show Hid (Wr [] w2.drew W) ∧ W.cell? ⟨g, 1, none⟩ = some (.slice (some ⟨b2, 0, none⟩) d.mx.length a2) ∧ W.cell? ⟨b2, n, none⟩ = some (.int .i64 xx) from ⟨Lib.hid h, (wr_cell h (p := ⟨g, 1, none⟩) hle (by simp)).trans (by exact by simpa using e1), (wr_cell h (p := ⟨b2, n, none⟩) (by show b2 < _; simpa using hlt9) (by simp)).trans (by exact by simpa using hc)⟩)
    have INIT := Lib.hid (CE.out _ (Wr.refl _ _))
    have KW := Lib.hid (fun (W2 W : World) (hb : Wr [] W W2) (h : Hid (Wr [] w2.drew W) ∧ W.cell? ⟨g, 1, none⟩ = some (.slice (some ⟨b2, 0, none⟩) d.mx.length a2) ∧ W.cell? ⟨b2, n, none⟩ = some (.int .i64 xx)) => CE.out W2 (h.1.out.trans hb))
    clear e0 e1 e2 ef q0 q1 q2 qf hc hlq hle hlt9
    refine wpAnyZ_start 15 (fun W => Hid (Wr [] w2.drew W) ∧ W.cell? ⟨g, 1, none⟩ = some (.slice (some ⟨b2, 0, none⟩) d.mx.length a2) ∧ W.cell? ⟨b2, n, none⟩ = some (.int .i64 xx)) (by kernel_rfl) INIT.out (fun hHeld => ?_)
    clear CE INIT KW
    refine wpAnyZ_take (i := 0) (v := ?_) rfl (by kernel_rfl) (by kernel_rfl) (by kernel_rfl) (fun _ _ _ h => h) (Or.inl ⟨by rfl, ?_⟩) (by assumption) ?_
    rotate_left
    · (intro W hSw; (try dsimp only at hSw); go_simp <;> with_reducible rfl)
    (try simp only [Act.put])
    refine wpAnyZ_take (i := 1) (v := ?_) rfl (by kernel_rfl) (by kernel_rfl) (by kernel_rfl) (fun _ _ _ h => h) (Or.inl ⟨by rfl, ?_⟩) (by assumption) ?_
    rotate_left
    · (intro W hSw; (try dsimp only at hSw); go_simp <;> with_reducible rfl)
    (try simp only [Act.put])
    refine wpAnyZ_take (i := 2) (v := ?_) rfl (by kernel_rfl) (by kernel_rfl) (by kernel_rfl) (fun _ _ _ h => h) (Or.inl ⟨by rfl, ?_⟩) (by assumption) ?_
    rotate_left
    · (intro W hSw; (try dsimp only at hSw); go_simp <;> with_reducible rfl)
    (try simp only [Act.put])
    refine wpAnyZ_take (i := 3) (v := ?_) rfl (by kernel_rfl) (by kernel_rfl) (by kernel_rfl) (fun _ _ _ h => h) (Or.inl ⟨by rfl, ?_⟩) (by assumption) ?_
    rotate_left
    · (intro W hSw; (try dsimp only at hSw); go_simp <;> with_reducible rfl)
    (try simp only [Act.put])
    refine wpAnyZ_take (i := 4) (v := ?_) rfl (by kernel_rfl) (by kernel_rfl) (by kernel_rfl) (fun _ _ _ h => h) (Or.inl ⟨by rfl, ?_⟩) (by assumption) ?_
    rotate_left
    · (intro W hSw; (try dsimp only at hSw); go_simp <;> with_reducible rfl)
    (try simp only [Act.put])
    refine wpAnyZ_take (i := 5) (v := ?_) rfl (by kernel_rfl) (by kernel_rfl) (by kernel_rfl) (fun _ _ _ h => h) (Or.inl ⟨by rfl, ?_⟩) (by assumption) ?_
    rotate_left
    · (intro W hSw; (try dsimp only at hSw); go_simp <;> with_reducible rfl)
    (try simp only [Act.put])
    refine wpAnyZ_take (i := 6) (v := ?_) rfl (by kernel_rfl) (by kernel_rfl) (by kernel_rfl) (fun _ _ _ h => h) (Or.inl ⟨by rfl, ?_⟩) (by assumption) ?_
    rotate_left
    · (intro W hSw; (try dsimp only at hSw); go_simp <;> with_reducible rfl)
    (try simp only [Act.put])
    refine wpAnyZ_take (i := 7) (v := ?_) rfl (by kernel_rfl) (by kernel_rfl) (by kernel_rfl) (fun _ _ _ h => h) (Or.inl ⟨by rfl, ?_⟩) (by assumption) ?_
    rotate_left
    · (intro W hSw; (try dsimp only at hSw); go_simp <;> with_reducible rfl)
    (try simp only [Act.put])
    refine wpAnyZ_take (i := 8) (v := ?_) rfl (by kernel_rfl) (by kernel_rfl) (by kernel_rfl) (fun _ _ _ h => h) (Or.inl ⟨by rfl, ?_⟩) (by assumption) ?_
    rotate_left
    · (intro W hSw; (try dsimp only at hSw); go_simp <;> with_reducible rfl)
    (try simp only [Act.put])
    refine wpAnyZ_take (i := 9) (v := ?_) rfl (by kernel_rfl) (by kernel_rfl) (by kernel_rfl) (fun _ _ _ h => h) (Or.inl ⟨by rfl, ?_⟩) (by assumption) ?_
    rotate_left
    · (intro W hSw; (try dsimp only at hSw); go_simp <;> with_reducible rfl)
    (try simp only [Act.put])
    refine wpAnyZ_take (i := 10) (v := ?_) rfl (by kernel_rfl) (by kernel_rfl) (by kernel_rfl) (fun _ _ _ h => h) (Or.inl ⟨by rfl, ?_⟩) (by assumption) ?_
    rotate_left
    · (intro W hSw; (try dsimp only at hSw); go_simp <;> with_reducible rfl)
    (try simp only [Act.put])
    refine wpAnyZ_take (i := 11) (v := ?_) rfl (by kernel_rfl) (by kernel_rfl) (by kernel_rfl) (fun _ _ _ h => h) (Or.inl ⟨by rfl, ?_⟩) (by assumption) ?_
    rotate_left
    · (intro W hSw; (try dsimp only at hSw); go_simp <;> with_reducible rfl)
    (try simp only [Act.put])
    refine wpAnyZ_take (i := 12) (v := ?_) rfl (by kernel_rfl) (by kernel_rfl) (by kernel_rfl) (fun _ _ _ h => h) (Or.inl ⟨by rfl, ?_⟩) (by assumption) ?_
    rotate_left
    · (intro W hSw; (try dsimp only at hSw); go_simp <;> with_reducible rfl)
    (try simp only [Act.put])
    refine wpAnyZ_take (i := 13) (v := ?_) rfl (by kernel_rfl) (by kernel_rfl) (by kernel_rfl) (fun _ _ _ h => h) (Or.inl ⟨by rfl, ?_⟩) (by assumption) ?_
    rotate_left
    · (intro W hSw; (try dsimp only at hSw); go_simp <;> with_reducible rfl)
    (try simp only [Act.put])
    have CF := (S3.out.pick 2 rfl).cellI n2
    have hcf := CF.1
    have hff := CF.2
    have S4 := Lib.hid ((S3.out.pick 2 rfl).setI n (min xx (brT va)))
    simp only [List.eraseIdx_cons_succ, List.eraseIdx_cons_zero] at S4
    refine wpAnyZ_take (i := 14) (v := ?_) rfl (by kernel_rfl) (by kernel_rfl) (by kernel_rfl) (fun _ _ _ h => h) (Or.inl ⟨by rfl, ?_⟩) (by assumption) ?_
    rotate_left
    · (intro W hSw; (try dsimp only at hSw); go_simp <;> with_reducible rfl)
    (try simp only [Act.put])
    refine wpAnyZ_last (by kernel_rfl) (by kernel_rfl) rfl (fun K hK => ?_)
    go_simp
    refine hK.out _ _ ?_
    clear hK K
    go_wp2
    go_end0
    refine ⟨rfl, F3, ?_⟩
    rw [RES.out]
    first
      | exact (S4.out.pick 2 rfl).drop 2
      | (have hmm : (min xx (brT va)) = (if brT va < xx then brT va else xx) := by omega
         rw [hmm] at *
         exact (S4.out.pick 2 rfl).drop 2)
  by_cases h3 : ki = 3
  · subst h3
    rw [rest_3] at RES
    go_wp2_with fail
    obtain ⟨_, A9, c9, he9, y9⟩ := own_rowsI (S2.out.own 3 rfl).1
    obtain ⟨b9, o9, e9, hb9, hj9⟩ := y9 n n3
    have ee9 : b9 = b3 ∧ o9 = 0 := by injection he9 with h1 h2 h3; rw [← h1] at e9; injection e9 with e9; injection e9 with x y; exact ⟨x.symm, y.symm⟩
    obtain ⟨rfl, rfl⟩ := ee9
    obtain ⟨A7, c7, hc7, rm7, nl7⟩ := hj9 n n3
    rw [Nat.zero_add] at hc7
    have RM := Lib.hid (rd_flat rm7)
    have NM := Lib.hid nl7
    have LM := Lib.hid (ZM.out n n3)
    rw [← mdD_at (d := d)] at RM NM LM hc7
    clear he9 e9 hj9 rm7 nl7 y9
    have hb8 : b9 < w2.heap.size := hb9
    have S3 := Lib.hid S2.out.drew1
    have BB := Lib.hid ((Below.refl w2.heap.size w2).drew)
    clear S2
    generalize hxx : mdD d n = row at hc7 RES RM NM LM
    have CE := Lib.hid (fun (W : World) (h : Wr [] w2.drew W) => show Hid (Wr [] w2.drew W) ∧ W.cell? ⟨g, 2, none⟩ = some (.slice (some ⟨b9, 0, none⟩) d.md.length a3) ∧ W.cell? ⟨b9, n, none⟩ = some (.slice A7 row.length c7) from ⟨Lib.hid h, (wr_cell h (p := ⟨g, 2, none⟩) hle (by simp)).trans (by exact by simpa using e2), (wr_cell h (p := ⟨b9, n, none⟩) (by show b9 < _; simpa using hb8) (by simp)).trans (by exact by simpa using hc7)⟩)
    have INIT := Lib.hid (CE.out _ (Wr.refl _ _))
    have KW := Lib.hid (fun (W2 W : World) (hb : Wr [] W W2) (h : Hid (Wr [] w2.drew W) ∧ W.cell? ⟨g, 2, none⟩ = some (.slice (some ⟨b9, 0, none⟩) d.md.length a3) ∧ W.cell? ⟨b9, n, none⟩ = some (.slice A7 row.length c7)) => CE.out W2 (h.1.out.trans hb))
    clear e0 e1 e2 ef q0 q1 q2 qf hc7 hlq hle hb8 hb9
    refine wpAnyZ_start 16 (fun W => Hid (Wr [] w2.drew W) ∧ W.cell? ⟨g, 2, none⟩ = some (.slice (some ⟨b9, 0, none⟩) d.md.length a3) ∧ W.cell? ⟨b9, n, none⟩ = some (.slice A7 row.length c7)) (by kernel_rfl) INIT.out (fun hHeld => ?_)
    clear CE INIT
    generalize hwd : w2.drew = wd at S3 KW hHeld BB ⊢
    clear hwd
    refine wpAnyZ_take (i := 0) (v := ?_) rfl (by kernel_rfl) (by kernel_rfl) (by kernel_rfl) (fun _ _ _ h => h) (Or.inl ⟨by rfl, ?_⟩) (by assumption) ?_
    rotate_left
    · (intro W hSw; (try dsimp only at hSw); go_simp <;> with_reducible rfl)
    (try simp only [Act.put])
    refine wpAnyZ_take (i := 1) (v := ?_) rfl (by kernel_rfl) (by kernel_rfl) (by kernel_rfl) (fun _ _ _ h => h) (Or.inl ⟨by rfl, ?_⟩) (by assumption) ?_
    rotate_left
    · (intro W hSw; (try dsimp only at hSw); go_simp <;> with_reducible rfl)
    (try simp only [Act.put])
    refine wpAnyZ_take (i := 2) (v := ?_) rfl (by kernel_rfl) (by kernel_rfl) (by kernel_rfl) (fun _ _ _ h => h) (Or.inl ⟨by rfl, ?_⟩) (by assumption) ?_
    rotate_left
    · (intro W hSw; (try dsimp only at hSw); go_simp <;> with_reducible rfl)
    (try simp only [Act.put])
    refine wpAnyZ_take (i := 3) (v := ?_) rfl (by kernel_rfl) (by kernel_rfl) (by kernel_rfl) (fun _ _ _ h => h) (Or.inl ⟨by rfl, ?_⟩) (by assumption) ?_
    rotate_left
    · (intro W hSw; (try dsimp only at hSw); go_simp <;> with_reducible rfl)
    (try simp only [Act.put])
    refine wpAnyZ_take (i := 4) (v := ?_) rfl (by kernel_rfl) (by kernel_rfl) (by kernel_rfl) (fun _ _ _ h => h) (Or.inl ⟨by rfl, ?_⟩) (by assumption) ?_
    rotate_left
    · (intro W hSw; (try dsimp only at hSw); go_simp <;> with_reducible rfl)
    (try simp only [Act.put])
    refine wpAnyZ_take (i := 5) (v := ?_) rfl (by kernel_rfl) (by kernel_rfl) (by kernel_rfl) (fun _ _ _ h => h) (Or.inl ⟨by rfl, ?_⟩) (by assumption) ?_
    rotate_left
    · (intro W hSw; (try dsimp only at hSw); go_simp <;> with_reducible rfl)
    (try simp only [Act.put])
    refine wpAnyZ_take (i := 6) (v := ?_) rfl (by kernel_rfl) (by kernel_rfl) (by kernel_rfl) (fun _ _ _ h => h) (Or.inl ⟨by rfl, ?_⟩) (by assumption) ?_
    rotate_left
    · (intro W hSw; (try dsimp only at hSw); go_simp <;> with_reducible rfl)
    (try simp only [Act.put])
    refine wpAnyZ_take (i := 7) (v := ?_) rfl (by kernel_rfl) (by kernel_rfl) (by kernel_rfl) (fun _ _ _ h => h) (Or.inl ⟨by rfl, ?_⟩) (by assumption) ?_
    rotate_left
    · (intro W hSw; (try dsimp only at hSw); go_simp <;> with_reducible rfl)
    (try simp only [Act.put])
    refine wpAnyZ_take (i := 8) (v := ?_) rfl (by kernel_rfl) (by kernel_rfl) (by kernel_rfl) (fun _ _ _ h => h) (Or.inl ⟨by rfl, ?_⟩) (by assumption) ?_
    rotate_left
    · (intro W hSw; (try dsimp only at hSw); go_simp <;> with_reducible rfl)
    (try simp only [Act.put])
    refine wpAnyZ_take (i := 9) (v := ?_) rfl (by kernel_rfl) (by kernel_rfl) (by kernel_rfl) (fun _ _ _ h => h) (Or.inl ⟨by rfl, ?_⟩) (by assumption) ?_
    rotate_left
    · (intro W hSw; (try dsimp only at hSw); go_simp <;> with_reducible rfl)
    (try simp only [Act.put])
    refine wpAnyZ_take (i := 10) (v := ?_) rfl (by kernel_rfl) (by kernel_rfl) (by kernel_rfl) (fun _ _ _ h => h) (Or.inl ⟨by rfl, ?_⟩) (by assumption) ?_
    rotate_left
    · (intro W hSw; (try dsimp only at hSw); go_simp <;> with_reducible rfl)
    (try simp only [Act.put])
    refine wpAnyZ_take (i := 11) (v := ?_) rfl (by kernel_rfl) (by kernel_rfl) (by kernel_rfl) (fun _ _ _ h => h) (Or.inl ⟨by rfl, ?_⟩) (by assumption) ?_
    rotate_left
    · (intro W hSw; (try dsimp only at hSw); go_simp <;> with_reducible rfl)
    (try simp only [Act.put])
    refine wpAnyZ_take (i := 12) (v := ?_) rfl (by kernel_rfl) (by kernel_rfl) (by kernel_rfl) (fun _ _ _ h => h) (Or.inl ⟨by rfl, ?_⟩) (by assumption) ?_
    rotate_left
    · (intro W hSw; (try dsimp only at hSw); go_simp <;> with_reducible rfl)
    (try simp only [Act.put])
    have SA := Lib.hid (S3.out.go ((Below.refl _ _).alloc (Nat.le_refl _) (.cells #[.int .i64 (brT va)] 3)))
    have BA := Lib.hid (BB.out.alloc (BB.out.size) (.cells #[.int .i64 (brT va)] 3))
    have RN := Lib.hid (rd_new wd (brT va) 3)
    refine wpAnyZ_one (i := 13) (by kernel_rfl) rfl (fun K hK => ?_)
    go_simp
    refine hK.out _ _ (KW.out _ _ (Wr.of_below ((Below.refl _ _).alloc (Nat.le_refl _) _) (Nat.le_refl _)) hHeld) (fun hHeld13 => ?_)
    clear hK K
    refine wpAnyZ_one (i := 14) (by kernel_rfl) rfl (fun K hK => ?_)
    go_simp
    go_at_call 110
    refine (implInter_any row [brT va] _ _ _ (by exact RM.out.below BA.out (Nat.le_refl _)) NM.out (by exact RN.out) (nilOk_some _ _ _) (by have := LM.out; omega) (by simp)).mono ?_
    rintro e w14 ⟨v7, rfl, o7, bb7⟩
    (first | done | go_wp2_with fail)
    refine hK.out _ _ (KW.out _ _ (Wr.of_below bb7 (Nat.le_refl _)) hHeld13) (fun hHeld14 => ?_)
    clear hK K
    have S4 := Lib.hid (SA.out.new (flat_own (by simpa using o7)).1 (flat_own o7).2 bb7)
    clear RN
    obtain ⟨A8, c8, rfl⟩ : ∃ A c, v7 = .slice A (interB row [brT va]).length c := slice_ints (S4.out.rd 0 rfl)
    have S5 := Lib.hid (show Sn W0 w14 (⟨trI (interB row [brT va]), .slice A8 (interB row [brT va]).length c8, (Value.slice A8 (interB row [brT va]).length c8).ownBlock.toList⟩ :: ⟨trSu d.md, .slice (some ⟨b9, 0, none⟩) d.md.length a3, F3⟩ :: _) from (S4.out.pick 4 rfl).pick 1 rfl)
    simp only [List.eraseIdx_cons_succ, List.eraseIdx_cons_zero] at S5
    obtain ⟨F3', h6⟩ := S5.out.putR rfl n3
    have S6 := Lib.hid h6
    obtain ⟨vsr, Gr, owr, olr, _⟩ := rowsD_raw (S5.out.own 1 rfl).1
    have hcr := owr.frozenAt n
    have hcc := owr.cellAt n (by have := owr.1; omega)
    obtain ⟨xr, hxr⟩ : ∃ x, vsr[n]? = some x := ⟨vsr[n]'(by have := owr.1; omega), List.getElem?_eq_getElem _⟩
    rw [hxr] at hcc
    clear S4 S5 h6 SA o7 bb7 owr olr hxr
    refine wpAnyZ_take (i := 15) (v := ?_) rfl (by kernel_rfl) (by kernel_rfl) (by kernel_rfl) (fun _ _ _ h => h) (Or.inl ⟨by rfl, ?_⟩) (by assumption) ?_
    rotate_left
    · (intro W hSw; (try dsimp only at hSw); go_simp <;> with_reducible rfl)
    (try simp only [Act.put])
    refine wpAnyZ_last (by kernel_rfl) (by kernel_rfl) rfl (fun K hK => ?_)
    go_simp
    refine hK.out _ _ ?_
    clear hK K
    go_wp2
    go_end0
    refine ⟨rfl, F3', ?_⟩
    rw [RES.out]
    exact ((S6.out.drop 1).pick 2 rfl).pick 2 rfl
  by_cases h4 : ki = 4
  · subst h4
    rw [rest_4] at RES
    go_wp2_with fail
    obtain ⟨_, A9, c9, he9, y9⟩ := own_rowsI (S2.out.own 3 rfl).1
    obtain ⟨b9, o9, e9, hb9, hj9⟩ := y9 n n3
    have ee9 : b9 = b3 ∧ o9 = 0 := by injection he9 with h1 h2 h3; rw [← h1] at e9; injection e9 with e9; injection e9 with x y; exact ⟨x.symm, y.symm⟩
    obtain ⟨rfl, rfl⟩ := ee9
    obtain ⟨A7, c7, hc7, rm7, nl7⟩ := hj9 n n3
    rw [Nat.zero_add] at hc7
    have RM := Lib.hid (rd_flat rm7)
    have NM := Lib.hid nl7
    have LM := Lib.hid (ZM.out n n3)
    rw [← mdD_at (d := d)] at RM NM LM hc7
    clear he9 e9 hj9 rm7 nl7 y9
    have hb8 : b9 < w2.heap.size := hb9
    have S3 := Lib.hid S2.out.drew1
    have BB := Lib.hid ((Below.refl w2.heap.size w2).drew)
    clear S2
    generalize hxx : mdD d n = row at hc7 RES RM NM LM
    have CE := Lib.hid (fun (W : World) (h : Wr [] w2.drew W) => show Hid (Wr [] w2.drew W) ∧ W.cell? ⟨g, 2, none⟩ = some (.slice (some ⟨b9, 0, none⟩) d.md.length a3) ∧ W.cell? ⟨b9, n, none⟩ = some (.slice A7 row.length c7) from ⟨Lib.hid h, (wr_cell h (p := ⟨g, 2, none⟩) hle (by simp)).trans (by exact by simpa using e2), (wr_cell h (p := ⟨b9, n, none⟩) (by show b9 < _; simpa using hb8) (by simp)).trans (by exact by simpa using hc7)⟩)
    have INIT := Lib.hid (CE.out _ (Wr.refl _ _))
    have KW := Lib.hid (fun (W2 W : World) (hb : Wr [] W W2) (h : Hid (Wr [] w2.drew W) ∧ W.cell? ⟨g, 2, none⟩ = some (.slice (some ⟨b9, 0, none⟩) d.md.length a3) ∧ W.cell? ⟨b9, n, none⟩ = some (.slice A7 row.length c7)) => CE.out W2 (h.1.out.trans hb))
    clear e0 e1 e2 ef q0 q1 q2 qf hc7 hlq hle hb8 hb9
    refine wpAnyZ_start 15 (fun W => Hid (Wr [] w2.drew W) ∧ W.cell? ⟨g, 2, none⟩ = some (.slice (some ⟨b9, 0, none⟩) d.md.length a3) ∧ W.cell? ⟨b9, n, none⟩ = some (.slice A7 row.length c7)) (by kernel_rfl) INIT.out (fun hHeld => ?_)
    clear CE INIT
    generalize hwd : w2.drew = wd at S3 KW hHeld BB ⊢
    clear hwd
    refine wpAnyZ_take (i := 0) (v := ?_) rfl (by kernel_rfl) (by kernel_rfl) (by kernel_rfl) (fun _ _ _ h => h) (Or.inl ⟨by rfl, ?_⟩) (by assumption) ?_
    rotate_left
    · (intro W hSw; (try dsimp only at hSw); go_simp <;> with_reducible rfl)
    (try simp only [Act.put])
    refine wpAnyZ_take (i := 1) (v := ?_) rfl (by kernel_rfl) (by kernel_rfl) (by kernel_rfl) (fun _ _ _ h => h) (Or.inl ⟨by rfl, ?_⟩) (by assumption) ?_
    rotate_left
    · (intro W hSw; (try dsimp only at hSw); go_simp <;> with_reducible rfl)
    (try simp only [Act.put])
    refine wpAnyZ_take (i := 2) (v := ?_) rfl (by kernel_rfl) (by kernel_rfl) (by kernel_rfl) (fun _ _ _ h => h) (Or.inl ⟨by rfl, ?_⟩) (by assumption) ?_
    rotate_left
    · (intro W hSw; (try dsimp only at hSw); go_simp <;> with_reducible rfl)
    (try simp only [Act.put])
    refine wpAnyZ_take (i := 3) (v := ?_) rfl (by kernel_rfl) (by kernel_rfl) (by kernel_rfl) (fun _ _ _ h => h) (Or.inl ⟨by rfl, ?_⟩) (by assumption) ?_
    rotate_left
    · (intro W hSw; (try dsimp only at hSw); go_simp <;> with_reducible rfl)
    (try simp only [Act.put])
    refine wpAnyZ_take (i := 4) (v := ?_) rfl (by kernel_rfl) (by kernel_rfl) (by kernel_rfl) (fun _ _ _ h => h) (Or.inl ⟨by rfl, ?_⟩) (by assumption) ?_
    rotate_left
    · (intro W hSw; (try dsimp only at hSw); go_simp <;> with_reducible rfl)
    (try simp only [Act.put])
    refine wpAnyZ_take (i := 5) (v := ?_) rfl (by kernel_rfl) (by kernel_rfl) (by kernel_rfl) (fun _ _ _ h => h) (Or.inl ⟨by rfl, ?_⟩) (by assumption) ?_
    rotate_left
    · (intro W hSw; (try dsimp only at hSw); go_simp <;> with_reducible rfl)
    (try simp only [Act.put])
    refine wpAnyZ_take (i := 6) (v := ?_) rfl (by kernel_rfl) (by kernel_rfl) (by kernel_rfl) (fun _ _ _ h => h) (Or.inl ⟨by rfl, ?_⟩) (by assumption) ?_
    rotate_left
    · (intro W hSw; (try dsimp only at hSw); go_simp <;> with_reducible rfl)
    (try simp only [Act.put])
    refine wpAnyZ_take (i := 7) (v := ?_) rfl (by kernel_rfl) (by kernel_rfl) (by kernel_rfl) (fun _ _ _ h => h) (Or.inl ⟨by rfl, ?_⟩) (by assumption) ?_
    rotate_left
    · (intro W hSw; (try dsimp only at hSw); go_simp <;> with_reducible rfl)
    (try simp only [Act.put])
    refine wpAnyZ_take (i := 8) (v := ?_) rfl (by kernel_rfl) (by kernel_rfl) (by kernel_rfl) (fun _ _ _ h => h) (Or.inl ⟨by rfl, ?_⟩) (by assumption) ?_
    rotate_left
    · (intro W hSw; (try dsimp only at hSw); go_simp <;> with_reducible rfl)
    (try simp only [Act.put])
    refine wpAnyZ_take (i := 9) (v := ?_) rfl (by kernel_rfl) (by kernel_rfl) (by kernel_rfl) (fun _ _ _ h => h) (Or.inl ⟨by rfl, ?_⟩) (by assumption) ?_
    rotate_left
    · (intro W hSw; (try dsimp only at hSw); go_simp <;> with_reducible rfl)
    (try simp only [Act.put])
    refine wpAnyZ_take (i := 10) (v := ?_) rfl (by kernel_rfl) (by kernel_rfl) (by kernel_rfl) (fun _ _ _ h => h) (Or.inl ⟨by rfl, ?_⟩) (by assumption) ?_
    rotate_left
    · (intro W hSw; (try dsimp only at hSw); go_simp <;> with_reducible rfl)
    (try simp only [Act.put])
    refine wpAnyZ_take (i := 11) (v := ?_) rfl (by kernel_rfl) (by kernel_rfl) (by kernel_rfl) (fun _ _ _ h => h) (Or.inl ⟨by rfl, ?_⟩) (by assumption) ?_
    rotate_left
    · (intro W hSw; (try dsimp only at hSw); go_simp <;> with_reducible rfl)
    (try simp only [Act.put])
    refine wpAnyZ_take (i := 12) (v := ?_) rfl (by kernel_rfl) (by kernel_rfl) (by kernel_rfl) (fun _ _ _ h => h) (Or.inl ⟨by rfl, ?_⟩) (by assumption) ?_
    rotate_left
    · (intro W hSw; (try dsimp only at hSw); go_simp <;> with_reducible rfl)
    (try simp only [Act.put])
    have BA := BB
    refine wpAnyZ_one (i := 13) (by kernel_rfl) rfl (fun K hK => ?_)
    go_simp
    go_at_call 111
    refine (implRemove_any row (brT va) _ _ (by exact RM.out.below BB.out (Nat.le_refl _)) (by have := LM.out; omega)).mono ?_
    rintro e w13 ⟨v7, rfl, o7, bb7⟩
    (first | done | go_wp2_with fail)
    refine hK.out _ _ (KW.out _ _ (Wr.of_below bb7 (Nat.le_refl _)) hHeld) (fun hHeld13 => ?_)
    clear hK K
    have S4 := Lib.hid (S3.out.new (flat_own (by simpa using o7)).1 (flat_own o7).2 bb7)
    obtain ⟨A8, c8, rfl⟩ : ∃ A c, v7 = .slice A (pickB (neB (brT va)) row).length c := slice_ints (S4.out.rd 0 rfl)
    have S5 := Lib.hid (show Sn W0 w13 (⟨trI (pickB (neB (brT va)) row), .slice A8 (pickB (neB (brT va)) row).length c8, (Value.slice A8 (pickB (neB (brT va)) row).length c8).ownBlock.toList⟩ :: ⟨trSu d.md, .slice (some ⟨b9, 0, none⟩) d.md.length a3, F3⟩ :: _) from (S4.out.pick 4 rfl).pick 1 rfl)
    simp only [List.eraseIdx_cons_succ, List.eraseIdx_cons_zero] at S5
    obtain ⟨F3', h6⟩ := S5.out.putR rfl n3
    have S6 := Lib.hid h6
    obtain ⟨vsr, Gr, owr, olr, _⟩ := rowsD_raw (S5.out.own 1 rfl).1
    have hcr := owr.frozenAt n
    have hcc := owr.cellAt n (by have := owr.1; omega)
    obtain ⟨xr, hxr⟩ : ∃ x, vsr[n]? = some x := ⟨vsr[n]'(by have := owr.1; omega), List.getElem?_eq_getElem _⟩
    rw [hxr] at hcc
    clear S4 S5 h6 o7 bb7 owr olr hxr
    refine wpAnyZ_take (i := 14) (v := ?_) rfl (by kernel_rfl) (by kernel_rfl) (by kernel_rfl) (fun _ _ _ h => h) (Or.inl ⟨by rfl, ?_⟩) (by assumption) ?_
    rotate_left
    · (intro W hSw; (try dsimp only at hSw); go_simp <;> with_reducible rfl)
    (try simp only [Act.put])
    refine wpAnyZ_last (by kernel_rfl) (by kernel_rfl) rfl (fun K hK => ?_)
    go_simp
    refine hK.out _ _ ?_
    clear hK K
    go_wp2
    go_end0
    refine ⟨rfl, F3', ?_⟩
    rw [RES.out]
    exact ((S6.out.drop 1).pick 2 rfl).pick 2 rfl
  rw [rest_o h1 h2 h3 h4] at RES
  go_wp2
  go_end0
  exact ⟨rfl, F3, by rw [RES.out]; exact S2.out.drop 0⟩
set_option maxRecDepth 100000 in
set_option maxHeartbeats 8000000 in
theorem implRestrict_any (d : Dm) (l : Lt) (v : Value) (w : World) (hd : (trDm d).rd w v) (hsz : (trDm d).sz ≤ 1048576) :
    Calls Try.prog 25 #[v, ltV l] w fun e w' => ∃ u F, e = .returned u ∧ (trDm (restD d l)).own w' w.heap.size u F ∧ F.Nodup ∧ Below w.heap.size w w' := by
  obtain ⟨ki, ac, va⟩ := l
  have HD := Lib.hid hd
  obtain ⟨D1, t1, D2, t2, D3, t3, rfl, _⟩ := rdDomain_t hd
  clear hd
  have S0 := Lib.hid ((((Sn.start w).box 40 [.slice D1 d.mn.length t1, .slice D2 d.mx.length t2, .slice D3 d.md.length t3]).box 54 [.int .i64 ki, .int .i64 ac, .int .i64 va]).box 40 [.slice none 0 0, .slice none 0 0, .slice none 0 0])
  simp only [World.size_alloc] at S0
  unfold ltV
  go_enter Try.func25, Try.ntmps25
  go_wp2_with fail
  refine (copyD_any d _ _ (by exact S0.out.old HD.out) hsz).mono ?_
  rintro e w1 ⟨u1, G1, rfl, o1, h1, b1⟩
  obtain ⟨X0, x0, X1, x1, X2, x2, rfl, _⟩ := rdDomain_t (Tr.own_rd _ _ _ o1)
  obtain ⟨F1, F2, F3, hS⟩ := (S0.out.new o1 h1 b1).undom
  have S1 := Lib.hid (hS.box 40 [.slice X0 d.mn.length x0, .slice X1 d.mx.length x1, .slice X2 d.md.length x2])
  have S2 := Lib.hid (((S1.out.pick 3 rfl).pick 3 rfl).pick 3 rfl)
  simp only [List.eraseIdx_cons_succ, List.eraseIdx_cons_zero] at S2
  clear S0 o1 h1 b1 hS S1
  obtain ⟨q0, q1, q2, qf⟩ := (S2.out.bk 5 rfl).c3
  go_wp2_with fail
  clear q0 q1 q2 qf
  refine (inPlace_any d ⟨ki, ac, va⟩ _ _ _ _ _ _ _ _ _ _ _ _ _ hsz S2.out).mono ?_
  rintro e w2 ⟨rfl, F4, hS⟩
  have S3 := Lib.hid hS
  clear hS S2
  obtain ⟨q0, q1, q2, qf⟩ := (S3.out.bk 4 rfl).c3
  obtain ⟨e0, e1, e2, ef⟩ := (S3.out.bk 3 rfl).c3
  have hgr : w1.heap.size ≠ w.heap.size + 1 + 1 := fun e => S3.out.2.apart (i := 3) (j := 4) rfl rfl (by omega) w1.heap.size (by simp [boxI]) (by simp [boxI, e])
  go_wp2
  have SZ := ((S3.out.boxSet 4 rfl 0 (.slice X0 d.mn.length x0)).boxSet 4 rfl 1 (.slice X1 d.mx.length x1)).boxSet 4 rfl 2 (.slice X2 d.md.length x2)
  have P := SZ.nil0
  have P := (P.pick 3 rfl).pack
  have P := (P.pick 2 rfl).pack
  have P := (P.pick 1 rfl).pack
  refine bodyPost_ret (v := .agg #[.slice X0 d.mn.length x0, .slice X1 d.mx.length x1, .slice X2 d.md.length x2]) (by simp [results, Try.results25, go_sem, q0, q1, q2]) rfl (by first | exact ⟨_, _, rfl, (P.own 0 rfl).1, (P.own 0 rfl).2, SZ.1⟩ | exact ⟨_, (P.own 0 rfl).1, (P.own 0 rfl).2, SZ.1⟩ | exact ⟨_, rfl, _, (P.own 0 rfl).1, (P.own 0 rfl).2, SZ.1⟩)
end Go.Proofs.Ytdbnhdiboemmiaa
