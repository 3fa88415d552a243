/- DERIVED. CONTRACTS of the model: TailLength, LatestStarts, CriticalActivities. -/
import Derived.Test.YtoggakfkpeloiaaGreatDsQ
namespace Go.Proofs.YtoggakfkpeloiaaGreat
open Go.RowKit Go.Shelf
set_option linter.unusedVariables false

set_option maxRecDepth 100000 in
set_option maxHeartbeats 8000000 in
theorem specTail_any (p : Pj) (t : Int) (v : Value) (w : World) (hv : (trPj p).rd w v) (hk : (trPj p).ok) :
    Calls Tryz.prog 32 #[v, .int .i64 t] w fun e w' => e = .returned (.int .i64 (tailB p t)) ∧ Below w.heap.size w w' := by
  have HV := Lib.hid hv
  obtain ⟨A1, c1, A2, c2, A3, c3, A4, c4, rfl, r1, r2, r3, r4⟩ := rdProject_t hv
  clear hv r1 r2 r3 r4
  have HK := Lib.hid hk
  clear hk
  have S0 := Lib.hid ((Sn.start w).box 35 [.int .i64 p.dl, .slice A1 p.acts.length c1, .slice A2 p.lks.length c2, .slice A3 p.ress.length c3, .slice A4 p.stk.length c4])
  have HOUT := Lib.hid (tailB_out (p := p) (a := t))
  have HIN := Lib.hid (fun a h => tailB_eq (p := p) (a := a) h)
  go_enter Tryz.func32, Tryz.ntmps32
  obtain ⟨e0, e1, e2, e3, e4, ef⟩ := (S0.out.bk 0 rfl).c5
  go_wp2_with fail
  clear e0 e1 e2 e3 e4 ef
  refine (specDistances_any p _ _ (by exact S0.out.old HV.out) HK.out).mono ?_
  rintro e w1 ⟨u1, F1, rfl, o1, hn1, b1⟩
  obtain ⟨A, c, rfl⟩ := rows_slice (Tr.own_rd _ _ _ o1)
  have S1 := Lib.hid (S0.out.new o1 hn1 b1)
  have hD := distL_eq p
  have hl := tabL_len (nD p) (distT p)
  rw [hD, hl] at S1 ⊢
  have h6 := nD_six p
  have hle := nD_le p
  clear o1 hn1 b1 S0 hD hl
  generalize nD p = N at S1 h6 hle HOUT HIN ⊢
  generalize distT p = D at S1 HIN ⊢
  by_cases hin : 0 ≤ t ∧ t < (N : Int)
  · obtain ⟨a, rfl⟩ : ∃ a : Nat, t = (a : Int) := ⟨t.toNat, by omega⟩
    have ha : a < N := by omega
    have ha' : (a : Int) < (N : Int) := by omega
    have ha0 : (0 : Int) ≤ (a : Int) := by omega
    have HS := Lib.hid (HIN.out a ha)
    have hb : (decide ((0 : Int) ≤ (a : Int)) && decide ((a : Int) ≤ (N : Int) - 1)) = true := by simp; omega
    clear HOUT HIN hin
    go_wp2_with fail
    refine (l01In_any (a : Int) 0 ((N : Int) - 1) _).mono ?_
    rintro e w2 ⟨rfl, h2⟩
    obtain rfl := h2
    rw [hb]
    go_wp2
    go_loopw [6, 18] (fun s i wr => ∃ k : Nat, k ≤ N ∧ i = .int .i64 k ∧ s = .int .i64 (tailS D (shortA p) a k) ∧ Sn w wr [⟨trSu (tabL N D), .slice A N c, F1⟩, boxI w.heap.size 35 [.int .i64 p.dl, .slice A1 p.acts.length c1, .slice A2 p.lks.length c2, .slice A3 p.ress.length c3, .slice A4 p.stk.length c4]]) (fun _ i _ => N - (intOf i).toNat)
    case atStart => exact ⟨0, Nat.zero_le _, rfl, rfl, S1.out⟩
    case round =>
      obtain ⟨k, hkl, rfl, rfl, hS⟩ := hrel
      have S2 := Lib.hid hS
      clear hS S1
      by_cases hlt : k < N
      · have hlt' : (k : Int) < (N : Int) := by omega
        have hk0 : (0 : Int) ≤ (k : Int) := by omega
        have NX := Lib.hid (show tailS D (shortA p) a (k + 1) = (if D a k = -1000 then tailS D (shortA p) a k else max (tailS D (shortA p) a k) (wrap64 (D a k + shortA p k))) from rfl)
        obtain ⟨g, rfl, hgl, hrow⟩ := S2.out.tab (by omega)
        obtain ⟨b, cb, hc1, hbl, _, _, hin⟩ := hrow a ha
        obtain ⟨hc2, _, _⟩ := hin k hlt
        clear hrow hin
        generalize tailS D (shortA p) a k = s at NX ⊢
        generalize D a k = z at NX hc2
        have SH := Lib.hid (fun v w hv => specShort_any p k v w hv (by omega))
        generalize shortA p k = d at NX SH
        by_cases hz : z = -1000
        · have NQ := Lib.hid (NX.out.trans (if_pos hz))
          subst hz
          clear NX
          go_wp2
          go_roundw
          case rel => exact ⟨k + 1, by omega, by go_num, by rw [NQ.out], S2.out⟩
          case measure => simp [intOf]; omega
        · have NQ := Lib.hid (NX.out.trans (if_neg hz))
          have hz' : (z != -1000) = true := by simp; omega
          clear NX hz
          go_wp2_with fail
          obtain ⟨e0, e1, e2, e3, e4, ef⟩ := (S2.out.bk 1 rfl).c5
          have hpl := (S2.out.bk 1 rfl).lt
          have CE := Lib.hid (fun (W : World) (h : Below wr.heap.size wr W) => show Hid (Below wr.heap.size wr W) ∧ W.cell? ⟨w.heap.size, 0, none⟩ = some (.int .i64 p.dl) ∧ W.cell? ⟨w.heap.size, 1, none⟩ = some (.slice A1 p.acts.length c1) ∧ W.cell? ⟨w.heap.size, 2, none⟩ = some (.slice A2 p.lks.length c2) ∧ W.cell? ⟨w.heap.size, 3, none⟩ = some (.slice A3 p.ress.length c3) ∧ W.cell? ⟨w.heap.size, 4, none⟩ = some (.slice A4 p.stk.length c4) ∧ W.cell? ⟨g, a, none⟩ = some (.slice (some ⟨b, 0, none⟩) N cb) ∧ W.cell? ⟨b, k, none⟩ = some (.int .i64 z) from ⟨Lib.hid h, (h.cell (p := ⟨w.heap.size, 0, none⟩) hpl).trans e0, (h.cell (p := ⟨w.heap.size, 1, none⟩) hpl).trans e1, (h.cell (p := ⟨w.heap.size, 2, none⟩) hpl).trans e2, (h.cell (p := ⟨w.heap.size, 3, none⟩) hpl).trans e3, (h.cell (p := ⟨w.heap.size, 4, none⟩) hpl).trans e4, (h.cell (p := ⟨g, a, none⟩) hgl).trans hc1, (h.cell (p := ⟨b, k, none⟩) hbl).trans hc2⟩)
          have INIT := Lib.hid (CE.out _ (Below.refl _ _).drew)
          have KEEP := Lib.hid (fun (W2 W : World) (hb2 : Below W.heap.size W W2) (h : Hid (Below wr.heap.size wr W) ∧ W.cell? ⟨w.heap.size, 0, none⟩ = some (.int .i64 p.dl) ∧ W.cell? ⟨w.heap.size, 1, none⟩ = some (.slice A1 p.acts.length c1) ∧ W.cell? ⟨w.heap.size, 2, none⟩ = some (.slice A2 p.lks.length c2) ∧ W.cell? ⟨w.heap.size, 3, none⟩ = some (.slice A3 p.ress.length c3) ∧ W.cell? ⟨w.heap.size, 4, none⟩ = some (.slice A4 p.stk.length c4) ∧ W.cell? ⟨g, a, none⟩ = some (.slice (some ⟨b, 0, none⟩) N cb) ∧ W.cell? ⟨b, k, none⟩ = some (.int .i64 z)) => CE.out W2 (h.1.out.trans (hb2.mono h.1.out.size)))
          have KSAME := Lib.hid (fun (W : World) (h : Hid (Below wr.heap.size wr W) ∧ W.cell? ⟨w.heap.size, 0, none⟩ = some (.int .i64 p.dl) ∧ W.cell? ⟨w.heap.size, 1, none⟩ = some (.slice A1 p.acts.length c1) ∧ W.cell? ⟨w.heap.size, 2, none⟩ = some (.slice A2 p.lks.length c2) ∧ W.cell? ⟨w.heap.size, 3, none⟩ = some (.slice A3 p.ress.length c3) ∧ W.cell? ⟨w.heap.size, 4, none⟩ = some (.slice A4 p.stk.length c4) ∧ W.cell? ⟨g, a, none⟩ = some (.slice (some ⟨b, 0, none⟩) N cb) ∧ W.cell? ⟨b, k, none⟩ = some (.int .i64 z)) => h)
          have S3 := Lib.hid S2.out.drew1
          clear CE e0 e1 e2 e3 e4 ef hpl hgl hbl hc1 hc2 S2 hz'
          go_region_held3 (fun W => Hid (Below wr.heap.size wr W) ∧ W.cell? ⟨w.heap.size, 0, none⟩ = some (.int .i64 p.dl) ∧ W.cell? ⟨w.heap.size, 1, none⟩ = some (.slice A1 p.acts.length c1) ∧ W.cell? ⟨w.heap.size, 2, none⟩ = some (.slice A2 p.lks.length c2) ∧ W.cell? ⟨w.heap.size, 3, none⟩ = some (.slice A3 p.ress.length c3) ∧ W.cell? ⟨w.heap.size, 4, none⟩ = some (.slice A4 p.stk.length c4) ∧ W.cell? ⟨g, a, none⟩ = some (.slice (some ⟨b, 0, none⟩) N cb) ∧ W.cell? ⟨b, k, none⟩ = some (.int .i64 z)) (first | exact INIT.out | exact KEEP.out _ _ (by assumption) (by assumption) | exact KSAME.out _ (by assumption))
            (first
              | (go_at_call 56; refine (SH.out _ _ (by exact S3.out.old HV.out)).mono ?_; rintro e w5 ⟨rfl, b5⟩; have S5 := Lib.hid (S3.out.go b5))
              | (go_at_call 53; refine (max_any s _ _).mono ?_; rintro e w6 ⟨rfl, h6⟩; subst h6))
          clear INIT KEEP KSAME S3
          go_wp2
          go_roundw
          case rel => exact ⟨k + 1, by omega, by go_num, by rw [NQ.out]; first | rfl | rw [IntWalk.i64_left], S5.out⟩
          case measure => simp [intOf]; omega
      · have hge : ¬ (k : Int) < (N : Int) := by omega
        obtain rfl : k = N := by omega
        go_wp2
        go_ret
        exact ⟨by rw [HS.out] <;> rfl, S2.out.1⟩
  · have HS := Lib.hid (HOUT.out hin)
    have hb : (decide ((0 : Int) ≤ t) && decide (t ≤ (N : Int) - 1)) = false := by simp; omega
    clear HOUT HIN hin
    go_wp2_with fail
    refine (l01In_any t 0 ((N : Int) - 1) _).mono ?_
    rintro e w2 ⟨rfl, h2⟩
    obtain rfl := h2
    rw [hb]
    go_wp2
    go_ret
    exact ⟨by rw [HS.out] <;> rfl, S1.out.1⟩

end Go.Proofs.YtoggakfkpeloiaaGreat
