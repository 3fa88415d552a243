/- DERIVED. CONTRACT: slices.Compact at literals. -/
import Derived.Test.YtgbpomakomddjabGreatDoorRwT
import Derived.Test.YtgbpomakomddjabGreatDoorClS0
import Derived.Test.YtgbpomakomddjabGreatDoorClE
import Derived.Lib.SliceRun
namespace Go.Proofs.YtgbpomakomddjabGreatDoor
open Go.RowKit Go.Shelf
set_option linter.unusedVariables false

def zero3 (n : Nat) : List Value := (Builtin.zeroCells #[.int .i64 0, .int .i64 0, .int .i64 0] n).toList
theorem zero3_len (n : Nat) : (zero3 n).length = n * 3 := by simp [zero3, Builtin.zeroCells]
theorem zero3_one (n : Nat) : ∀ v ∈ zero3 n, v.oneCell' = true := by
  intro v hv
  simp only [zero3, Builtin.zeroCells, Array.toList_map, List.mem_map] at hv
  obtain ⟨i, _, rfl⟩ := hv
  have : i % 3 = 0 ∨ i % 3 = 1 ∨ i % 3 = 2 := by omega
  rcases this with h | h | h <;> simp [h, Value.oneCell']
theorem run_clear3 {P : Program} (w : World) (t e ty : TypeId) (ht : P.underlying t = some (.slice e)) (hv : ∀ w, (zeroValue e).run P w = .ok (.agg #[.int .i64 0, .int .i64 0, .int .i64 0]) w) (b o n c : Nat) (hn : 0 < n)
    (hc : ∀ j, j < n * 3 → (w.cell? ⟨b, o + j, none⟩).isSome = true) (hf : ∀ j, j < n * 3 → w.frozen? ⟨b, o + j, none⟩ = false) :
    (Builtin.clear_ #[t] ty #[.slice (some ⟨b, o, none⟩) n c]).run P w = .ok (.tuple #[]) (w.setCells b o (zero3 n)) := by
  have hst := run_storeCells_cells (P := P) b o (zero3 n) 0 w (by rw [zero3_len]; simpa using hc) (by rw [zero3_len]; simpa using hf) (zero3_one n)
  simp only [Nat.add_zero] at hst
  obtain ⟨m, rfl⟩ : ∃ m, n = m + 1 := ⟨n - 1, by omega⟩
  unfold zero3 at hst ⊢
  simp [Builtin.clear_, run_underlying ht, hv, hst, Value.cells]
theorem uK_lt {s : List Lt} {a : Nat} (h : kpL s a = false) : ∀ d, (uK s (a + 1 + d)).length ≤ a + d
  | 0 => by rw [Nat.add_zero, uK_skip h]; exact uK_len s a
  | d + 1 => by
    have := uK_lt h d
    rw [← Nat.add_assoc]
    conv => lhs; unfold uK
    split
    · simp; omega
    · omega
theorem compactNil_any (w : World) (c : Nat) : Calls Tryz.prog 94 #[.slice none 0 c] w fun e w' => e = .returned (.slice none 0 c) ∧ w = w' := by
  go_enter Tryz.func94, Tryz.ntmps94
  go_wp2
  go_ret
  exact ⟨rfl, rfl⟩
set_option maxRecDepth 100000 in
set_option maxHeartbeats 8000000 in
theorem compactT_any (l : List Lt) (g c B : Nat) (w : World) (ho : w.ownsRow B 55 3 (.slice (some ⟨g, 0, none⟩) l.length c) l.length (cells3 l)) (hlen : l.length ≤ 1073741824) (hcap : l.length ≤ c) :
    Calls Tryz.prog 94 #[.slice (some ⟨g, 0, none⟩) l.length c] w fun e w' => e = .returned (.slice (some ⟨g, 0, none⟩) (uniqL l).length c) ∧ w'.ownsRow B 55 3 (.slice (some ⟨g, 0, none⟩) (uniqL l).length c) (uniqL l).length (cells3 (uniqL l)) ∧ Wr [g] w w' := by
  have HO := Lib.hid ho
  clear ho
  by_cases h2 : l.length < 2
  · have hz : (l.length : Int) < 2 := by omega
    have HU := Lib.hid (uniq_short h2)
    go_enter Tryz.func94, Tryz.ntmps94
    go_wp2
    go_ret
    rw [HU.out]
    exact ⟨rfl, HO.out, Wr.refl _ _⟩
  · have hz : ¬ (l.length : Int) < 2 := by omega
    have C0 := Lib.hid (fun j (hj : j < l.length) => show w.cell? ⟨g, j * 3, none⟩ = some (.int .i64 l[j].ki) ∧ w.cell? ⟨g, j * 3 + 1, none⟩ = some (.int .i64 l[j].ac) ∧ w.cell? ⟨g, j * 3 + 2, none⟩ = some (.int .i64 l[j].va) from
      ⟨cellN_at HO.out (cells3_at l j hj).1, cellN_at HO.out (cells3_at l j hj).2.1, cellN_at HO.out (cells3_at l j hj).2.2⟩)
    go_enter Tryz.func94, Tryz.ntmps94
    go_wp2
    go_loopw [3] (fun i wr => ∃ k n : Nat, 1 ≤ k ∧ k ≤ l.length ∧ i = .int .i64 k ∧ wr = w.drewN n ∧ ∀ j, j < k → kpL l j = true) (fun i _ => l.length - (intOf i).toNat)
    case atStart => exact ⟨1, 0, Nat.le_refl _, by omega, rfl, rfl, fun j hj => by obtain rfl : j = 0 := (by omega); exact kpL_zero l⟩
    case round =>
      obtain ⟨k, n, hk1, hk, rfl, rfl, hall⟩ := hrel
      have HALL := Lib.hid hall
      clear hall
      by_cases hlt : k < l.length
      · obtain ⟨m, hkm⟩ : ∃ m, k = m + 1 := ⟨k - 1, by omega⟩
        have hlt' : (k : Int) < (l.length : Int) := by omega
        have hm' : (m : Int) < (l.length : Int) := by omega
        have m0 : (0 : Int) ≤ (m : Int) := by omega
        have hwm : IntKind.i64.wrap ((k : Int) - 1) = (m : Int) := by rw [IntKind.wrap_i64]; omega
        have HE9 := Lib.hid (show k - 1 = m by omega)
        have HK0 := Lib.hid (show 0 < k by omega)
        have hml : m < l.length := by omega
        clear hkm
        obtain ⟨x0, x1, x2⟩ := C0.out k hlt
        obtain ⟨y0, y1, y2⟩ := C0.out m hml
        by_cases he : l[k] = l[m]
        · have KN := Lib.hid (kpL_no hlt HK0.out (by simp only [HE9.out]; exact he))
          rw [he] at x0 x1 x2
          generalize hlm : l[m] = z at x0 x1 x2 y0 y1 y2
          clear hlm he
          go_wp2_with fail
          go_quiet (fail)
          clear x0 x1 x2 y0 y1 y2
          have hsl : (k : Int) ≤ (l.length : Int) := by omega
          have hsc : (l.length : Int) ≤ (c : Int) := by omega
          go_wp2
          generalize hwd : w.drewN (n + nq) = wd
          have OD := Lib.hid (show wd.ownsRow B 55 3 (.slice (some ⟨g, 0, none⟩) l.length c) l.length (cells3 l) from hwd ▸ HO.out)
          have WD := Lib.hid (show Wr [g] w wd from hwd ▸ Wr.of_below (below_drewN' w (n + nq)) (Nat.le_refl _))
          clear hwd
          go_loopw [3, 5] (fun s i wr => ∃ k2 : Nat, 1 ≤ k2 ∧ k + k2 ≤ l.length ∧ s = .int .i64 ((uK l (k + k2)).length : Nat) ∧ i = .int .i64 k2 ∧ wr.ownsRow B 55 3 (.slice (some ⟨g, 0, none⟩) l.length c) l.length (cells3 (midU l (k + k2))) ∧ Wr [g] w wr) (fun _ i _ => l.length - (intOf i).toNat)
          case atStart =>
            refine ⟨1, Nat.le_refl _, by omega, ?_, rfl, ?_, WD.out⟩
            · rw [uK_skip KN.out, uK_all k (by omega) HALL.out, List.length_take, Nat.min_eq_left (by omega)]
            · rw [midU_skip KN.out, midU_start (by omega) HALL.out]
              exact OD.out
          case round =>
            obtain ⟨k2, hk21, hq, rfl, rfl, hown, hwr⟩ := hrel
            have OW := Lib.hid (And.intro hown hwr)
            clear hown hwr
            obtain ⟨j, hkj⟩ : ∃ j, k2 = j + 1 := ⟨k2 - 1, by omega⟩
            have HKJ := Lib.hid hkj
            have hu := Lib.hid (uK_lt KN.out j)
            rw [show k + 1 + j = k + k2 from by omega] at hu
            have hML := Lib.hid (midU_len hq)
            by_cases hlt2 : k + k2 < l.length
            · have c2 : (k2 : Int) < ((l.length - k : Nat) : Int) := by omega
              have c3 : (j : Int) < ((l.length - k : Nat) : Int) := by omega
              have j0 : (0 : Int) ≤ (j : Int) := by omega
              have hwj : IntKind.i64.wrap ((k2 : Int) - 1) = (j : Int) := by rw [IntKind.wrap_i64]; omega
              have hjl : k + j < l.length := by omega
              have HE8 := Lib.hid (show k + k2 - 1 = k + j by omega)
              have HKP := Lib.hid (show 0 < k + k2 by omega)
              clear hkj
              have hx := cells3_at (midU l (k + k2)) (k + k2) (by rw [hML.out]; omega)
              have hy := cells3_at (midU l (k + k2)) (k + j) (by rw [hML.out]; omega)
              rw [midU_high hlt2 (by have := hu.out; have := HKJ.out; omega) hq] at hx
              rw [midU_high hjl hu.out hq] at hy
              obtain ⟨o0, o1, o2, hz3⟩ : ∃ o0 o1 o2, (cells3 (midU l (k + k2)))[(uK l (k + k2)).length * 3]? = some o0 ∧ (cells3 (midU l (k + k2)))[(uK l (k + k2)).length * 3 + 1]? = some o1 ∧ (cells3 (midU l (k + k2)))[(uK l (k + k2)).length * 3 + 2]? = some o2 := ⟨_, _, _, cells3_at (midU l (k + k2)) (uK l (k + k2)).length (by rw [hML.out]; have := hu.out; omega)⟩
              have PUT := Lib.hid (fun (W : World) (h : W.ownsRow B 55 3 (.slice (some ⟨g, 0, none⟩) l.length c) l.length (cells3 (midU l (k + k2)))) => ownsRow_put3 h (show (uK l (k + k2)).length < (midU l (k + k2)).length by rw [hML.out]; have := hu.out; omega) l[k + k2])
              have KY := Lib.hid (fun h => midU_keep (s := l) hlt2 h)
              have KU := Lib.hid (fun h => uK_keep (s := l) (m := k + k2) h)
              have SN := Lib.hid (fun h => midU_skip (s := l) (m := k + k2) h)
              have SU := Lib.hid (fun h => uK_skip (s := l) (m := k + k2) h)
              have KNE := Lib.hid (fun (h : l[k + k2] ≠ l[k + k2 - 1]) => kpL_yes hlt2 HKP.out h)
              have KEQ := Lib.hid (fun (h : l[k + k2] = l[k + k2 - 1]) => kpL_no hlt2 HKP.out h)
              simp only [HE8.out] at KNE KEQ
              generalize midU l (k + k2) = M at OW hML hx hy hz3 PUT KY SN
              generalize hU : (uK l (k + k2)).length = u at hu hz3 PUT KY ⊢
              have HU := Lib.hid hU
              clear hU
              have hu := hu.out
              have x0 := cellN_at OW.out.1 hx.1
              have x1 := cellN_at OW.out.1 hx.2.1
              have x2 := cellN_at OW.out.1 hx.2.2
              have y0 := cellN_at OW.out.1 hy.1
              have y1 := cellN_at OW.out.1 hy.2.1
              have y2 := cellN_at OW.out.1 hy.2.2
              rw [show (k + k2) * 3 = k * 3 + k2 * 3 from by omega] at x0 x1 x2
              rw [show (k + j) * 3 = k * 3 + j * 3 from by omega] at y0 y1 y2
              have hul : (u : Int) < (l.length : Int) := by omega
              have u0 : (0 : Int) ≤ (u : Int) := by omega
              have z0 := cellN_at OW.out.1 hz3.1
              have z1 := cellN_at OW.out.1 hz3.2.1
              have z2 := cellN_at OW.out.1 hz3.2.2
              have f0 := frozenN_at OW.out.1 (u * 3)
              have f1 := frozenN_at OW.out.1 (u * 3 + 1)
              have f2 := frozenN_at OW.out.1 (u * 3 + 2)
              have hwu : IntKind.i64.wrap ((u : Int) + 1) = ((u + 1 : Nat) : Int) := by rw [IntKind.wrap_i64]; omega
              clear hx hy hz3
              by_cases he : l[k + k2] = l[k + j]
              · have KE := Lib.hid (KEQ.out he)
                rw [he] at x0 x1 x2
                clear he KNE KEQ PUT KY KU
                generalize l[k + j] = z at x0 x1 x2 y0 y1 y2
                obtain ⟨a0, a1, a2⟩ := z
                clear z0 z1 z2 f0 f1 f2
                go_wp2_with fail
                go_quiet (fail)
                go_wp2
                go_roundw
                case rel => exact ⟨k2 + 1, by omega, by omega, by rw [show k + (k2 + 1) = k + k2 + 1 from by omega, SU.out KE.out, HU.out], by go_num, by rw [show k + (k2 + 1) = k + k2 + 1 from by omega, SN.out KE.out]; exact OW.out.1, OW.out.2.trans (Wr.of_below (below_drewN' _ _) (Nat.le_refl _))⟩
                case measure => simp [intOf]; omega
              · have KE := Lib.hid (KNE.out he)
                clear KNE KEQ SN SU
                generalize l[k + k2] = x at x0 x1 x2 he PUT KY KU
                generalize l[k + j] = y at y0 y1 y2 he
                have KL := Lib.hid (show (uK l (k + (k2 + 1))).length = u + 1 from by rw [show k + (k2 + 1) = k + k2 + 1 from by omega, KU.out KE.out, List.length_append, HU.out]; rfl)
                have KM := Lib.hid (show midU l (k + (k2 + 1)) = M.set u x from by rw [show k + (k2 + 1) = k + k2 + 1 from by omega]; exact KY.out KE.out)
                clear KU KY
                obtain ⟨a0, a1, a2⟩ := x
                obtain ⟨b0, b1, b2⟩ := y
                rcases lt_ne he with h0 | ⟨rfl, h0⟩ | ⟨rfl, rfl, h0⟩
                · have h1 : (a0 == b0) = false := by simpa using h0
                  have h2 : (a0 != b0) = true := by simpa using h0
                  clear he h0
                  go_wp2_with fail
                  go_quiet (fail)
                  go_wp2
                  go_roundw
                  case rel =>
                    refine ⟨k2 + 1, by omega, by omega, ?_, by go_num, ?_, ?_⟩
                    · rw [KL.out]; first | rfl | go_num
                    · rw [KM.out]; exact PUT.out (wr.drewN nq) OW.out.1
                    · exact OW.out.2.trans ((Wr.of_below (below_drewN' wr nq) (Nat.le_refl _)).trans (wr_setCells (g := g) (List.mem_singleton.2 rfl) (encLt ⟨a0, a1, a2⟩) (u * 3) (wr.drewN nq)))
                  case measure => simp [intOf]; omega
                · have h1 : (a1 == b1) = false := by simpa using h0
                  have h2 : (a1 != b1) = true := by simpa using h0
                  clear he h0
                  go_wp2_with fail
                  go_quiet (fail)
                  go_wp2
                  go_roundw
                  case rel =>
                    refine ⟨k2 + 1, by omega, by omega, ?_, by go_num, ?_, ?_⟩
                    · rw [KL.out]; first | rfl | go_num
                    · rw [KM.out]; exact PUT.out (wr.drewN nq) OW.out.1
                    · exact OW.out.2.trans ((Wr.of_below (below_drewN' wr nq) (Nat.le_refl _)).trans (wr_setCells (g := g) (List.mem_singleton.2 rfl) (encLt ⟨a0, a1, a2⟩) (u * 3) (wr.drewN nq)))
                  case measure => simp [intOf]; omega
                · have h1 : (a2 == b2) = false := by simpa using h0
                  have h2 : (a2 != b2) = true := by simpa using h0
                  clear he h0
                  go_wp2_with fail
                  go_quiet (fail)
                  go_wp2
                  go_roundw
                  case rel =>
                    refine ⟨k2 + 1, by omega, by omega, ?_, by go_num, ?_, ?_⟩
                    · rw [KL.out]; first | rfl | go_num
                    · rw [KM.out]; exact PUT.out (wr.drewN nq) OW.out.1
                    · exact OW.out.2.trans ((Wr.of_below (below_drewN' wr nq) (Nat.le_refl _)).trans (wr_setCells (g := g) (List.mem_singleton.2 rfl) (encLt ⟨a0, a1, a2⟩) (u * 3) (wr.drewN nq)))
                  case measure => simp [intOf]; omega
            · have hend : k + k2 = l.length := by omega
              have c2 : ¬ (k2 : Int) < ((l.length - k : Nat) : Int) := by omega
              rw [hend] at OW hML hu ⊢
              clear hkj
              have HT := Lib.hid (midU_end l)
              have HUU := Lib.hid (show uK l l.length = uniqL l from rfl)
              have hcl0 := Lib.hid (fun ty (n c' o : Nat) (hn : 0 < n) (ho : o + n * 3 ≤ l.length * 3) => run_clear3 (P := Tryz.prog) wr 38 55 ty Tryz.underlying38 Tryz.zeroValue55 g o n c' hn (fun i hi => by
                rw [cellN_at OW.out.1 (List.getElem?_eq_getElem (show o + i < (cells3 (midU l l.length)).length by rw [cells3_len, hML.out]; omega))]; rfl) (fun i hi => frozenN_at OW.out.1 (o + i)))
              have hu2 : (uniqL l).length < l.length := by rw [← HUU.out]; have := hu.out; have := HKJ.out; omega
              rw [HUU.out]
              clear hu
              generalize hU : (uniqL l).length = u at hu2 HT ⊢
              have HU := Lib.hid hU
              clear hU
              have hcl := fun ty => hcl0.out ty (l.length - u) (c - u) (u * 3) (by omega) (by omega)
              have e1 : (u : Int) ≤ (l.length : Int) := by omega
              have e2 : (l.length : Int) ≤ (c : Int) := by omega
              have e3 : (u : Int) ≤ (c : Int) := by omega
              have e4 : (0 : Int) ≤ (u : Int) := by omega
              go_wp2
              go_ret
              have S := ownsRow_tail (zero3 (l.length - u)) (u * 3) _ (ownsRow_shrink OW.out.1 (show u ≤ l.length by omega)) (Nat.le_refl _)
              rw [cells3_take, HT.out] at S
              rw [HU.out]
              exact ⟨rfl, S, OW.out.2.trans (wr_setCells (by simp) _ _ _)⟩
        · have KY := Lib.hid (kpL_yes hlt HK0.out (by simp only [HE9.out]; exact he))
          have STEP := Lib.hid (show ∀ j, j < k + 1 → kpL l j = true from fun j hj => by
            by_cases e : j = k
            · subst e; exact KY.out
            · exact HALL.out j (by omega))
          generalize l[k] = x at x0 x1 x2 he
          generalize l[m] = y at y0 y1 y2 he
          obtain ⟨a0, a1, a2⟩ := x
          obtain ⟨b0, b1, b2⟩ := y
          rcases lt_ne he with h0 | ⟨rfl, h0⟩ | ⟨rfl, rfl, h0⟩
          · have h1 : (a0 == b0) = false := by simpa using h0
            clear he h0
            go_wp2_with fail
            go_quiet (fail)
            go_wp2
            go_roundw
            case rel => exact ⟨k + 1, n + nq, by omega, by omega, by go_num, rfl, STEP.out⟩
            case measure => simp [intOf]; omega
          · have h1 : (a1 == b1) = false := by simpa using h0
            clear he h0
            go_wp2_with fail
            go_quiet (fail)
            go_wp2
            go_roundw
            case rel => exact ⟨k + 1, n + nq, by omega, by omega, by go_num, rfl, STEP.out⟩
            case measure => simp [intOf]; omega
          · have h1 : (a2 == b2) = false := by simpa using h0
            clear he h0
            go_wp2_with fail
            go_quiet (fail)
            go_wp2
            go_roundw
            case rel => exact ⟨k + 1, n + nq, by omega, by omega, by go_num, rfl, STEP.out⟩
            case measure => simp [intOf]; omega
      · have hge : ¬ (k : Int) < (l.length : Int) := by omega
        obtain rfl : k = l.length := by omega
        have HU := Lib.hid (uniq_all HALL.out)
        go_wp2
        go_ret
        rw [HU.out]
        exact ⟨rfl, HO.out, Wr.of_below (below_drewN' w n) (Nat.le_refl _)⟩
end Go.Proofs.YtgbpomakomddjabGreatDoor
