/- DERIVED. CONTRACTS of the laws' helpers: markModeS, markActivity. -/
import Derived.Test.YtlnbkhfjbpnbfaaModT
import Derived.Test.YtlnbkhfjbpnbfaaSn
namespace Go.Proofs.Ytlnbkhfjbpnbfaa
open Go.RowKit

def marksZ (k n : Nat) : List Int := (List.range n).map fun i => ((k + i : Nat) : Int)
theorem marksZ_I (k n : Nat) : marksI k n = (marksZ k n).map (.int .i64) := by simp [marksI, marksZ, mkI, Function.comp_def]
theorem marksZ_len (k n : Nat) : (marksZ k n).length = n := by simp [marksZ]
def markedM (k : Nat) (m : Md) : Md := ⟨(k : Int), marksZ (k + 1) m.us.length, marksZ (k + 1 + m.us.length) m.co.length⟩
def markedMs : Nat → List Md → List Md
  | _, [] => []
  | k, m :: ms => markedM k m :: markedMs (k + 1 + szM m) ms
theorem markedMs_len : ∀ (ms : List Md) (k : Nat), (markedMs k ms).length = ms.length
  | [], _ => rfl
  | m :: ms, k => by simp [markedMs, markedMs_len ms]
theorem szMs_cons (m : Md) (ms : List Md) : szMs (m :: ms) = szM m + szMs ms := by simp [szMs]
theorem markedMs_snoc (m : Md) : ∀ (ms : List Md) (k : Nat), markedMs k (ms ++ [m]) = markedMs k ms ++ [markedM (k + ms.length + szMs ms) m]
  | [], k => by simp [markedMs, szMs]
  | x :: ms, k => by
    simp only [List.cons_append, markedMs, markedMs_snoc m ms, List.length_cons, szMs_cons]
    rw [show k + 1 + szM x + ms.length + szMs ms = k + (ms.length + 1) + (szM x + szMs ms) from by omega]
/-- The first j modes marked, the rest as before. -/
def mixK (k : Nat) (ms : List Md) (j : Nat) : List Md := markedMs k (ms.take j) ++ ms.drop j
theorem mixK_zero (k : Nat) (ms : List Md) : mixK k ms 0 = ms := by simp [mixK, markedMs]
theorem mixK_full (k : Nat) (ms : List Md) : mixK k ms ms.length = markedMs k ms := by simp [mixK]
theorem mixK_len (k : Nat) (ms : List Md) {j : Nat} (h : j ≤ ms.length) : (mixK k ms j).length = ms.length := by simp [mixK, markedMs_len]; omega
theorem mixK_at (k : Nat) (ms : List Md) {j : Nat} (h : j < ms.length) : (mixK k ms j)[j]'(by rw [mixK_len k ms (by omega)]; exact h) = ms[j] := by
  unfold mixK
  rw [List.getElem_append_right (by simp [markedMs_len]; omega)]
  simp [markedMs_len, Nat.min_eq_left (Nat.le_of_lt h)]
theorem mixK_set (k : Nat) (ms : List Md) {j : Nat} (h : j < ms.length) : (mixK k ms j).set j (markedM (k + j + szMs (ms.take j)) ms[j]) = mixK k ms (j + 1) := by
  have hl : (markedMs k (ms.take j)).length = j := by rw [markedMs_len]; simp; omega
  unfold mixK
  have e : (List.drop j ms).set 0 (markedM (k + j + szMs (ms.take j)) ms[j]) = markedM (k + j + szMs (ms.take j)) ms[j] :: List.drop (j + 1) ms := by rw [List.drop_eq_getElem_cons h]; rfl
  rw [List.set_append_right _ _ (by omega), hl, Nat.sub_self, e, List.take_succ_eq_append_getElem h, markedMs_snoc]
  simp [Nat.min_eq_left (Nat.le_of_lt h)]

/-- A slice of ints behind a cell of an own row: it may turn. -/
theorem rowAt_turnI {w : World} {B : Nat} {e : TypeId} {s n g cap : Nat} {cs : List Tr} {F : List Nat} (h : RowAt w B e s n g cap cs F) {i : Nat} {xs : List Int} (hi : cs[i]? = some (trI xs)) :
    ∃ A c, w.cell? ⟨g, i, none⟩ = some (.slice A xs.length c) ∧ w.ownsRow B 3 1 (.slice A xs.length c) xs.length (xs.map (.int .i64)) ∧
      ∀ (w' : World) (ys : List Int), w'.ownsRow B 3 1 (.slice A xs.length c) xs.length (ys.map (.int .i64)) → w.grownBy w' (Value.slice A xs.length c).ownBlock → ∃ F', RowAt w' B e s n g cap (cs.set i (trI ys)) F' ∧ (∀ k ∈ F', k ∈ F) ∧ Wr F w w' ∧ w'.cell? ⟨g, i, none⟩ = some (.slice A xs.length c) := by
  obtain ⟨x0, H0, hx0, ho0, _, hs0, _⟩ := h.turn (w' := w) hi
  obtain ⟨o1, hH⟩ := own_flat ho0
  obtain ⟨A, c, rfl, _⟩ := rdI_slice (own_rd o1 (own_le o1))
  simp only [List.length_map] at o1
  refine ⟨A, c, hx0, o1, fun w' ys o2 hg => ?_⟩
  obtain ⟨x, H, hx, ho, hn, hs, hback⟩ := h.turn (w' := w') hi
  rw [hx0] at hx
  injection hx with hx
  subst hx
  obtain ⟨_, hH2⟩ := own_flat ho
  have hlen := own_len o2
  have hw : Wr H w w' := hH2 ▸ Wr.of_grown hg
  obtain ⟨F', h1, h2⟩ := hback (trI ys) H (hH2 ▸ (flat_own o2).1) hn (fun _ hk => hk) hw
  refine ⟨F', h1, h2, hw.sub (fun k hk => (hs k hk).1), ?_⟩
  exact (World.cell?_of_block (a := ⟨g, i, none⟩) (hw.block g h.lt.2 (fun e => (hs g e).2 rfl))).trans hx0

set_option maxRecDepth 100000 in
set_option maxHeartbeats 2000000 in
theorem markMs_any (k B : Nat) (ms : List Md) (v : Value) (F : List Nat) (w : World) (hown : (trMs ms).own w B v F) (hn : F.Nodup) (h0 : 0 < k) (hk : k + (ms.length + szMs ms) ≤ 1000000000) :
    Calls Try.prog 55 #[v, .int .i64 k] w fun e w' => ∃ F', e = .returned (.int .i64 (k + (ms.length + szMs ms) : Nat)) ∧ (trMs (markedMs k ms)).own w' B v F' ∧ F'.Nodup ∧ (∀ x ∈ F', x ∈ F) ∧ Wr F w w' := by
  have hform : (v = .slice none 0 0 ∧ ms.length = 0) ∨ ∃ g cap, v = .slice (some ⟨g, 0, none⟩) ms.length cap ∧ ms.length ≤ cap := by
    obtain ⟨vs, G, ho, _, _⟩ := hown
    rcases ho.2 with h | ⟨g, cap, cur, rfl, _, _, hc, _⟩
    · exact .inl h
    · exact .inr ⟨g, cap, rfl, hc⟩
  rcases hform with ⟨rfl, hl⟩ | ⟨g, cap, rfl, hcap⟩
  · have hms : ms = [] := List.eq_nil_of_length_eq_zero hl
    subst hms
    have HO := Lib.hid hown
    have HN := Lib.hid hn
    clear hown hn
    go_enter Try.func55, Try.ntmps55
    go_wp2
    refine wp_loop_rounds 1 ?_
    rw [rounds_succ]
    go_wp2
    go_ret
    exact ⟨F, rfl, HO.out, HN.out, fun _ h => h, Wr.refl _ _⟩
  · have HO := Lib.hid (show RowAt w B 27 3 ms.length g cap (ms.flatMap cellsM) F from ⟨hown, hn⟩)
    clear hown hn
    go_enter Try.func55, Try.ntmps55
    go_wp2
    go_loopw [1, 5] (fun q i wr => ∃ j : Nat, j ≤ ms.length ∧ i = .int .i64 j ∧ q = .int .i64 (k + j + szMs (ms.take j) : Nat) ∧ (∃ F', RowAt wr B 27 3 ms.length g cap ((mixK k ms j).flatMap cellsM) F' ∧ ∀ x ∈ F', x ∈ F) ∧ Wr F w wr) (fun _ i _ => ms.length - (intOf i).toNat)
    case atStart => exact ⟨0, Nat.zero_le _, rfl, by simp [szMs], ⟨F, by rw [mixK_zero]; exact HO.out, fun _ h => h⟩, Wr.refl _ _⟩
    case round =>
      obtain ⟨j, hj, rfl, rfl, ⟨F1, how, hsub⟩, hwr⟩ := hrel
      by_cases hlt : j < ms.length
      · have hlt' : (j : Int) < (ms.length : Int) := by omega
        have hml := mixK_len k ms hj
        have hT := szMs_take hlt
        have hLE := szMs_le ms (j + 1)
        have hSZ : szM ms[j] = ms[j].us.length + ms[j].co.length := rfl
        have hgw := how.lt.2
        have hlen := how.len
        have hj3 : j * 3 + 3 ≤ ms.length * 3 := by omega
        -- the three cells of the mode
        have g0 := flatMap_get cellsM_len (mixK k ms j) j (by omega) 0 (by omega)
        rw [mixK_at k ms hlt] at g0
        obtain ⟨z0, hz0⟩ := how.some (i := j * 3) (by omega)
        have hf0 := how.frozen
        obtain ⟨FA, hA, hsA⟩ := how.put1 (i := j * 3) (by omega) (.int .i64 ((k + j + szMs (ms.take j) : Nat) : Int))
        have eA := flatMap_set cellsM_len (mixK k ms j) j (by omega) 0 (by omega) (.one (.int .i64 ((k + j + szMs (ms.take j) : Nat) : Int))) ⟨((k + j + szMs (ms.take j) : Nat) : Int), ms[j].us, ms[j].co⟩ (by rw [mixK_at k ms hlt]; rfl)
        rw [Nat.add_zero] at eA
        rw [eA] at hA
        have lA : ((mixK k ms j).set j ⟨((k + j + szMs (ms.take j) : Nat) : Int), ms[j].us, ms[j].co⟩).length = ms.length := by rw [List.length_set, hml]
        have aA : ((mixK k ms j).set j ⟨((k + j + szMs (ms.take j) : Nat) : Int), ms[j].us, ms[j].co⟩)[j]'(by omega) = ⟨((k + j + szMs (ms.take j) : Nat) : Int), ms[j].us, ms[j].co⟩ := by simp
        have gA := flatMap_get cellsM_len ((mixK k ms j).set j ⟨((k + j + szMs (ms.take j) : Nat) : Int), ms[j].us, ms[j].co⟩) j (by omega) 1 (by omega)
        rw [aA] at gA
        obtain ⟨U, cu, hcU, oU, turnU⟩ := rowAt_turnI hA (i := j * 3 + 1) (xs := ms[j].us) gA
        have hcU0 : wr.cell? ⟨g, j * 3 + 1, none⟩ = some (.slice U ms[j].us.length cu) := by
          rw [← hcU, World.cell?_setCell_other]
          intro e; injection e with _ e; omega
        have hw1 : Wr F w (wr.setCell ⟨g, j * 3, none⟩ (.int .i64 ((k + j + szMs (ms.take j) : Nat) : Int))) := hwr.trans (Wr.setCell wr ⟨g, j * 3, none⟩ (hsub g how.mem) _)
        have HA := Lib.hid hA
        have HSA := Lib.hid hsA
        have OU := Lib.hid oU
        have TU := Lib.hid turnU
        have W1 := Lib.hid hw1
        have HT := Lib.hid hT
        have HM3 := Lib.hid (mixK_set k ms hlt)
        clear hA hsA oU turnU hw1 how hwr eA lA aA gA g0 hlen hT
        generalize hQ : k + j + szMs (ms.take j) = Q at *
        have HQ := Lib.hid hQ
        have hq1 : Q + 1 + (ms[j].us.length + ms[j].co.length) ≤ 1000000000 := by have := HT.out; omega
        clear hQ hcU
        go_wp2_with fail
        refine (markI_any (Q + 1) ms[j].us.length B _ _ _ OU.out (by omega) (by omega)).mono ?_
        rintro e w2 ⟨rfl, o2, g2⟩
        rw [marksZ_I] at o2
        obtain ⟨FB, hB, hsB, hwB, _⟩ := TU.out w2 _ o2 g2
        have eB := flatMap_set cellsM_len ((mixK k ms j).set j ⟨(Q : Int), ms[j].us, ms[j].co⟩) j (by rw [List.length_set]; omega) 1 (by omega) (trI (marksZ (Q + 1) ms[j].us.length)) ⟨(Q : Int), marksZ (Q + 1) ms[j].us.length, ms[j].co⟩ (by simp [cellsM])
        rw [List.set_set] at eB
        rw [eB] at hB
        have lB : ((mixK k ms j).set j ⟨(Q : Int), marksZ (Q + 1) ms[j].us.length, ms[j].co⟩).length = ms.length := by rw [List.length_set, hml]
        have aB : ((mixK k ms j).set j ⟨(Q : Int), marksZ (Q + 1) ms[j].us.length, ms[j].co⟩)[j]'(by omega) = ⟨(Q : Int), marksZ (Q + 1) ms[j].us.length, ms[j].co⟩ := by simp
        have gB := flatMap_get cellsM_len ((mixK k ms j).set j ⟨(Q : Int), marksZ (Q + 1) ms[j].us.length, ms[j].co⟩) j (by omega) 2 (by omega)
        rw [aB] at gB
        obtain ⟨C, cc, hcC, oC, turnC⟩ := rowAt_turnI hB (i := j * 3 + 2) (xs := ms[j].co) gB
        have W2 := Lib.hid (W1.out.trans (hwB.sub (fun x hx => hsub x (HSA.out x hx))))
        have OC := Lib.hid oC
        have TC := Lib.hid turnC
        have HSB := Lib.hid (fun x hx => hsub x (HSA.out x (hsB x hx)))
        have hgw2 := hB.lt.2
        clear o2 g2 hB hsB hwB eB lB aB gB oC turnC HA OU TU W1
        go_wp2_with fail
        refine (markI_any (Q + 1 + ms[j].us.length) ms[j].co.length B _ _ _ OC.out (by omega) (by omega)).mono ?_
        rintro e w3 ⟨rfl, o3, g3⟩
        rw [marksZ_I] at o3
        obtain ⟨FC, hC, hsC, hwC, _⟩ := TC.out w3 _ o3 g3
        have eC := flatMap_set cellsM_len ((mixK k ms j).set j ⟨(Q : Int), marksZ (Q + 1) ms[j].us.length, ms[j].co⟩) j (by rw [List.length_set]; omega) 2 (by omega) (trI (marksZ (Q + 1 + ms[j].us.length) ms[j].co.length)) (markedM Q ms[j]) (by simp [cellsM, markedM])
        rw [List.set_set, HM3.out] at eC
        rw [eC] at hC
        have HC := Lib.hid hC
        have W3 := Lib.hid (W2.out.trans (hwC.sub (fun x hx => HSB.out x hx)))
        have HSC := Lib.hid (fun x hx => HSB.out x (hsC x hx))
        clear o3 g3 hC hsC hwC eC OC TC
        go_wp2
        go_roundw
        case rel => exact ⟨j + 1, by omega, by go_num, by have h1 := HQ.out; have h2 := HT.out; congr 1; omega, ⟨FC, HC.out, HSC.out⟩, W3.out⟩
        case measure => simp [intOf]; omega
      · have hge : ¬ (j : Int) < (ms.length : Int) := by omega
        obtain rfl : j = ms.length := by omega
        rw [mixK_full] at how
        have HW := Lib.hid how
        have HB := Lib.hid hwr
        have HS := Lib.hid hsub
        clear how hwr hsub
        rw [List.take_length]
        go_wp2
        go_ret
        exact ⟨ret_numZ (by omega), F1, by unfold trMs rows; rw [markedMs_len]; exact HW.out.1, HW.out.2, HS.out, HB.out⟩

def markedA (k : Nat) (a : Ac) : Ac := ⟨a.nm, a.fa, markedMs k a.ms⟩
set_option maxRecDepth 100000 in
theorem markA_any (k B : Nat) (a : Ac) (v : Value) (F : List Nat) (w : World) (hown : (trA a).own w B v F) (hn : F.Nodup) (h0 : 0 < k) (hk : k + (a.ms.length + szMs a.ms) ≤ 1000000000) :
    Calls Try.prog 25 #[v, .int .i64 k] w fun e w' => ∃ F', e = .returned (.int .i64 (k + (a.ms.length + szMs a.ms) : Nat)) ∧ (trA (markedA k a)).own w' B v F' ∧ F'.Nodup ∧ (∀ x ∈ F', x ∈ F) ∧ Wr F w w' := by
  obtain ⟨x, rfl, ho⟩ := ownA hown
  obtain ⟨_, A, c, rfl, _⟩ := rdMs (Tr.own_rd _ _ _ ho)
  have HO := Lib.hid (Tr.own_alloc ho (.cells #[.string a.nm, .int .i64 a.fa, .slice A a.ms.length c] 38))
  have HN := Lib.hid hn
  clear ho hn hown
  go_enter Try.func25, Try.ntmps25
  go_wp2_with fail
  refine (markMs_any k B a.ms _ F _ HO.out HN.out h0 hk).mono ?_
  rintro e w1 ⟨F', rfl, h1, h2, h3, h4⟩
  have H1 := Lib.hid h1
  have H2 := Lib.hid h2
  have H3 := Lib.hid h3
  have H4 := Lib.hid ((Wr.of_below ((Below.refl _ _).alloc (Nat.le_refl _) _) (Nat.le_refl _)).trans h4)
  clear h1 h2 h3 h4
  go_wp2
  go_ret
  exact ⟨F', rfl, mk_ownA (a := markedA k a) H1.out, H2.out, H3.out, H4.out⟩
end Go.Proofs.Ytlnbkhfjbpnbfaa
