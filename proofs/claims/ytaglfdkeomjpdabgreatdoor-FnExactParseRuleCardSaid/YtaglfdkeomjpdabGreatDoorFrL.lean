/- DERIVED. The walk of the law FnExactParseRule, by contracts. -/
import Derived.Test.YtaglfdkeomjpdabGreatDoorFrH
import Derived.Test.YtaglfdkeomjpdabGreatDoorTPj
import Derived.Test.YtaglfdkeomjpdabGreatDoorRuA
import Derived.Deep.RegionWith
import Derived.Deep.RegionHeld3

section
namespace Go.Proofs.YtaglfdkeomjpdabGreatDoor
open Go.RowKit Go.Shelf
set_option linter.unusedVariables false

theorem app_rdW {w : World} {ops : Array Oper} {rest : List Oper} {o : Oper} {a : Act} {Q : Exit → Act → World → Prop} (hgd : o.guard = none) (s x : Operand) (t e : TypeId) (i0 : TypeInfo) (z : Value) (by0 : Nat)
    (ho : o.op = .call { callee := .builtin .append, args := #[s, x], argTypes := #[t, t] }) (ht : Tryz.prog.underlying t = some (.slice e)) (hi : Tryz.prog.info? e = some i0) (hz0 : i0.zero = some z) (hz1 : i0.size = 1) (hz2 : i0.bytes = by0) (hzc : z.cells.size = 1) (hby : by0 ≤ 64)
    (base : Nat) (v vx : Value) (xs ys : List Value) (hs : a.eval s = v) (hx : a.eval x = vx) (hown : w.ownsRow base e 1 v xs.length xs) (hr : Rd w vx ys) (h1c : ∀ u ∈ ys, u.oneCell' = true) (hnil : NilOk vx)
    (hlen : xs.length + ys.length ≤ 2097152) (hbase : base ≤ w.heap.size)
    (h : ∀ v' w', w'.ownsRow base e 1 v' (xs ++ ys).length (xs ++ ys) → w.grownBy w' v.ownBlock → (v'.ownBlock = v.ownBlock ∨ v'.ownBlock = some w.heap.size) → wpList Tryz.prog ops Q rest (a.put o.dst v') w') :
    wpList Tryz.prog ops Q (o :: rest) a w := by
  obtain ⟨hl, A, c, rfl, hA⟩ := hr
  have hbb : (xs.length + ys.length) * by0 ≤ 140737488355328 := Nat.le_trans (Nat.mul_le_mul hlen hby) (by decide)
  have key : ∀ ad, A = some ad → (∀ j u, ys[j]? = some u → w.cell? (ad.add j) = some u) → wpList Tryz.prog ops Q (o :: rest) a w := by
    intro ad had hc
    subst had
    refine wpList_append_own_at w hgd s x t ho base e i0 z 1 by0 ht hi hz0 hz1 hz2 hzc (by decide) v xs.length xs hs hown ad ys.length c ys hx (by simp) hc h1c (by unfold maxLen; omega) hbb hbase ?_
    intro v' w' h1 h2 _ h4
    exact h v' w' (by rw [List.length_append]; exact h1) h2 h4
  rcases hA with hA | ⟨b, off, rfl, hb, hc⟩
  · subst hA
    cases A with
    | some ad => exact key ad rfl (by intro j u hu; simp at hu)
    | none =>
      have hc0 : c = 0 := hnil _ _ rfl
      subst hc0
      refine wpList_append_own_none hgd s x t ho base e i0 1 ht hi v xs.length xs hs hown hx ?_
      exact h v w (by simpa using hown) ⟨rfl, rfl, rfl, Nat.le_refl _, fun _ _ _ => rfl⟩ (.inl rfl)
  · refine key _ rfl fun j u hu => ?_
    obtain ⟨hj, rfl⟩ := List.getElem?_eq_some_iff.1 hu
    have hadd : (⟨b, off, none⟩ : Addr).add j = ⟨b, off + j, none⟩ := by unfold Addr.add; split <;> simp_all
    rw [hadd]
    exact hc j hj
theorem Sn.appW {w0 W W1 w6 : World} {L : List Item} {e : TypeId} {n : Nat} {xs rs : List Value} {v v' : Value} {F : List Nat}
    (h : Sn w0 W (⟨flat e xs, v, F⟩ :: L)) (hW : Below W.heap.size W W1) (hown : w6.ownsRow w0.heap.size e 1 v' n (xs ++ rs))
    (hg : W1.grownBy w6 v.ownBlock) (hat : v'.ownBlock = v.ownBlock ∨ v'.ownBlock = some W1.heap.size) : ∃ F', Sn w0 w6 (⟨flat e (xs ++ rs), v', F'⟩ :: L) := by
  have h1 := h.go hW
  have hF : F = v.ownBlock.toList := (own_flat h1.2.1).2
  have hw : Wr F W1 w6 := hF ▸ Wr.of_grown hg
  refine ⟨_, h1.turn (t' := flat e (xs ++ rs)) (flat_own hown).1 (flat_own hown).2 (fun k hk => ?_) hw⟩
  rcases hat with h2 | h2
  · left; show k ∈ F; rw [hF, ← h2]; exact hk
  · right
    rw [h2] at hk
    simp at hk
    omega
/-- The kind found among those below n. -/
def kindN (x : ByteArray) : Nat → Int
  | 0 => 0
  | n + 1 => if n = 0 then 0 else if ruNm (n : Int) = x then (n : Int) else kindN x n
theorem kindN_yes {x : ByteArray} {n : Nat} (h : 1 ≤ n) (e : ruNm (n : Int) = x) : kindN x (n + 1) = (n : Int) := by rw [kindN, if_neg (by omega), if_pos e]
theorem kindN_no {x : ByteArray} {n : Nat} (h : 1 ≤ n) (e : ¬ ruNm (n : Int) = x) : kindN x (n + 1) = kindN x n := by rw [kindN, if_neg (by omega), if_neg e]
theorem kindN_w (x : ByteArray) : kindN x 7 = kindW x := by
  by_cases h6 : ruNm 6 = x
  · subst h6; decide
  by_cases h5 : ruNm 5 = x
  · subst h5; decide
  by_cases h4 : ruNm 4 = x
  · subst h4; decide
  by_cases h3 : ruNm 3 = x
  · subst h3; decide
  by_cases h2 : ruNm 2 = x
  · subst h2; decide
  by_cases h1 : ruNm 1 = x
  · subst h1; decide
  have e : kindN x 7 = 0 := by
    rw [kindN_no (n := 6) (by omega) h6, kindN_no (n := 5) (by omega) h5, kindN_no (n := 4) (by omega) h4, kindN_no (n := 3) (by omega) h3, kindN_no (n := 2) (by omega) h2, kindN_no (n := 1) (by omega) h1]
    rfl
  rw [e, kindW, if_neg]
  have hno : ∀ j, (hj : j < ruNames.length) → 1 ≤ j → ruNames[j] ≠ x := fun j hj h => by
    have hl : ruNames.length = 7 := rfl
    rcases (by omega : j = 1 ∨ j = 2 ∨ j = 3 ∨ j = 4 ∨ j = 5 ∨ j = 6) with rfl | rfl | rfl | rfl | rfl | rfl
    · exact h1
    · exact h2
    · exact h3
    · exact h4
    · exact h5
    · exact h6
  intro hge
  have hr := ixB_range (fun y => decide (y = x)) ruNames
  unfold idxS at hge
  obtain ⟨n, hn⟩ : ∃ n : Nat, ixB (fun y => decide (y = x)) ruNames = (n : Int) := ⟨(ixB (fun y => decide (y = x)) ruNames).toNat, by omega⟩
  have hnl : n < ruNames.length := by omega
  have hh : (fun y => decide (y = x)) ruNames[n] = true := by
    unfold ixB at hn
    split at hn
    · next i hi =>
      obtain rfl : i = n := by omega
      exact (List.findIdx?_eq_some_iff_getElem.1 hi).2.1
    · omega
  exact hno n hnl (by omega) (by simpa using hh)
theorem ext_at (W : List ByteArray) {i : Nat} (h : i < (W ++ [eS, eS, eS]).length) : (W ++ [eS, eS, eS])[i] = W.getD i eS := by
  by_cases hi : i < W.length
  · rw [List.getElem_append_left hi, wS_at]
  · rw [List.getElem_append_right (by omega), List.getD, List.getElem?_eq_none (by omega)]
    have h2 : i - W.length < 3 := by simp at h; omega
    rcases (by omega : i - W.length = 0 ∨ i - W.length = 1 ∨ i - W.length = 2) with e | e | e <;> simp [e]
theorem row_at {W : World} {bb o n cu : Nat} {X : List ByteArray} (h : Rd W (.slice (some ⟨bb, o, none⟩) n cu) (X.map .string)) (h0 : 0 < X.length) : bb < W.heap.size ∧ ∀ j, (h : j < X.length) → W.cell? ⟨bb, o + j, none⟩ = some (.string X[j]) := by
  obtain ⟨_, V2, cv2, he, hcc⟩ := h
  injection he with he hlen he2
  subst he he2
  rcases hcc with hcc | ⟨b3, o3, he, hbb3, hcc⟩
  · rw [List.map_eq_nil_iff] at hcc; rw [hcc] at h0; simp at h0
  · injection he with he
    injection he with he he2
    subst he he2
    exact ⟨hbb3, fun j h => by have e := hcc j (by rw [List.length_map]; exact h); rw [List.getElem_map] at e; exact e⟩
set_option maxRecDepth 100000 in
set_option maxHeartbeats 8000000 in
theorem specParseRule_any (p : Pj) (x : ByteArray) (v : Value) (w : World) (hv : (trPj p).rd w v) (hk : (trPj p).ok) (hx : x.size ≤ 1048576) :
    Calls Tryz.prog 5 #[v, .string x] w fun e w' => e = .returned (.tuple #[ruV (resR p x), .bool (okM p x)]) ∧ Below w.heap.size w w' := by
  have HK := Lib.hid hk
  have HV := Lib.hid hv
  obtain ⟨A1, c1, A2, c2, A3, c3, A4, c4, rfl, _⟩ := rdProject_t hv
  have S0 := Lib.hid (((Sn.start w).box 37 [.int .i64 p.dl, .slice A1 p.acts.length c1, .slice A2 p.lks.length c2, .slice A3 p.ress.length c3, .slice A4 p.stk.length c4]).box 30 [.int .i64 0, .int .i64 0, .int .i64 0, .int .i64 0])
  simp only [World.size_alloc] at S0
  clear hk hv
  have hW := splitB_len x spS
  have HSZ := Lib.hid (split_size x spS)
  have HNO := Lib.hid (fun h => @resR_no p x h)
  have HYES := Lib.hid (fun h => @resR_yes p x h)
  have HOKM := Lib.hid (show okM p x = (decide (fmtRuB p (gM p x) ≠ ⟨#[]⟩) && decide (fmtRuB p (gM p x) = x)) from rfl)
  have HG := Lib.hid (show gM p x = (if kindW ((splitB x spS).getD 0 eS) = 2 then ⟨2, plcB p.acts ((splitB x spS).getD 1 eS), 0, 0⟩ else if kindW ((splitB x spS).getD 0 eS) = 3 then ⟨3, (parseB ((splitB x spS).getD 1 eS)).1, (parseB ((splitB x spS).getD 2 eS)).1, 0⟩
    else if kindW ((splitB x spS).getD 0 eS) = 4 then ⟨4, (parseB ((splitB x spS).getD 1 eS)).1, (parseB ((splitB x spS).getD 2 eS)).1, (parseB ((splitB x spS).getD 3 eS)).1⟩ else if kindW ((splitB x spS).getD 0 eS) = 5 then ⟨5, (parseB ((splitB x spS).getD 1 eS)).1, plcB p.acts ((splitB x spS).getD 2 eS), plcB p.acts ((splitB x spS).getD 3 eS)⟩
    else ⟨kindW ((splitB x spS).getD 0 eS), (parseB ((splitB x spS).getD 1 eS)).1, 0, 0⟩) from rfl)
  generalize resR p x = res at HNO HYES ⊢
  generalize okM p x = ok at HNO HYES HOKM ⊢
  generalize gM p x = gm at HYES HOKM HG
  go_enter Tryz.func5, Tryz.ntmps5
  go_wp2_with fail
  refine (specSplitAny_any x ⟨#[32]⟩ _ (by omega) (by decide)).mono ?_
  rintro e w1 ⟨v1, rfl, ho, b⟩
  rw [show splitB x ⟨#[32]⟩ = splitB x spS from rfl] at ho
  have S1 := Lib.hid (S0.out.newI ho b)
  have O1 := Lib.hid (show w1.ownsRow w.heap.size 9 1 v1 ((splitB x spS).map Value.string).length ((splitB x spS).map Value.string) from (own_flat S1.out.2.1).1)
  have N1 := Lib.hid (nilOk_own O1.out)
  clear ho b S0
  have h0W : ((splitB x spS).map Value.string).length = (splitB x spS).length := by simp
  generalize splitB x spS = W at S1 O1 hW HG HSZ h0W ⊢
  obtain ⟨i0, hi0, hz0, hz1, hz2⟩ := info_parts infoString
  have BA := Lib.hid ((Below.refl _ w1).alloc (Nat.le_refl _) (.cells #[.string ⟨#[]⟩, .string ⟨#[]⟩, .string ⟨#[]⟩] 9))
  have O2 := Lib.hid (own_below O1.out BA.out (Nat.le_refl _))
  have B2 := Lib.hid (S1.out.1.alloc S1.out.1.size (.cells #[.string ⟨#[]⟩, .string ⟨#[]⟩, .string ⟨#[]⟩] 9))
  have R2 := Lib.hid (newRow_any w1 9 [eS, eS, eS] (by simp [maxLen]))
  have hlen : (W.map Value.string).length + 3 ≤ 2097152 := by omega
  go_wp2_with (first
    | (at_builtin; refine app_rdW rfl (.tmp 16) (.tmp 17) 46 9 i0 (.string ⟨#[]⟩) 16 rfl rfl hi0 hz0 hz1 hz2 string_cell (by decide) w.heap.size _ _ (W.map Value.string) [.string eS, .string eS, .string eS] rfl rfl (by exact O2.out) (by exact R2.out) (strV_one [eS, eS, eS]) (nilOk_some _ _ _) hlen B2.out.size ?_; intro v2 w2 hown2 hg2 hat2
       have P2 := Lib.hid (S1.out.appW BA.out hown2 hg2 hat2)
       clear hown2 hg2 hat2)
    | fail)
  obtain ⟨F2, P3⟩ := P2.out
  have hX4 : 4 ≤ (W ++ [eS, eS, eS]).length := by simp; omega
  have HX := Lib.hid (show ∀ i, (h : i < (W ++ [eS, eS, eS]).length) → (W ++ [eS, eS, eS])[i] = W.getD i eS from fun i h => ext_at W h)
  have S2 := Lib.hid (show Sn w w2 (⟨flat 9 ((W ++ [eS, eS, eS]).map Value.string), v2, F2⟩ :: _) from by rw [List.map_append]; exact P3)
  have H1 := Lib.hid (wS_size HSZ.out)
  generalize W ++ [eS, eS, eS] = X at S2 HX hX4
  obtain ⟨_, U, cu, rfl, hU⟩ := rd_flat (S2.out.rd 0 rfl)
  rcases hU with hU | ⟨bb, o, rfl, _⟩
  · rw [List.map_eq_nil_iff] at hU; rw [hU] at hX4; simp at hX4
  rw [List.length_map] at S2 ⊢
  have S3 := Lib.hid (S2.out.box 30 [.int .i64 0, .int .i64 0, .int .i64 0, .int .i64 0])
  generalize w2.heap.size = g at S3 ⊢
  generalize hy0 : W.getD 0 eS = y0 at HG
  generalize hy1 : W.getD 1 eS = y1 at HG
  generalize hy2 : W.getD 2 eS = y2 at HG
  generalize hy3 : W.getD 3 eS = y3 at HG
  have L1 : y1.size ≤ x.size := hy1 ▸ H1.out 1
  have L2 : y2.size ≤ x.size := hy2 ▸ H1.out 2
  have L3 : y3.size ≤ x.size := hy3 ▸ H1.out 3
  have HY := Lib.hid (show ∀ (wr : World), Rd wr (.slice (some ⟨bb, o, none⟩) X.length cu) (X.map Value.string) → bb < wr.heap.size ∧ wr.cell? ⟨bb, o, none⟩ = some (.string y0) ∧ wr.cell? ⟨bb, o + 1, none⟩ = some (.string y1) ∧ wr.cell? ⟨bb, o + 2, none⟩ = some (.string y2) ∧ wr.cell? ⟨bb, o + 3, none⟩ = some (.string y3) from fun wr hr => by
    have h := row_at hr (by omega)
    have e0 := h.2 0 (by omega)
    have e1 := h.2 1 (by omega)
    have e2 := h.2 2 (by omega)
    have e3 := h.2 3 (by omega)
    rw [HX.out, Nat.add_zero, hy0] at e0
    rw [HX.out, hy1] at e1
    rw [HX.out, hy2] at e2
    rw [HX.out, hy3] at e3
    exact ⟨h.1, e0, e1, e2, e3⟩)
  have hq0 : (0 : Int) < (X.length : Int) := by omega
  have hq1 : (1 : Int) < (X.length : Int) := by omega
  have hq2 : (2 : Int) < (X.length : Int) := by omega
  have hq3 : (3 : Int) < (X.length : Int) := by omega
  have hp0 : 0 < X.length := by omega
  have hp1 : 1 < X.length := by omega
  have hp2 : 2 < X.length := by omega
  have hp3 : 3 < X.length := by omega
  clear P2 P3 S1 S2 O1 N1 BA O2 B2 R2 HX hy0 hy1 hy2 hy3 H1 HSZ hW hX4 hlen h0W
  go_loopw [8] (fun i wr => ∃ n : Nat, (1 ≤ n ∧ n ≤ 7) ∧ i = .int .i64 n ∧ Sn w wr [boxI g 30 [.int .i64 (kindN y0 n), .int .i64 0, .int .i64 0, .int .i64 0], ⟨flat 9 (X.map Value.string), .slice (some ⟨bb, o, none⟩) X.length cu, F2⟩, boxI (w.heap.size + 1) 30 [.int .i64 0, .int .i64 0, .int .i64 0, .int .i64 0], boxI w.heap.size 37 [.int .i64 p.dl, .slice A1 p.acts.length c1, .slice A2 p.lks.length c2, .slice A3 p.ress.length c3, .slice A4 p.stk.length c4]]) (fun i _ => 7 - (intOf i).toNat)
  case atStart => exact ⟨1, ⟨by omega, by omega⟩, rfl, S3.out⟩
  case round =>
    obtain ⟨n, hn, rfl, hS⟩ := hrel
    have S4 := Lib.hid hS
    clear hS S3
    obtain ⟨hbb, z0, z1, z2, z3⟩ := HY.out wr (rd_flat (S4.out.rd 1 rfl))
    by_cases hlt : n ≤ 6
    · have hlt' : (n : Int) ≤ 6 := by omega
      clear z1 z2 z3
      have KY := Lib.hid (fun h => @kindN_yes y0 n hn.1 h)
      have KN := Lib.hid (fun h => @kindN_no y0 n hn.1 h)
      have S5 := Lib.hid S4.out.drew1
      go_wp2_with fail
      have CE := Lib.hid (fun (W : World) (h : Wr [] wr.drew W) => show Hid (Wr [] wr.drew W) ∧ W.cell? ⟨bb, o, none⟩ = some (.string y0) from ⟨Lib.hid h, (wr_cell h (p := ⟨bb, o, none⟩) hbb (by simp)).trans (by exact by simpa using z0)⟩)
      have INIT := Lib.hid (CE.out _ (Wr.refl _ _))
      have KW := Lib.hid (fun (W2 W : World) (hb : Wr [] W W2) (h : Hid (Wr [] wr.drew W) ∧ W.cell? ⟨bb, o, none⟩ = some (.string y0)) => CE.out W2 (h.1.out.trans hb))
      clear z0
      go_region_held3 (fun W => Hid (Wr [] wr.drew W) ∧ W.cell? ⟨bb, o, none⟩ = some (.string y0)) (first | exact INIT.out | exact KW.out _ _ (by assumption) (by assumption) | exact KW.out _ _ (Wr.of_below (by assumption) (Nat.le_refl _)) (by assumption) | exact KW.out _ _ (Wr.of_below ((Below.refl _ _).alloc (Nat.le_refl _) _) (Nat.le_refl _)) (by assumption))
        ((go_at_call 15; refine (specRuleName_any (n : Int) _).mono ?_; rintro e w5 ⟨rfl, b5⟩; have S6 := Lib.hid (S5.out.go b5)))
      rename_i hHeld
      clear hHeld CE INIT KW S4 S5 b5
      generalize ruNm (n : Int) = nm at KY KN ⊢
      by_cases he : nm = y0
      · have E := Lib.hid (KY.out he)
        have hb : (nm.toList == y0.toList) = true := by rw [he]; simp
        simp only [hb]
        clear hb
        obtain ⟨e0, e1, e2, e3, ef⟩ := (S6.out.bk 0 rfl).c4
        have S7 := S6.out.boxSet 0 rfl 0 (.int .i64 (n : Int))
        rw [show ([.int .i64 (kindN y0 n), .int .i64 0, .int .i64 0, .int .i64 0] : List Value).set 0 (.int .i64 (n : Int)) = [.int .i64 (kindN y0 (n + 1)), .int .i64 0, .int .i64 0, .int .i64 0] from by rw [E.out]; rfl] at S7
        have S8 := Lib.hid S7
        generalize kindN y0 n = kk at e0
        clear he
        clear S7 S6 KY KN
        go_wp2
        go_roundw
        case rel => exact ⟨n + 1, ⟨by omega, by omega⟩, by go_num, S8.out⟩
        case measure => simp [intOf]; omega
      · have E := Lib.hid (KN.out he)
        have hne := str_ne he
        simp only [hne]
        rw [← E.out] at S6
        clear he hne KY KN
        go_wp2
        go_roundw
        case rel => exact ⟨n + 1, ⟨by omega, by omega⟩, by go_num, S6.out⟩
        case measure => simp [intOf]; omega
    · have hge : ¬ (n : Int) ≤ 6 := by omega
      obtain rfl : n = 7 := by omega
      rw [kindN_w] at S4
      generalize kindW y0 = kk at S4 HG
      obtain ⟨e0, e1, e2, e3, ef⟩ := (S4.out.bk 0 rfl).c4
      go_wp2_with fail
      clear z0 z1 z2 z3
      clear e0 e1 e2 e3 ef
      refine (specParse_any y1 _ (by unfold maxLen; omega)).mono ?_
      rintro e w3 ⟨he, b3⟩
      obtain rfl : e = _ := he
      have S5 := Lib.hid (S4.out.go b3)
      clear S4 b3
      generalize (parseB y1).1 = pa at HG ⊢
      generalize (parseB y1).2 = pb
      obtain ⟨e0, e1, e2, e3, ef⟩ := (S5.out.bk 0 rfl).c4
      have S6 := Lib.hid (S5.out.boxSet 0 rfl 1 (.int .i64 pa))
      simp only [List.set_cons_zero, List.set_cons_succ] at S6
      by_cases k2 : kk = 2
      · subst k2
        clear S5
        have HG1 := Lib.hid (show gm = ⟨2, plcB p.acts y1, 0, 0⟩ from by rw [HG.out, if_pos rfl])
        clear HG
        obtain ⟨hbb, z0, z1, z2, z3⟩ := HY.out _ (rd_flat (S6.out.rd 1 rfl))
        obtain ⟨e0, e1, e2, e3, ef⟩ := (S6.out.bk 0 rfl).c4
        go_wp2_with fail
        have ZZ := HY.out _ (rd_flat (S6.out.rd 1 rfl))
        generalize hwv : World.setCell _ _ _ = wv7 at S6 ZZ ⊢
        clear hwv z0 z1 z2 z3 hbb
        clear e0 e1 e2 e3 ef
        obtain ⟨hbb, z0, z1, z2, z3⟩ := ZZ
        obtain ⟨p0, p1, p2, p3, p4, pf⟩ := (S6.out.bk 3 rfl).c5
        have hl3 := (S6.out.bk 3 rfl).lt
        have FB := (own_flat (S6.out.own 1 rfl).1).2
        have hng : w.heap.size ≠ g := fun e => S6.out.2.apart (i := 0) (j := 3) rfl rfl (by omega) g (by simp [boxI]) (by simpa [boxI] using e.symm)
        have hnb : bb ≠ g := fun e => S6.out.2.apart (i := 0) (j := 1) rfl rfl (by omega) g (by simp [boxI]) (by show g ∈ F2; rw [FB, ← e]; simp [Value.ownBlock])
        have T7 := Lib.hid S6.out.drew1
        clear S6 FB
        have CE := Lib.hid (fun (W : World) (h : Wr [g] wv7.drew W) => show Hid (Wr [g] wv7.drew W) ∧ W.cell? ⟨w.heap.size, 0, none⟩ = some (.int .i64 p.dl) ∧ W.cell? ⟨w.heap.size, 1, none⟩ = some (.slice A1 p.acts.length c1) ∧ W.cell? ⟨w.heap.size, 2, none⟩ = some (.slice A2 p.lks.length c2) ∧ W.cell? ⟨w.heap.size, 3, none⟩ = some (.slice A3 p.ress.length c3) ∧ W.cell? ⟨w.heap.size, 4, none⟩ = some (.slice A4 p.stk.length c4) ∧ W.cell? ⟨bb, o + 1, none⟩ = some (.string y1) from ⟨Lib.hid h, (wr_cell h (p := ⟨w.heap.size, 0, none⟩) hl3 (by simp only [List.mem_singleton]; omega)).trans (by exact by simpa using p0), (wr_cell h (p := ⟨w.heap.size, 1, none⟩) hl3 (by simp only [List.mem_singleton]; omega)).trans (by exact by simpa using p1), (wr_cell h (p := ⟨w.heap.size, 2, none⟩) hl3 (by simp only [List.mem_singleton]; omega)).trans (by exact by simpa using p2), (wr_cell h (p := ⟨w.heap.size, 3, none⟩) hl3 (by simp only [List.mem_singleton]; omega)).trans (by exact by simpa using p3), (wr_cell h (p := ⟨w.heap.size, 4, none⟩) hl3 (by simp only [List.mem_singleton]; omega)).trans (by exact by simpa using p4), (wr_cell h (p := ⟨bb, o + 1, none⟩) hbb (by simp only [List.mem_singleton]; omega)).trans (by exact by simpa using z1)⟩)
        have INIT := Lib.hid (CE.out _ (Wr.refl _ _))
        have KW := Lib.hid (fun (W2 W : World) (hb : Wr [g] W W2) (h : Hid (Wr [g] wv7.drew W) ∧ W.cell? ⟨w.heap.size, 0, none⟩ = some (.int .i64 p.dl) ∧ W.cell? ⟨w.heap.size, 1, none⟩ = some (.slice A1 p.acts.length c1) ∧ W.cell? ⟨w.heap.size, 2, none⟩ = some (.slice A2 p.lks.length c2) ∧ W.cell? ⟨w.heap.size, 3, none⟩ = some (.slice A3 p.ress.length c3) ∧ W.cell? ⟨w.heap.size, 4, none⟩ = some (.slice A4 p.stk.length c4) ∧ W.cell? ⟨bb, o + 1, none⟩ = some (.string y1)) => CE.out W2 (h.1.out.trans hb))
        clear z0 z1 z2 z3 p0 p1 p2 p3 p4 pf hl3 hbb hng hnb
        refine wpAnyZ_start 6 (fun W => Hid (Wr [g] wv7.drew W) ∧ W.cell? ⟨w.heap.size, 0, none⟩ = some (.int .i64 p.dl) ∧ W.cell? ⟨w.heap.size, 1, none⟩ = some (.slice A1 p.acts.length c1) ∧ W.cell? ⟨w.heap.size, 2, none⟩ = some (.slice A2 p.lks.length c2) ∧ W.cell? ⟨w.heap.size, 3, none⟩ = some (.slice A3 p.ress.length c3) ∧ W.cell? ⟨w.heap.size, 4, none⟩ = some (.slice A4 p.stk.length c4) ∧ W.cell? ⟨bb, o + 1, none⟩ = some (.string y1)) (by kernel_rfl) INIT.out (fun hHeld => ?_)
        clear CE INIT
        refine wpAnyZ_take (i := 0) (v := ?_) rfl (by kernel_rfl) (by kernel_rfl) (by kernel_rfl) (fun _ _ _ h => h) (Or.inl ⟨by rfl, ?_⟩) (by assumption) ?_
        rotate_left
        · (intro W hSw; (try dsimp only at hSw); go_simp <;> with_reducible rfl)
        (try simp only [Act.put])
        refine wpAnyZ_take (i := 1) (v := ?_) rfl (by kernel_rfl) (by kernel_rfl) (by kernel_rfl) (fun _ _ _ h => h) (Or.inl ⟨by rfl, ?_⟩) (by assumption) ?_
        rotate_left
        · (intro W hSw; (try dsimp only at hSw); go_simp <;> with_reducible rfl)
        (try simp only [Act.put])
        refine wpAnyZ_take (i := 2) (v := ?_) rfl (by kernel_rfl) (by kernel_rfl) (by kernel_rfl) (fun _ _ _ h => h) (Or.inl ⟨by rfl, ?_⟩) (by assumption) ?_
        rotate_left
        · (intro W hSw; (try dsimp only at hSw); go_simp <;> with_reducible rfl)
        (try simp only [Act.put])
        refine wpAnyZ_take (i := 3) (v := ?_) rfl (by kernel_rfl) (by kernel_rfl) (by kernel_rfl) (fun _ _ _ h => h) (Or.inl ⟨by rfl, ?_⟩) (by assumption) ?_
        rotate_left
        · (intro W hSw; (try dsimp only at hSw); go_simp <;> with_reducible rfl)
        (try simp only [Act.put])
        refine wpAnyZ_one (i := 4) (by kernel_rfl) rfl (fun K hK => ?_)
        go_simp
        go_at_call 17
        refine (specActivityIndex_any p y1 _ _ (by exact T7.out.old HV.out)).mono ?_
        rintro e w4 ⟨rfl, bb5⟩
        (first | done | go_wp2_with fail)
        refine hK.out _ _ (KW.out _ _ (Wr.of_below bb5 (Nat.le_refl _)) hHeld) (fun hHeld4 => ?_)
        clear hK K
        have U7 := Lib.hid (T7.out.go bb5)
        obtain ⟨e0, e1, e2, e3, ef⟩ := (U7.out.bk 0 rfl).c4
        refine wpAnyZ_take (i := 5) (v := ?_) rfl (by kernel_rfl) (by kernel_rfl) (by kernel_rfl) (fun _ _ _ h => h) (Or.inl ⟨by rfl, ?_⟩) (by assumption) ?_
        rotate_left
        · (intro W hSw; (try dsimp only at hSw); go_simp <;> with_reducible rfl)
        (try simp only [Act.put])
        refine wpAnyZ_last (by kernel_rfl) (by kernel_rfl) rfl (fun K hK => ?_)
        go_simp
        refine hK.out _ _ ?_
        clear hK K
        have S7 := Lib.hid (U7.out.boxSet 0 rfl 1 (.int .i64 (plcB p.acts y1)))
        simp only [List.set_cons_zero, List.set_cons_succ] at S7
        generalize plcB p.acts y1 = pl at S7 HG1 ⊢
        clear T7 U7 KW bb5 hHeld hHeld4
        have SE := Lib.hid (show Sn w _ [boxI g 30 [.int .i64 2, .int .i64 pl, .int .i64 0, .int .i64 0], ⟨flat 9 (X.map Value.string), .slice (some ⟨bb, o, none⟩) X.length cu, F2⟩, boxI (w.heap.size + 1) 30 [.int .i64 0, .int .i64 0, .int .i64 0, .int .i64 0], boxI w.heap.size 37 [.int .i64 p.dl, .slice A1 p.acts.length c1, .slice A2 p.lks.length c2, .slice A3 p.ress.length c3, .slice A4 p.stk.length c4]] from S7.out)
        obtain rfl := HG1.out
        clear S7 HY
        generalize hgm : (⟨2, pl, 0, 0⟩ : Ru) = gm at HOKM HYES
        have HGM := Lib.hid hgm
        clear hgm HG1
        obtain ⟨e0, e1, e2, e3, ef⟩ := (SE.out.bk 0 rfl).c4
        obtain ⟨p0, p1, p2, p3, p4, pf⟩ := (SE.out.bk 3 rfl).c5
        go_wp2_with fail
        clear e0 e1 e2 e3 ef
        clear p0 p1 p2 p3 p4 pf
        refine (specFormatRule_any p ⟨2, pl, 0, 0⟩ _ _ (by exact SE.out.old HV.out) HK.out).mono ?_
        rintro e w8 ⟨rfl, b8⟩
        have S8 := Lib.hid (SE.out.go b8)
        rw [HGM.out]
        clear SE b8
        generalize hfm : fmtRuB p gm = fm at HOKM ⊢
        have HFM := Lib.hid hfm
        clear hfm
        by_cases hf0 : fm = ⟨#[]⟩
        · have HN := Lib.hid (show ok = false from by rw [HOKM.out]; simp [hf0])
          have HR := Lib.hid (HNO.out HN.out)
          have hb : (fm.toList == (⟨#[]⟩ : ByteArray).toList) = true := by rw [hf0]; simp
          have hb2 := hb
          simp at hb2
          clear hf0
          obtain ⟨q0, q1, q2, q3, qf⟩ := (S8.out.bk 2 rfl).c4
          go_wp2
          have SZ := (((S8.out.boxSet 2 rfl 0 (.int .i64 0)).boxSet 2 rfl 1 (.int .i64 0)).boxSet 2 rfl 2 (.int .i64 0)).boxSet 2 rfl 3 (.int .i64 0)
          refine bodyPost_ret (v := .tuple #[.agg #[.int .i64 0, .int .i64 0, .int .i64 0, .int .i64 0], .bool false]) (by simp [results, Tryz.results5, go_sem, q0, q1, q2, q3]) rfl ⟨by rw [HN.out, HR.out]; rfl, SZ.1⟩
        have hn0 : (fm.toList == (⟨#[]⟩ : ByteArray).toList) = false := str_ne hf0
        have hn1 : ¬ fm.toList = [] := fun h => by rw [h] at hn0; simp at hn0
        have hn2 : fm.toList.isEmpty = false := by simpa using hn1
        clear hn0
        obtain ⟨e0, e1, e2, e3, ef⟩ := (S8.out.bk 0 rfl).c4
        obtain ⟨p0, p1, p2, p3, p4, pf⟩ := (S8.out.bk 3 rfl).c5
        go_wp2_with fail
        clear e0 e1 e2 e3 ef
        clear p0 p1 p2 p3 p4 pf
        refine (specFormatRule_any p ⟨2, pl, 0, 0⟩ _ _ (by exact S8.out.old HV.out) HK.out).mono ?_
        rintro e w9 ⟨rfl, b9⟩
        have S9 := Lib.hid (S8.out.go b9)
        rw [HGM.out, HFM.out]
        clear S8 b9
        by_cases hf : fm = x
        · have HN := Lib.hid (show ok = true from by rw [HOKM.out]; simp [hf0, ← hf])
          have HR := Lib.hid ((HYES.out HN.out).trans HGM.out.symm)
          obtain ⟨e0, e1, e2, e3, ef⟩ := (S9.out.bk 0 rfl).c4
          obtain ⟨q0, q1, q2, q3, qf⟩ := (S9.out.bk 2 rfl).c4
          clear hf0
          subst hf
          go_wp2
          have SZ := (((S9.out.boxSet 2 rfl 0 (.int .i64 2)).boxSet 2 rfl 1 (.int .i64 pl)).boxSet 2 rfl 2 (.int .i64 0)).boxSet 2 rfl 3 (.int .i64 0)
          refine bodyPost_ret (v := .tuple #[.agg #[.int .i64 2, .int .i64 pl, .int .i64 0, .int .i64 0], .bool true]) (by simp [results, Tryz.results5, go_sem, q0, q1, q2, q3]) rfl ⟨by rw [HN.out, HR.out]; rfl, SZ.1⟩
        · have HN := Lib.hid (show ok = false from by rw [HOKM.out]; simp [hf])
          have HR := Lib.hid (HNO.out HN.out)
          have hne := str_ne hf
          obtain ⟨q0, q1, q2, q3, qf⟩ := (S9.out.bk 2 rfl).c4
          clear hf hf0
          go_wp2
          have SZ := (((S9.out.boxSet 2 rfl 0 (.int .i64 0)).boxSet 2 rfl 1 (.int .i64 0)).boxSet 2 rfl 2 (.int .i64 0)).boxSet 2 rfl 3 (.int .i64 0)
          refine bodyPost_ret (v := .tuple #[.agg #[.int .i64 0, .int .i64 0, .int .i64 0, .int .i64 0], .bool false]) (by simp [results, Tryz.results5, go_sem, q0, q1, q2, q3]) rfl ⟨by rw [HN.out, HR.out]; rfl, SZ.1⟩
      by_cases k3 : kk = 3
      · subst k3
        clear S5
        have HG1 := Lib.hid (show gm = ⟨3, pa, (parseB y2).1, 0⟩ from by rw [HG.out, if_neg (by omega), if_pos rfl])
        clear HG k2
        obtain ⟨hbb, z0, z1, z2, z3⟩ := HY.out _ (rd_flat (S6.out.rd 1 rfl))
        obtain ⟨e0, e1, e2, e3, ef⟩ := (S6.out.bk 0 rfl).c4
        go_wp2_with fail
        clear z0 z1 z2 z3 hbb
        clear e0 e1 e2 e3 ef
        refine (specParse_any y2 _ (by unfold maxLen; omega)).mono ?_
        rintro e w4 ⟨he, b3⟩
        obtain rfl : e = _ := he
        have T7 := Lib.hid (S6.out.go b3)
        clear S6 b3
        generalize (parseB y2).1 = pc at HG1 ⊢
        generalize (parseB y2).2 = pcb
        obtain ⟨e0, e1, e2, e3, ef⟩ := (T7.out.bk 0 rfl).c4
        have S7 := Lib.hid (T7.out.boxSet 0 rfl 2 (.int .i64 pc))
        simp only [List.set_cons_zero, List.set_cons_succ] at S7
        have SE := Lib.hid (show Sn w _ [boxI g 30 [.int .i64 3, .int .i64 pa, .int .i64 pc, .int .i64 0], ⟨flat 9 (X.map Value.string), .slice (some ⟨bb, o, none⟩) X.length cu, F2⟩, boxI (w.heap.size + 1) 30 [.int .i64 0, .int .i64 0, .int .i64 0, .int .i64 0], boxI w.heap.size 37 [.int .i64 p.dl, .slice A1 p.acts.length c1, .slice A2 p.lks.length c2, .slice A3 p.ress.length c3, .slice A4 p.stk.length c4]] from S7.out)
        obtain rfl := HG1.out
        clear S7 HY
        generalize hgm : (⟨3, pa, pc, 0⟩ : Ru) = gm at HOKM HYES
        have HGM := Lib.hid hgm
        clear hgm HG1
        obtain ⟨e0, e1, e2, e3, ef⟩ := (SE.out.bk 0 rfl).c4
        obtain ⟨p0, p1, p2, p3, p4, pf⟩ := (SE.out.bk 3 rfl).c5
        go_wp2_with fail
        clear e0 e1 e2 e3 ef
        clear p0 p1 p2 p3 p4 pf
        refine (specFormatRule_any p ⟨3, pa, pc, 0⟩ _ _ (by exact SE.out.old HV.out) HK.out).mono ?_
        rintro e w8 ⟨rfl, b8⟩
        have S8 := Lib.hid (SE.out.go b8)
        rw [HGM.out]
        clear SE b8
        generalize hfm : fmtRuB p gm = fm at HOKM ⊢
        have HFM := Lib.hid hfm
        clear hfm
        by_cases hf0 : fm = ⟨#[]⟩
        · have HN := Lib.hid (show ok = false from by rw [HOKM.out]; simp [hf0])
          have HR := Lib.hid (HNO.out HN.out)
          have hb : (fm.toList == (⟨#[]⟩ : ByteArray).toList) = true := by rw [hf0]; simp
          have hb2 := hb
          simp at hb2
          clear hf0
          obtain ⟨q0, q1, q2, q3, qf⟩ := (S8.out.bk 2 rfl).c4
          go_wp2
          have SZ := (((S8.out.boxSet 2 rfl 0 (.int .i64 0)).boxSet 2 rfl 1 (.int .i64 0)).boxSet 2 rfl 2 (.int .i64 0)).boxSet 2 rfl 3 (.int .i64 0)
          refine bodyPost_ret (v := .tuple #[.agg #[.int .i64 0, .int .i64 0, .int .i64 0, .int .i64 0], .bool false]) (by simp [results, Tryz.results5, go_sem, q0, q1, q2, q3]) rfl ⟨by rw [HN.out, HR.out]; rfl, SZ.1⟩
        have hn0 : (fm.toList == (⟨#[]⟩ : ByteArray).toList) = false := str_ne hf0
        have hn1 : ¬ fm.toList = [] := fun h => by rw [h] at hn0; simp at hn0
        have hn2 : fm.toList.isEmpty = false := by simpa using hn1
        clear hn0
        obtain ⟨e0, e1, e2, e3, ef⟩ := (S8.out.bk 0 rfl).c4
        obtain ⟨p0, p1, p2, p3, p4, pf⟩ := (S8.out.bk 3 rfl).c5
        go_wp2_with fail
        clear e0 e1 e2 e3 ef
        clear p0 p1 p2 p3 p4 pf
        refine (specFormatRule_any p ⟨3, pa, pc, 0⟩ _ _ (by exact S8.out.old HV.out) HK.out).mono ?_
        rintro e w9 ⟨rfl, b9⟩
        have S9 := Lib.hid (S8.out.go b9)
        rw [HGM.out, HFM.out]
        clear S8 b9
        by_cases hf : fm = x
        · have HN := Lib.hid (show ok = true from by rw [HOKM.out]; simp [hf0, ← hf])
          have HR := Lib.hid ((HYES.out HN.out).trans HGM.out.symm)
          obtain ⟨e0, e1, e2, e3, ef⟩ := (S9.out.bk 0 rfl).c4
          obtain ⟨q0, q1, q2, q3, qf⟩ := (S9.out.bk 2 rfl).c4
          clear hf0
          subst hf
          go_wp2
          have SZ := (((S9.out.boxSet 2 rfl 0 (.int .i64 3)).boxSet 2 rfl 1 (.int .i64 pa)).boxSet 2 rfl 2 (.int .i64 pc)).boxSet 2 rfl 3 (.int .i64 0)
          refine bodyPost_ret (v := .tuple #[.agg #[.int .i64 3, .int .i64 pa, .int .i64 pc, .int .i64 0], .bool true]) (by simp [results, Tryz.results5, go_sem, q0, q1, q2, q3]) rfl ⟨by rw [HN.out, HR.out]; rfl, SZ.1⟩
        · have HN := Lib.hid (show ok = false from by rw [HOKM.out]; simp [hf])
          have HR := Lib.hid (HNO.out HN.out)
          have hne := str_ne hf
          obtain ⟨q0, q1, q2, q3, qf⟩ := (S9.out.bk 2 rfl).c4
          clear hf hf0
          go_wp2
          have SZ := (((S9.out.boxSet 2 rfl 0 (.int .i64 0)).boxSet 2 rfl 1 (.int .i64 0)).boxSet 2 rfl 2 (.int .i64 0)).boxSet 2 rfl 3 (.int .i64 0)
          refine bodyPost_ret (v := .tuple #[.agg #[.int .i64 0, .int .i64 0, .int .i64 0, .int .i64 0], .bool false]) (by simp [results, Tryz.results5, go_sem, q0, q1, q2, q3]) rfl ⟨by rw [HN.out, HR.out]; rfl, SZ.1⟩
      by_cases k4 : kk = 4
      · subst k4
        clear S5
        have HG1 := Lib.hid (show gm = ⟨4, pa, (parseB y2).1, (parseB y3).1⟩ from by rw [HG.out, if_neg (by omega), if_neg (by omega), if_pos rfl])
        clear HG k2 k3
        obtain ⟨hbb, z0, z1, z2, z3⟩ := HY.out _ (rd_flat (S6.out.rd 1 rfl))
        obtain ⟨e0, e1, e2, e3, ef⟩ := (S6.out.bk 0 rfl).c4
        go_wp2_with fail
        clear z0 z1 z2 z3 hbb
        clear e0 e1 e2 e3 ef
        refine (specParse_any y2 _ (by unfold maxLen; omega)).mono ?_
        rintro e w4 ⟨he, b3⟩
        obtain rfl : e = _ := he
        have T7 := Lib.hid (S6.out.go b3)
        clear S6 b3
        generalize (parseB y2).1 = pc at HG1 ⊢
        generalize (parseB y2).2 = pcb
        obtain ⟨e0, e1, e2, e3, ef⟩ := (T7.out.bk 0 rfl).c4
        have S7 := Lib.hid (T7.out.boxSet 0 rfl 2 (.int .i64 pc))
        simp only [List.set_cons_zero, List.set_cons_succ] at S7
        obtain ⟨hbb, z0, z1, z2, z3⟩ := HY.out _ (rd_flat (S7.out.rd 1 rfl))
        obtain ⟨e0, e1, e2, e3, ef⟩ := (S7.out.bk 0 rfl).c4
        go_wp2_with fail
        clear z0 z1 z2 z3 hbb
        clear e0 e1 e2 e3 ef
        refine (specParse_any y3 _ (by unfold maxLen; omega)).mono ?_
        rintro e w5 ⟨he, b3⟩
        obtain rfl : e = _ := he
        have T8 := Lib.hid (S7.out.go b3)
        clear S7 b3
        generalize (parseB y3).1 = pd at HG1 ⊢
        generalize (parseB y3).2 = pdb
        obtain ⟨e0, e1, e2, e3, ef⟩ := (T8.out.bk 0 rfl).c4
        have S8a := Lib.hid (T8.out.boxSet 0 rfl 3 (.int .i64 pd))
        simp only [List.set_cons_zero, List.set_cons_succ] at S8a
        have SE := Lib.hid (show Sn w _ [boxI g 30 [.int .i64 4, .int .i64 pa, .int .i64 pc, .int .i64 pd], ⟨flat 9 (X.map Value.string), .slice (some ⟨bb, o, none⟩) X.length cu, F2⟩, boxI (w.heap.size + 1) 30 [.int .i64 0, .int .i64 0, .int .i64 0, .int .i64 0], boxI w.heap.size 37 [.int .i64 p.dl, .slice A1 p.acts.length c1, .slice A2 p.lks.length c2, .slice A3 p.ress.length c3, .slice A4 p.stk.length c4]] from S8a.out)
        obtain rfl := HG1.out
        clear S8a HY
        generalize hgm : (⟨4, pa, pc, pd⟩ : Ru) = gm at HOKM HYES
        have HGM := Lib.hid hgm
        clear hgm HG1
        obtain ⟨e0, e1, e2, e3, ef⟩ := (SE.out.bk 0 rfl).c4
        obtain ⟨p0, p1, p2, p3, p4, pf⟩ := (SE.out.bk 3 rfl).c5
        go_wp2_with fail
        clear e0 e1 e2 e3 ef
        clear p0 p1 p2 p3 p4 pf
        refine (specFormatRule_any p ⟨4, pa, pc, pd⟩ _ _ (by exact SE.out.old HV.out) HK.out).mono ?_
        rintro e w8 ⟨rfl, b8⟩
        have S8 := Lib.hid (SE.out.go b8)
        rw [HGM.out]
        clear SE b8
        generalize hfm : fmtRuB p gm = fm at HOKM ⊢
        have HFM := Lib.hid hfm
        clear hfm
        by_cases hf0 : fm = ⟨#[]⟩
        · have HN := Lib.hid (show ok = false from by rw [HOKM.out]; simp [hf0])
          have HR := Lib.hid (HNO.out HN.out)
          have hb : (fm.toList == (⟨#[]⟩ : ByteArray).toList) = true := by rw [hf0]; simp
          have hb2 := hb
          simp at hb2
          clear hf0
          obtain ⟨q0, q1, q2, q3, qf⟩ := (S8.out.bk 2 rfl).c4
          go_wp2
          have SZ := (((S8.out.boxSet 2 rfl 0 (.int .i64 0)).boxSet 2 rfl 1 (.int .i64 0)).boxSet 2 rfl 2 (.int .i64 0)).boxSet 2 rfl 3 (.int .i64 0)
          refine bodyPost_ret (v := .tuple #[.agg #[.int .i64 0, .int .i64 0, .int .i64 0, .int .i64 0], .bool false]) (by simp [results, Tryz.results5, go_sem, q0, q1, q2, q3]) rfl ⟨by rw [HN.out, HR.out]; rfl, SZ.1⟩
        have hn0 : (fm.toList == (⟨#[]⟩ : ByteArray).toList) = false := str_ne hf0
        have hn1 : ¬ fm.toList = [] := fun h => by rw [h] at hn0; simp at hn0
        have hn2 : fm.toList.isEmpty = false := by simpa using hn1
        clear hn0
        obtain ⟨e0, e1, e2, e3, ef⟩ := (S8.out.bk 0 rfl).c4
        obtain ⟨p0, p1, p2, p3, p4, pf⟩ := (S8.out.bk 3 rfl).c5
        go_wp2_with fail
        clear e0 e1 e2 e3 ef
        clear p0 p1 p2 p3 p4 pf
        refine (specFormatRule_any p ⟨4, pa, pc, pd⟩ _ _ (by exact S8.out.old HV.out) HK.out).mono ?_
        rintro e w9 ⟨rfl, b9⟩
        have S9 := Lib.hid (S8.out.go b9)
        rw [HGM.out, HFM.out]
        clear S8 b9
        by_cases hf : fm = x
        · have HN := Lib.hid (show ok = true from by rw [HOKM.out]; simp [hf0, ← hf])
          have HR := Lib.hid ((HYES.out HN.out).trans HGM.out.symm)
          obtain ⟨e0, e1, e2, e3, ef⟩ := (S9.out.bk 0 rfl).c4
          obtain ⟨q0, q1, q2, q3, qf⟩ := (S9.out.bk 2 rfl).c4
          clear hf0
          subst hf
          go_wp2
          have SZ := (((S9.out.boxSet 2 rfl 0 (.int .i64 4)).boxSet 2 rfl 1 (.int .i64 pa)).boxSet 2 rfl 2 (.int .i64 pc)).boxSet 2 rfl 3 (.int .i64 pd)
          refine bodyPost_ret (v := .tuple #[.agg #[.int .i64 4, .int .i64 pa, .int .i64 pc, .int .i64 pd], .bool true]) (by simp [results, Tryz.results5, go_sem, q0, q1, q2, q3]) rfl ⟨by rw [HN.out, HR.out]; rfl, SZ.1⟩
        · have HN := Lib.hid (show ok = false from by rw [HOKM.out]; simp [hf])
          have HR := Lib.hid (HNO.out HN.out)
          have hne := str_ne hf
          obtain ⟨q0, q1, q2, q3, qf⟩ := (S9.out.bk 2 rfl).c4
          clear hf hf0
          go_wp2
          have SZ := (((S9.out.boxSet 2 rfl 0 (.int .i64 0)).boxSet 2 rfl 1 (.int .i64 0)).boxSet 2 rfl 2 (.int .i64 0)).boxSet 2 rfl 3 (.int .i64 0)
          refine bodyPost_ret (v := .tuple #[.agg #[.int .i64 0, .int .i64 0, .int .i64 0, .int .i64 0], .bool false]) (by simp [results, Tryz.results5, go_sem, q0, q1, q2, q3]) rfl ⟨by rw [HN.out, HR.out]; rfl, SZ.1⟩
      by_cases k5 : kk = 5
      · subst k5
        clear S5
        have HG1 := Lib.hid (show gm = ⟨5, pa, plcB p.acts y2, plcB p.acts y3⟩ from by rw [HG.out, if_neg (by omega), if_neg (by omega), if_neg (by omega), if_pos rfl])
        clear HG k2 k3 k4
        obtain ⟨hbb, z0, z1, z2, z3⟩ := HY.out _ (rd_flat (S6.out.rd 1 rfl))
        obtain ⟨e0, e1, e2, e3, ef⟩ := (S6.out.bk 0 rfl).c4
        go_wp2_with fail
        have ZZ := HY.out _ (rd_flat (S6.out.rd 1 rfl))
        generalize hwv : World.setCell _ _ _ = wv7 at S6 ZZ ⊢
        clear hwv z0 z1 z2 z3 hbb
        clear e0 e1 e2 e3 ef
        obtain ⟨hbb, z0, z1, z2, z3⟩ := ZZ
        obtain ⟨p0, p1, p2, p3, p4, pf⟩ := (S6.out.bk 3 rfl).c5
        have hl3 := (S6.out.bk 3 rfl).lt
        have FB := (own_flat (S6.out.own 1 rfl).1).2
        have hng : w.heap.size ≠ g := fun e => S6.out.2.apart (i := 0) (j := 3) rfl rfl (by omega) g (by simp [boxI]) (by simpa [boxI] using e.symm)
        have hnb : bb ≠ g := fun e => S6.out.2.apart (i := 0) (j := 1) rfl rfl (by omega) g (by simp [boxI]) (by show g ∈ F2; rw [FB, ← e]; simp [Value.ownBlock])
        have T7 := Lib.hid S6.out.drew1
        clear S6 FB
        have CE := Lib.hid (fun (W : World) (h : Wr [g] wv7.drew W) => show Hid (Wr [g] wv7.drew W) ∧ W.cell? ⟨w.heap.size, 0, none⟩ = some (.int .i64 p.dl) ∧ W.cell? ⟨w.heap.size, 1, none⟩ = some (.slice A1 p.acts.length c1) ∧ W.cell? ⟨w.heap.size, 2, none⟩ = some (.slice A2 p.lks.length c2) ∧ W.cell? ⟨w.heap.size, 3, none⟩ = some (.slice A3 p.ress.length c3) ∧ W.cell? ⟨w.heap.size, 4, none⟩ = some (.slice A4 p.stk.length c4) ∧ W.cell? ⟨bb, o + 2, none⟩ = some (.string y2) from ⟨Lib.hid h, (wr_cell h (p := ⟨w.heap.size, 0, none⟩) hl3 (by simp only [List.mem_singleton]; omega)).trans (by exact by simpa using p0), (wr_cell h (p := ⟨w.heap.size, 1, none⟩) hl3 (by simp only [List.mem_singleton]; omega)).trans (by exact by simpa using p1), (wr_cell h (p := ⟨w.heap.size, 2, none⟩) hl3 (by simp only [List.mem_singleton]; omega)).trans (by exact by simpa using p2), (wr_cell h (p := ⟨w.heap.size, 3, none⟩) hl3 (by simp only [List.mem_singleton]; omega)).trans (by exact by simpa using p3), (wr_cell h (p := ⟨w.heap.size, 4, none⟩) hl3 (by simp only [List.mem_singleton]; omega)).trans (by exact by simpa using p4), (wr_cell h (p := ⟨bb, o + 2, none⟩) hbb (by simp only [List.mem_singleton]; omega)).trans (by exact by simpa using z2)⟩)
        have INIT := Lib.hid (CE.out _ (Wr.refl _ _))
        have KW := Lib.hid (fun (W2 W : World) (hb : Wr [g] W W2) (h : Hid (Wr [g] wv7.drew W) ∧ W.cell? ⟨w.heap.size, 0, none⟩ = some (.int .i64 p.dl) ∧ W.cell? ⟨w.heap.size, 1, none⟩ = some (.slice A1 p.acts.length c1) ∧ W.cell? ⟨w.heap.size, 2, none⟩ = some (.slice A2 p.lks.length c2) ∧ W.cell? ⟨w.heap.size, 3, none⟩ = some (.slice A3 p.ress.length c3) ∧ W.cell? ⟨w.heap.size, 4, none⟩ = some (.slice A4 p.stk.length c4) ∧ W.cell? ⟨bb, o + 2, none⟩ = some (.string y2)) => CE.out W2 (h.1.out.trans hb))
        clear z0 z1 z2 z3 p0 p1 p2 p3 p4 pf hl3 hbb hng hnb
        refine wpAnyZ_start 6 (fun W => Hid (Wr [g] wv7.drew W) ∧ W.cell? ⟨w.heap.size, 0, none⟩ = some (.int .i64 p.dl) ∧ W.cell? ⟨w.heap.size, 1, none⟩ = some (.slice A1 p.acts.length c1) ∧ W.cell? ⟨w.heap.size, 2, none⟩ = some (.slice A2 p.lks.length c2) ∧ W.cell? ⟨w.heap.size, 3, none⟩ = some (.slice A3 p.ress.length c3) ∧ W.cell? ⟨w.heap.size, 4, none⟩ = some (.slice A4 p.stk.length c4) ∧ W.cell? ⟨bb, o + 2, none⟩ = some (.string y2)) (by kernel_rfl) INIT.out (fun hHeld => ?_)
        clear CE INIT
        refine wpAnyZ_take (i := 0) (v := ?_) rfl (by kernel_rfl) (by kernel_rfl) (by kernel_rfl) (fun _ _ _ h => h) (Or.inl ⟨by rfl, ?_⟩) (by assumption) ?_
        rotate_left
        · (intro W hSw; (try dsimp only at hSw); go_simp <;> with_reducible rfl)
        (try simp only [Act.put])
        refine wpAnyZ_take (i := 1) (v := ?_) rfl (by kernel_rfl) (by kernel_rfl) (by kernel_rfl) (fun _ _ _ h => h) (Or.inl ⟨by rfl, ?_⟩) (by assumption) ?_
        rotate_left
        · (intro W hSw; (try dsimp only at hSw); go_simp <;> with_reducible rfl)
        (try simp only [Act.put])
        refine wpAnyZ_take (i := 2) (v := ?_) rfl (by kernel_rfl) (by kernel_rfl) (by kernel_rfl) (fun _ _ _ h => h) (Or.inl ⟨by rfl, ?_⟩) (by assumption) ?_
        rotate_left
        · (intro W hSw; (try dsimp only at hSw); go_simp <;> with_reducible rfl)
        (try simp only [Act.put])
        refine wpAnyZ_take (i := 3) (v := ?_) rfl (by kernel_rfl) (by kernel_rfl) (by kernel_rfl) (fun _ _ _ h => h) (Or.inl ⟨by rfl, ?_⟩) (by assumption) ?_
        rotate_left
        · (intro W hSw; (try dsimp only at hSw); go_simp <;> with_reducible rfl)
        (try simp only [Act.put])
        refine wpAnyZ_one (i := 4) (by kernel_rfl) rfl (fun K hK => ?_)
        go_simp
        go_at_call 17
        refine (specActivityIndex_any p y2 _ _ (by exact T7.out.old HV.out)).mono ?_
        rintro e w4 ⟨rfl, bb5⟩
        (first | done | go_wp2_with fail)
        refine hK.out _ _ (KW.out _ _ (Wr.of_below bb5 (Nat.le_refl _)) hHeld) (fun hHeld4 => ?_)
        clear hK K
        have U7 := Lib.hid (T7.out.go bb5)
        obtain ⟨e0, e1, e2, e3, ef⟩ := (U7.out.bk 0 rfl).c4
        refine wpAnyZ_take (i := 5) (v := ?_) rfl (by kernel_rfl) (by kernel_rfl) (by kernel_rfl) (fun _ _ _ h => h) (Or.inl ⟨by rfl, ?_⟩) (by assumption) ?_
        rotate_left
        · (intro W hSw; (try dsimp only at hSw); go_simp <;> with_reducible rfl)
        (try simp only [Act.put])
        refine wpAnyZ_last (by kernel_rfl) (by kernel_rfl) rfl (fun K hK => ?_)
        go_simp
        refine hK.out _ _ ?_
        clear hK K
        have S7 := Lib.hid (U7.out.boxSet 0 rfl 2 (.int .i64 (plcB p.acts y2)))
        simp only [List.set_cons_zero, List.set_cons_succ] at S7
        generalize plcB p.acts y2 = pl at S7 HG1 ⊢
        clear T7 U7 KW bb5 hHeld hHeld4
        obtain ⟨hbb, z0, z1, z2, z3⟩ := HY.out _ (rd_flat (S7.out.rd 1 rfl))
        obtain ⟨e0, e1, e2, e3, ef⟩ := (S7.out.bk 0 rfl).c4
        go_wp2_with fail
        have ZZ := HY.out _ (rd_flat (S7.out.rd 1 rfl))
        generalize hwv : World.setCell _ _ _ = wv9 at S7 ZZ ⊢
        clear hwv z0 z1 z2 z3 hbb
        clear e0 e1 e2 e3 ef
        obtain ⟨hbb, z0, z1, z2, z3⟩ := ZZ
        obtain ⟨p0, p1, p2, p3, p4, pf⟩ := (S7.out.bk 3 rfl).c5
        have hl3 := (S7.out.bk 3 rfl).lt
        have FB := (own_flat (S7.out.own 1 rfl).1).2
        have hng : w.heap.size ≠ g := fun e => S7.out.2.apart (i := 0) (j := 3) rfl rfl (by omega) g (by simp [boxI]) (by simpa [boxI] using e.symm)
        have hnb : bb ≠ g := fun e => S7.out.2.apart (i := 0) (j := 1) rfl rfl (by omega) g (by simp [boxI]) (by show g ∈ F2; rw [FB, ← e]; simp [Value.ownBlock])
        have T9 := Lib.hid S7.out.drew1
        clear S7 FB
        have CE := Lib.hid (fun (W : World) (h : Wr [g] wv9.drew W) => show Hid (Wr [g] wv9.drew W) ∧ W.cell? ⟨w.heap.size, 0, none⟩ = some (.int .i64 p.dl) ∧ W.cell? ⟨w.heap.size, 1, none⟩ = some (.slice A1 p.acts.length c1) ∧ W.cell? ⟨w.heap.size, 2, none⟩ = some (.slice A2 p.lks.length c2) ∧ W.cell? ⟨w.heap.size, 3, none⟩ = some (.slice A3 p.ress.length c3) ∧ W.cell? ⟨w.heap.size, 4, none⟩ = some (.slice A4 p.stk.length c4) ∧ W.cell? ⟨bb, o + 3, none⟩ = some (.string y3) from ⟨Lib.hid h, (wr_cell h (p := ⟨w.heap.size, 0, none⟩) hl3 (by simp only [List.mem_singleton]; omega)).trans (by exact by simpa using p0), (wr_cell h (p := ⟨w.heap.size, 1, none⟩) hl3 (by simp only [List.mem_singleton]; omega)).trans (by exact by simpa using p1), (wr_cell h (p := ⟨w.heap.size, 2, none⟩) hl3 (by simp only [List.mem_singleton]; omega)).trans (by exact by simpa using p2), (wr_cell h (p := ⟨w.heap.size, 3, none⟩) hl3 (by simp only [List.mem_singleton]; omega)).trans (by exact by simpa using p3), (wr_cell h (p := ⟨w.heap.size, 4, none⟩) hl3 (by simp only [List.mem_singleton]; omega)).trans (by exact by simpa using p4), (wr_cell h (p := ⟨bb, o + 3, none⟩) hbb (by simp only [List.mem_singleton]; omega)).trans (by exact by simpa using z3)⟩)
        have INIT := Lib.hid (CE.out _ (Wr.refl _ _))
        have KW := Lib.hid (fun (W2 W : World) (hb : Wr [g] W W2) (h : Hid (Wr [g] wv9.drew W) ∧ W.cell? ⟨w.heap.size, 0, none⟩ = some (.int .i64 p.dl) ∧ W.cell? ⟨w.heap.size, 1, none⟩ = some (.slice A1 p.acts.length c1) ∧ W.cell? ⟨w.heap.size, 2, none⟩ = some (.slice A2 p.lks.length c2) ∧ W.cell? ⟨w.heap.size, 3, none⟩ = some (.slice A3 p.ress.length c3) ∧ W.cell? ⟨w.heap.size, 4, none⟩ = some (.slice A4 p.stk.length c4) ∧ W.cell? ⟨bb, o + 3, none⟩ = some (.string y3)) => CE.out W2 (h.1.out.trans hb))
        clear z0 z1 z2 z3 p0 p1 p2 p3 p4 pf hl3 hbb hng hnb
        refine wpAnyZ_start 6 (fun W => Hid (Wr [g] wv9.drew W) ∧ W.cell? ⟨w.heap.size, 0, none⟩ = some (.int .i64 p.dl) ∧ W.cell? ⟨w.heap.size, 1, none⟩ = some (.slice A1 p.acts.length c1) ∧ W.cell? ⟨w.heap.size, 2, none⟩ = some (.slice A2 p.lks.length c2) ∧ W.cell? ⟨w.heap.size, 3, none⟩ = some (.slice A3 p.ress.length c3) ∧ W.cell? ⟨w.heap.size, 4, none⟩ = some (.slice A4 p.stk.length c4) ∧ W.cell? ⟨bb, o + 3, none⟩ = some (.string y3)) (by kernel_rfl) INIT.out (fun hHeld => ?_)
        clear CE INIT
        refine wpAnyZ_take (i := 0) (v := ?_) rfl (by kernel_rfl) (by kernel_rfl) (by kernel_rfl) (fun _ _ _ h => h) (Or.inl ⟨by rfl, ?_⟩) (by assumption) ?_
        rotate_left
        · (intro W hSw; (try dsimp only at hSw); go_simp <;> with_reducible rfl)
        (try simp only [Act.put])
        refine wpAnyZ_take (i := 1) (v := ?_) rfl (by kernel_rfl) (by kernel_rfl) (by kernel_rfl) (fun _ _ _ h => h) (Or.inl ⟨by rfl, ?_⟩) (by assumption) ?_
        rotate_left
        · (intro W hSw; (try dsimp only at hSw); go_simp <;> with_reducible rfl)
        (try simp only [Act.put])
        refine wpAnyZ_take (i := 2) (v := ?_) rfl (by kernel_rfl) (by kernel_rfl) (by kernel_rfl) (fun _ _ _ h => h) (Or.inl ⟨by rfl, ?_⟩) (by assumption) ?_
        rotate_left
        · (intro W hSw; (try dsimp only at hSw); go_simp <;> with_reducible rfl)
        (try simp only [Act.put])
        refine wpAnyZ_take (i := 3) (v := ?_) rfl (by kernel_rfl) (by kernel_rfl) (by kernel_rfl) (fun _ _ _ h => h) (Or.inl ⟨by rfl, ?_⟩) (by assumption) ?_
        rotate_left
        · (intro W hSw; (try dsimp only at hSw); go_simp <;> with_reducible rfl)
        (try simp only [Act.put])
        refine wpAnyZ_one (i := 4) (by kernel_rfl) rfl (fun K hK => ?_)
        go_simp
        go_at_call 17
        refine (specActivityIndex_any p y3 _ _ (by exact T9.out.old HV.out)).mono ?_
        rintro e w4 ⟨rfl, bb5⟩
        (first | done | go_wp2_with fail)
        refine hK.out _ _ (KW.out _ _ (Wr.of_below bb5 (Nat.le_refl _)) hHeld) (fun hHeld4 => ?_)
        clear hK K
        have U9 := Lib.hid (T9.out.go bb5)
        obtain ⟨e0, e1, e2, e3, ef⟩ := (U9.out.bk 0 rfl).c4
        refine wpAnyZ_take (i := 5) (v := ?_) rfl (by kernel_rfl) (by kernel_rfl) (by kernel_rfl) (fun _ _ _ h => h) (Or.inl ⟨by rfl, ?_⟩) (by assumption) ?_
        rotate_left
        · (intro W hSw; (try dsimp only at hSw); go_simp <;> with_reducible rfl)
        (try simp only [Act.put])
        refine wpAnyZ_last (by kernel_rfl) (by kernel_rfl) rfl (fun K hK => ?_)
        go_simp
        refine hK.out _ _ ?_
        clear hK K
        have S8a := Lib.hid (U9.out.boxSet 0 rfl 3 (.int .i64 (plcB p.acts y3)))
        simp only [List.set_cons_zero, List.set_cons_succ] at S8a
        generalize plcB p.acts y3 = pm at S8a HG1 ⊢
        clear T9 U9 KW bb5 hHeld hHeld4
        have SE := Lib.hid (show Sn w _ [boxI g 30 [.int .i64 5, .int .i64 pa, .int .i64 pl, .int .i64 pm], ⟨flat 9 (X.map Value.string), .slice (some ⟨bb, o, none⟩) X.length cu, F2⟩, boxI (w.heap.size + 1) 30 [.int .i64 0, .int .i64 0, .int .i64 0, .int .i64 0], boxI w.heap.size 37 [.int .i64 p.dl, .slice A1 p.acts.length c1, .slice A2 p.lks.length c2, .slice A3 p.ress.length c3, .slice A4 p.stk.length c4]] from S8a.out)
        obtain rfl := HG1.out
        clear S8a HY
        generalize hgm : (⟨5, pa, pl, pm⟩ : Ru) = gm at HOKM HYES
        have HGM := Lib.hid hgm
        clear hgm HG1
        obtain ⟨e0, e1, e2, e3, ef⟩ := (SE.out.bk 0 rfl).c4
        obtain ⟨p0, p1, p2, p3, p4, pf⟩ := (SE.out.bk 3 rfl).c5
        go_wp2_with fail
        clear e0 e1 e2 e3 ef
        clear p0 p1 p2 p3 p4 pf
        refine (specFormatRule_any p ⟨5, pa, pl, pm⟩ _ _ (by exact SE.out.old HV.out) HK.out).mono ?_
        rintro e w8 ⟨rfl, b8⟩
        have S8 := Lib.hid (SE.out.go b8)
        rw [HGM.out]
        clear SE b8
        generalize hfm : fmtRuB p gm = fm at HOKM ⊢
        have HFM := Lib.hid hfm
        clear hfm
        by_cases hf0 : fm = ⟨#[]⟩
        · have HN := Lib.hid (show ok = false from by rw [HOKM.out]; simp [hf0])
          have HR := Lib.hid (HNO.out HN.out)
          have hb : (fm.toList == (⟨#[]⟩ : ByteArray).toList) = true := by rw [hf0]; simp
          have hb2 := hb
          simp at hb2
          clear hf0
          obtain ⟨q0, q1, q2, q3, qf⟩ := (S8.out.bk 2 rfl).c4
          go_wp2
          have SZ := (((S8.out.boxSet 2 rfl 0 (.int .i64 0)).boxSet 2 rfl 1 (.int .i64 0)).boxSet 2 rfl 2 (.int .i64 0)).boxSet 2 rfl 3 (.int .i64 0)
          refine bodyPost_ret (v := .tuple #[.agg #[.int .i64 0, .int .i64 0, .int .i64 0, .int .i64 0], .bool false]) (by simp [results, Tryz.results5, go_sem, q0, q1, q2, q3]) rfl ⟨by rw [HN.out, HR.out]; rfl, SZ.1⟩
        have hn0 : (fm.toList == (⟨#[]⟩ : ByteArray).toList) = false := str_ne hf0
        have hn1 : ¬ fm.toList = [] := fun h => by rw [h] at hn0; simp at hn0
        have hn2 : fm.toList.isEmpty = false := by simpa using hn1
        clear hn0
        obtain ⟨e0, e1, e2, e3, ef⟩ := (S8.out.bk 0 rfl).c4
        obtain ⟨p0, p1, p2, p3, p4, pf⟩ := (S8.out.bk 3 rfl).c5
        go_wp2_with fail
        clear e0 e1 e2 e3 ef
        clear p0 p1 p2 p3 p4 pf
        refine (specFormatRule_any p ⟨5, pa, pl, pm⟩ _ _ (by exact S8.out.old HV.out) HK.out).mono ?_
        rintro e w9 ⟨rfl, b9⟩
        have S9 := Lib.hid (S8.out.go b9)
        rw [HGM.out, HFM.out]
        clear S8 b9
        by_cases hf : fm = x
        · have HN := Lib.hid (show ok = true from by rw [HOKM.out]; simp [hf0, ← hf])
          have HR := Lib.hid ((HYES.out HN.out).trans HGM.out.symm)
          obtain ⟨e0, e1, e2, e3, ef⟩ := (S9.out.bk 0 rfl).c4
          obtain ⟨q0, q1, q2, q3, qf⟩ := (S9.out.bk 2 rfl).c4
          clear hf0
          subst hf
          go_wp2
          have SZ := (((S9.out.boxSet 2 rfl 0 (.int .i64 5)).boxSet 2 rfl 1 (.int .i64 pa)).boxSet 2 rfl 2 (.int .i64 pl)).boxSet 2 rfl 3 (.int .i64 pm)
          refine bodyPost_ret (v := .tuple #[.agg #[.int .i64 5, .int .i64 pa, .int .i64 pl, .int .i64 pm], .bool true]) (by simp [results, Tryz.results5, go_sem, q0, q1, q2, q3]) rfl ⟨by rw [HN.out, HR.out]; rfl, SZ.1⟩
        · have HN := Lib.hid (show ok = false from by rw [HOKM.out]; simp [hf])
          have HR := Lib.hid (HNO.out HN.out)
          have hne := str_ne hf
          obtain ⟨q0, q1, q2, q3, qf⟩ := (S9.out.bk 2 rfl).c4
          clear hf hf0
          go_wp2
          have SZ := (((S9.out.boxSet 2 rfl 0 (.int .i64 0)).boxSet 2 rfl 1 (.int .i64 0)).boxSet 2 rfl 2 (.int .i64 0)).boxSet 2 rfl 3 (.int .i64 0)
          refine bodyPost_ret (v := .tuple #[.agg #[.int .i64 0, .int .i64 0, .int .i64 0, .int .i64 0], .bool false]) (by simp [results, Tryz.results5, go_sem, q0, q1, q2, q3]) rfl ⟨by rw [HN.out, HR.out]; rfl, SZ.1⟩
      have HG1 := Lib.hid (show gm = ⟨kk, pa, 0, 0⟩ from by rw [HG.out, if_neg k2, if_neg k3, if_neg k4, if_neg k5])
      have t2 : (kk == 2) = false := by simpa using k2
      have t3 : (kk == 3) = false := by simpa using k3
      have t4 : (kk == 4) = false := by simpa using k4
      have t5 : (kk == 5) = false := by simpa using k5
      clear HG k2 k3 k4 k5 S5
      have SE := Lib.hid (show Sn w _ [boxI g 30 [.int .i64 kk, .int .i64 pa, .int .i64 0, .int .i64 0], ⟨flat 9 (X.map Value.string), .slice (some ⟨bb, o, none⟩) X.length cu, F2⟩, boxI (w.heap.size + 1) 30 [.int .i64 0, .int .i64 0, .int .i64 0, .int .i64 0], boxI w.heap.size 37 [.int .i64 p.dl, .slice A1 p.acts.length c1, .slice A2 p.lks.length c2, .slice A3 p.ress.length c3, .slice A4 p.stk.length c4]] from S6.out)
      obtain rfl := HG1.out
      clear S6 HY
      generalize hgm : (⟨kk, pa, 0, 0⟩ : Ru) = gm at HOKM HYES
      have HGM := Lib.hid hgm
      clear hgm HG1
      obtain ⟨e0, e1, e2, e3, ef⟩ := (SE.out.bk 0 rfl).c4
      obtain ⟨p0, p1, p2, p3, p4, pf⟩ := (SE.out.bk 3 rfl).c5
      go_wp2_with fail
      clear e0 e1 e2 e3 ef
      clear p0 p1 p2 p3 p4 pf
      refine (specFormatRule_any p ⟨kk, pa, 0, 0⟩ _ _ (by exact SE.out.old HV.out) HK.out).mono ?_
      rintro e w8 ⟨rfl, b8⟩
      have S8 := Lib.hid (SE.out.go b8)
      rw [HGM.out]
      clear SE b8
      generalize hfm : fmtRuB p gm = fm at HOKM ⊢
      have HFM := Lib.hid hfm
      clear hfm
      by_cases hf0 : fm = ⟨#[]⟩
      · have HN := Lib.hid (show ok = false from by rw [HOKM.out]; simp [hf0])
        have HR := Lib.hid (HNO.out HN.out)
        have hb : (fm.toList == (⟨#[]⟩ : ByteArray).toList) = true := by rw [hf0]; simp
        have hb2 := hb
        simp at hb2
        clear hf0
        obtain ⟨q0, q1, q2, q3, qf⟩ := (S8.out.bk 2 rfl).c4
        go_wp2
        have SZ := (((S8.out.boxSet 2 rfl 0 (.int .i64 0)).boxSet 2 rfl 1 (.int .i64 0)).boxSet 2 rfl 2 (.int .i64 0)).boxSet 2 rfl 3 (.int .i64 0)
        refine bodyPost_ret (v := .tuple #[.agg #[.int .i64 0, .int .i64 0, .int .i64 0, .int .i64 0], .bool false]) (by simp [results, Tryz.results5, go_sem, q0, q1, q2, q3]) rfl ⟨by rw [HN.out, HR.out]; rfl, SZ.1⟩
      have hn0 : (fm.toList == (⟨#[]⟩ : ByteArray).toList) = false := str_ne hf0
      have hn1 : ¬ fm.toList = [] := fun h => by rw [h] at hn0; simp at hn0
      have hn2 : fm.toList.isEmpty = false := by simpa using hn1
      clear hn0
      obtain ⟨e0, e1, e2, e3, ef⟩ := (S8.out.bk 0 rfl).c4
      obtain ⟨p0, p1, p2, p3, p4, pf⟩ := (S8.out.bk 3 rfl).c5
      go_wp2_with fail
      clear e0 e1 e2 e3 ef
      clear p0 p1 p2 p3 p4 pf
      refine (specFormatRule_any p ⟨kk, pa, 0, 0⟩ _ _ (by exact S8.out.old HV.out) HK.out).mono ?_
      rintro e w9 ⟨rfl, b9⟩
      have S9 := Lib.hid (S8.out.go b9)
      rw [HGM.out, HFM.out]
      clear S8 b9
      by_cases hf : fm = x
      · have HN := Lib.hid (show ok = true from by rw [HOKM.out]; simp [hf0, ← hf])
        have HR := Lib.hid ((HYES.out HN.out).trans HGM.out.symm)
        obtain ⟨e0, e1, e2, e3, ef⟩ := (S9.out.bk 0 rfl).c4
        obtain ⟨q0, q1, q2, q3, qf⟩ := (S9.out.bk 2 rfl).c4
        clear hf0
        subst hf
        go_wp2
        have SZ := (((S9.out.boxSet 2 rfl 0 (.int .i64 kk)).boxSet 2 rfl 1 (.int .i64 pa)).boxSet 2 rfl 2 (.int .i64 0)).boxSet 2 rfl 3 (.int .i64 0)
        refine bodyPost_ret (v := .tuple #[.agg #[.int .i64 kk, .int .i64 pa, .int .i64 0, .int .i64 0], .bool true]) (by simp [results, Tryz.results5, go_sem, q0, q1, q2, q3]) rfl ⟨by rw [HN.out, HR.out]; rfl, SZ.1⟩
      · have HN := Lib.hid (show ok = false from by rw [HOKM.out]; simp [hf])
        have HR := Lib.hid (HNO.out HN.out)
        have hne := str_ne hf
        obtain ⟨q0, q1, q2, q3, qf⟩ := (S9.out.bk 2 rfl).c4
        clear hf hf0
        go_wp2
        have SZ := (((S9.out.boxSet 2 rfl 0 (.int .i64 0)).boxSet 2 rfl 1 (.int .i64 0)).boxSet 2 rfl 2 (.int .i64 0)).boxSet 2 rfl 3 (.int .i64 0)
        refine bodyPost_ret (v := .tuple #[.agg #[.int .i64 0, .int .i64 0, .int .i64 0, .int .i64 0], .bool false]) (by simp [results, Tryz.results5, go_sem, q0, q1, q2, q3]) rfl ⟨by rw [HN.out, HR.out]; rfl, SZ.1⟩
end Go.Proofs.YtaglfdkeomjpdabGreatDoor
end

section
namespace Go.Proofs.YtaglfdkeomjpdabGreatDoor
open Go.RowKit
set_option linter.unusedVariables false
set_option maxRecDepth 100000 in
set_option maxHeartbeats 4000000 in
theorem walkFnExactParseRule (v0 : Value) (d0 : Pj) (a1 : ByteArray) (w : World) (hr0 : (trPj d0).rd w v0) (hk0 : (trPj d0).ok) (hs1 : a1.size ≤ maxLen) (ht : TB w) :
    Calls Tryz.prog 3 #[v0, .string a1] w fun e w' => e = .returned (.bool true) ∧ Below w.heap.size w w' := by
  have HK0 := Lib.hid hk0
  have HR0 := Lib.hid hr0
  obtain ⟨U0_1, u0_1, U0_2, u0_2, U0_3, u0_3, U0_4, u0_4, rfl, _, _, _, _⟩ := rdProject_t hr0
  clear hk0 hr0
  have hs1' := hs1
  unfold maxLen at hs1'
  have HSz1 := Lib.hid hs1
  clear hs1
  have T0 := Lib.hid ht
  clear ht
  have S0 := Lib.hid (Sn.start w)
  have S1 := Lib.hid (S0.out.box 27 [.int .i64 d0.dl, .slice U0_1 d0.acts.length u0_1, .slice U0_2 d0.lks.length u0_2, .slice U0_3 d0.ress.length u0_3, .slice U0_4 d0.stk.length u0_4])
  clear S0
  by_cases hbig1 : (1048576 : Int) < a1.size
  · go_enter Tryz.func3, Tryz.ntmps3
    go_wp2
    go_ret
    exact ⟨rfl, S1.out.1⟩
  have hl1 : a1.size ≤ 1048576 := by omega
  clear hbig1
  go_enter Tryz.func3, Tryz.ntmps3
  go_wp2_with fail
  refine (szProject_t d0 _ (1048576) _ (by exact S1.out.old HR0.out) HK0.out (by omega) (by omega)).mono ?_
  rintro e w2 ⟨rfl, b⟩
  have S2 := Lib.hid (S1.out.go b)
  clear S1 b
  generalize hz0 : (trPj d0).sz = z0
  have HZ0 := Lib.hid hz0
  clear hz0
  by_cases hbig0 : (1048576 : Int) < (z0 : Int)
  · rw [if_pos hbig0]
    go_wp2
    go_ret
    exact ⟨rfl, S2.out.1⟩
  rw [if_neg hbig0]
  have hq0 : 0 ≤ (1048576 - (z0 : Int) : Int) := by omega
  have hb0 : z0 ≤ 1048576 := by omega
  obtain ⟨c0, c1, c2, c3, c4, cf⟩ := (S2.out.bk 0 rfl).c5
  go_wp2_with fail
  clear c0 c1 c2 c3 c4 cf
  refine (toProject_t d0 _ _ (by exact S2.out.old HR0.out) (by have := HZ0.out; omega)).mono ?_
  rintro e w3 ⟨v3_, F3, rfl, o, h, b⟩
  have S3 := Lib.hid (S2.out.new o h b)
  clear S2 o h b
  go_wp2_with fail
  refine (specParseRule_any d0 a1 _ _ (by exact S3.out.rd 0 rfl) HK0.out (by omega)).mono ?_
  rintro e w4 ⟨rfl, b⟩
  generalize hrr : resR d0 a1 = rr
  generalize hok : okM d0 a1 = ok
  have HRR := Lib.hid hrr
  have HOK := Lib.hid hok
  clear hrr hok
  obtain ⟨ki, a, b9, c⟩ := rr
  unfold ruV
  have S4 := Lib.hid ((S3.out.go b).box 30 [.int .i64 ki, .int .i64 a, .int .i64 b9, .int .i64 c])
  clear S3 b
  obtain ⟨c0, c1, c2, c3, c4, cf⟩ := (S4.out.bk 2 rfl).c5
  go_wp2_with fail
  clear c0 c1 c2 c3 c4 cf
  refine (toProject_t d0 _ _ (by exact S4.out.old HR0.out) (by have := HZ0.out; omega)).mono ?_
  rintro e w5 ⟨v5_, F5, rfl, o, h, b⟩
  obtain ⟨X5_1, x5_1, X5_2, x5_2, X5_3, x5_3, X5_4, x5_4, rfl, _, _, _, _⟩ := rdProject_t (Tr.own_rd _ _ _ o)
  have S5 := Lib.hid ((S4.out.new o h b).box 37 [.int .i64 d0.dl, .slice X5_1 d0.acts.length x5_1, .slice X5_2 d0.lks.length x5_2, .slice X5_3 d0.ress.length x5_3, .slice X5_4 d0.stk.length x5_4])
  clear S4 o h b
  obtain ⟨x0, x1, x2, x3, x4, xf⟩ := (S5.out.bk 0 rfl).c5
  go_wp2_with fail
  clear x0 x1 x2 x3 x4 xf
  refine (implParseRule_any d0 a1 _ _ (by exact S5.out.rd 1 rfl) HK0.out (by omega) (by exact T0.out.below S5.out.1 (Nat.le_refl _))).mono ?_
  rintro e w6 ⟨rfl, b⟩
  rw [HRR.out, HOK.out]
  unfold ruV
  have S6 := Lib.hid ((S5.out.go b).box 30 [.int .i64 ki, .int .i64 a, .int .i64 b9, .int .i64 c])
  clear S5 b
  obtain ⟨c0, c1, c2, c3, cf⟩ := (S6.out.bk 0 rfl).c4
  obtain ⟨x0, x1, x2, x3, xf⟩ := (S6.out.bk 3 rfl).c4
  go_wp2_with fail
  clear c0 c1 c2 c3 cf x0 x1 x2 x3 xf
  refine (eqRule_t ⟨ki, a, b9, c⟩ _ _ _ (by exact mk_rdRule_t (d := ⟨ki, a, b9, c⟩)) (by exact mk_rdRule_t (d := ⟨ki, a, b9, c⟩))).mono ?_
  rintro e w7 ⟨rfl, b⟩
  have S7 := Lib.hid (S6.out.go b)
  clear S6 b
  obtain ⟨c0, c1, c2, c3, c4, cf⟩ := (S7.out.bk 1 rfl).c5
  obtain ⟨g0, g1, g2, g3, g4, gf⟩ := (S7.out.bk 5 rfl).c5
  have S8 := Lib.hid (S7.out.drew1)
  clear S7
  go_wp2_with fail
  go_region_with (first
    | (go_at_call 6; refine (toProject_t d0 _ _ (by exact S8.out.old HR0.out) (by have := HZ0.out; omega)).mono ?_; rintro e w9 ⟨v9_, F9, rfl, o, h, b⟩; have S9 := Lib.hid (S8.out.new o h b); obtain ⟨e0, e1, e2, e3, e4, ef⟩ := (S9.out.bk 2 rfl).c5; clear S8 o h b)
    | (go_at_call 9; refine (eqProject_t d0 _ _ _ (by exact S9.out.rd 3 rfl) (by exact S9.out.rd 0 rfl)).mono ?_; rintro e w10 ⟨rfl, b⟩; have S10 := Lib.hid (S9.out.go b); clear S9 b))
  all_goals
    clear c0 c1 c2 c3 c4 cf g0 g1 g2 g3 g4 gf
    try clear e0 e1 e2 e3 e4 ef
    go_wp2
    go_ret
    exact ⟨rfl, S10.out.1⟩
end Go.Proofs.YtaglfdkeomjpdabGreatDoor
end
