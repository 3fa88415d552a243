/- DERIVED. CONTRACTS: FormatRule of the model. -/
import Derived.Test.YtaglfdkeomjpdabGreatDoorFrG
import Derived.Test.YtaglfdkeomjpdabGreatDoorSplit
import Derived.Test.YtaglfdkeomjpdabGreatDoorRuO
import Derived.Deep.AppendLies

section
namespace Go.Proofs.YtaglfdkeomjpdabGreatDoor
open Go.RowKit Go.Shelf
set_option linter.unusedVariables false

def eS : ByteArray := ⟨#[]⟩
def nk (p : Pj) (W : List ByteArray) (k i : Nat) : Int := if i < k then numR p (W.getD (i + 1) eS) else 0
def arrK (p : Pj) (W : List ByteArray) (k : Nat) : List Value := [.int .i64 (nk p W k 0), .int .i64 (nk p W k 1), .int .i64 (nk p W k 2)]
theorem arrK_zero (p : Pj) (W : List ByteArray) : arrK p W 0 = [.int .i64 0, .int .i64 0, .int .i64 0] := rfl
theorem arrK_set (p : Pj) (W : List ByteArray) {k : Nat} (h : k < 3) : (arrK p W k).set k (.int .i64 (numR p (W.getD (k + 1) eS))) = arrK p W (k + 1) := by
  match k, h with
  | 0, _ => rfl
  | 1, _ => rfl
  | 2, _ => rfl
theorem arrK_at (p : Pj) (W : List ByteArray) (k : Nat) {i : Nat} (h : i < 3) : (⟨arrK p W k⟩ : Array Value)[i]? = some (.int .i64 (nk p W k i)) := by
  match i, h with
  | 0, _ => rfl
  | 1, _ => rfl
  | 2, _ => rfl
theorem arrK_len (p : Pj) (W : List ByteArray) (k : Nat) : (arrK p W k).length = 3 := rfl
def gW (p : Pj) (W : List ByteArray) : Ru := ⟨idxS ruNames (W.getD 0 eS), nk p W (W.length - 1) 0, nk p W (W.length - 1) 1, nk p W (W.length - 1) 2⟩
theorem gP_gW (p : Pj) (s : ByteArray) : gP p s = gW p (splitB s spS) := by
  have h := (splitB_len s spS).1
  unfold gP gW numW nk wd eS
  simp only [Ru.mk.injEq]
  refine ⟨trivial, ?_, ?_, ?_⟩
  · split <;> split <;> first | rfl | omega
  · split <;> split <;> first | rfl | omega
  · split <;> split <;> first | rfl | omega
theorem okP_short {p : Pj} {s : ByteArray} (h : ¬ 2 ≤ (splitB s spS).length) : okP' p s = false := by rw [okP', lenP]; simp [h]
theorem okP_long {p : Pj} {s : ByteArray} (h : ¬ (splitB s spS).length ≤ 4) : okP' p s = false := by rw [okP', lenP]; simp [h]
theorem okP_cmp {p : Pj} {s : ByteArray} (h : 2 ≤ (splitB s spS).length) (h4 : (splitB s spS).length ≤ 4) : okP' p s = decide (fmtRuB p (gW p (splitB s spS)) = s) := by
  rw [okP', lenP, ← gP_gW]; simp [h, h4]
theorem own_cap {w : World} {base n size m c : Nat} {e : TypeId} {A : Option Addr} {xs : List Value} (h : w.ownsRow base e size (.slice A m c) n xs) : m ≤ c := by
  rcases h.2 with ⟨h2, _⟩ | ⟨g, cap, cur, h2, _, _, hnc, _⟩
  · injection h2 with _ h3 h4
    omega
  · injection h2 with _ h3 h4
    omega
theorem wS_at {W : List ByteArray} {k : Nat} (h : k < W.length) : W[k] = W.getD k eS := by simp [List.getD, List.getElem?_eq_getElem h]
theorem wS_size {x : ByteArray} {W : List ByteArray} (h : ∀ y ∈ W, y.size ≤ x.size) (k : Nat) : (W.getD k eS).size ≤ x.size := by
  by_cases hk : k < W.length
  · rw [← wS_at hk]; exact h _ (List.getElem_mem hk)
  · rw [List.getD, List.getElem?_eq_none (by omega)]
    show 0 ≤ _
    omega
set_option maxRecDepth 100000 in
set_option maxHeartbeats 8000000 in
theorem implParseRule_any (p : Pj) (x : ByteArray) (v : Value) (w : World) (hv : (trPj p).rd w v) (hk : (trPj p).ok) (hx : x.size ≤ 1048576) (ht : TB w) :
    Calls Tryz.prog 7 #[v, .string x] w fun e w' => e = .returned (.tuple #[ruV (resR p x), .bool (okM p x)]) ∧ Below w.heap.size w w' := by
  have HT := Lib.hid ht
  have HK := Lib.hid hk
  have HV := Lib.hid hv
  obtain ⟨A1, c1, A2, c2, A3, c3, A4, c4, rfl, _⟩ := rdProject_t hv
  have S0 := Lib.hid (((Sn.start w).box 37 [.int .i64 p.dl, .slice A1 p.acts.length c1, .slice A2 p.lks.length c2, .slice A3 p.ress.length c3, .slice A4 p.stk.length c4]).box 30 [.int .i64 0, .int .i64 0, .int .i64 0, .int .i64 0])
  simp only [World.size_alloc] at S0
  clear ht hk hv
  have hW := splitB_len x spS
  have HSZ := Lib.hid (split_size x spS)
  have HNO := Lib.hid (fun h => @resP_no p x h)
  have HYES := Lib.hid (fun h => @resP_yes p x h)
  have HSH := Lib.hid (fun h => @okP_short p x h)
  have HLO := Lib.hid (fun h => @okP_long p x h)
  have HCM := Lib.hid (fun h h4 => @okP_cmp p x h h4)
  have HGG := Lib.hid (gP_gW p x)
  generalize resR p x = res at HNO HYES ⊢
  generalize okM p x = ok at HNO HYES ⊢
  generalize gP p x = gp at HYES HGG
  generalize okP' p x = okp at HNO HYES HSH HLO HCM
  go_enter Tryz.func7, Tryz.ntmps7
  go_wp2_with fail
  refine (implSplitAny_any x ⟨#[32]⟩ _ (by omega)).mono ?_
  rintro e w1 ⟨v1, rfl, ho, b⟩
  rw [show splitB x ⟨#[32]⟩ = splitB x spS from rfl] at ho
  have S1 := Lib.hid (S0.out.newI ho b)
  obtain ⟨_, V, cv, rfl, hV⟩ := rd_flat (S1.out.rd 0 rfl)
  have hcap := own_cap ho
  clear ho b S0
  rw [List.length_map] at S1 hcap ⊢
  generalize splitB x spS = W at S1 hcap hW HSZ HSH HLO HCM HGG hV ⊢
  by_cases h2 : 2 ≤ W.length
  rotate_left
  · have HR := Lib.hid (HNO.out (HSH.out h2))
    have hs : (W.length : Int) < 2 := by omega
    obtain ⟨q0, q1, q2, q3, qf⟩ := (S1.out.bk 1 rfl).c4
    clear HNO HYES HSH HLO HCM
    go_wp2
    have SZ := (((S1.out.boxSet 1 rfl 0 (.int .i64 0)).boxSet 1 rfl 1 (.int .i64 0)).boxSet 1 rfl 2 (.int .i64 0)).boxSet 1 rfl 3 (.int .i64 0)
    refine bodyPost_ret (v := .tuple #[.agg #[.int .i64 0, .int .i64 0, .int .i64 0, .int .i64 0], .bool false]) (by simp [results, Tryz.results7, go_sem, q0, q1, q2, q3]) rfl ⟨by rw [HR.out.1, HR.out.2]; rfl, SZ.1⟩
  have hs : ¬ (W.length : Int) < 2 := by omega
  by_cases h4 : W.length ≤ 4
  rotate_left
  · have HR := Lib.hid (HNO.out (HLO.out h4))
    have hs4 : (4 : Int) < (W.length : Int) := by omega
    obtain ⟨q0, q1, q2, q3, qf⟩ := (S1.out.bk 1 rfl).c4
    clear HNO HYES HSH HLO HCM
    go_wp2
    have SZ := (((S1.out.boxSet 1 rfl 0 (.int .i64 0)).boxSet 1 rfl 1 (.int .i64 0)).boxSet 1 rfl 2 (.int .i64 0)).boxSet 1 rfl 3 (.int .i64 0)
    refine bodyPost_ret (v := .tuple #[.agg #[.int .i64 0, .int .i64 0, .int .i64 0, .int .i64 0], .bool false]) (by simp [results, Tryz.results7, go_sem, q0, q1, q2, q3]) rfl ⟨by rw [HR.out.1, HR.out.2]; rfl, SZ.1⟩
  have hs4 : ¬ (4 : Int) < (W.length : Int) := by omega
  rcases hV with hV | ⟨bb, o, rfl, hbb, hcc⟩
  · rw [List.map_eq_nil_iff] at hV; rw [hV] at h2; simp at h2
  obtain ⟨m, hm⟩ : ∃ m, W.length = m + 1 := ⟨W.length - 1, by omega⟩
  have HM := Lib.hid hm
  rw [hm] at S1 hs hs4 hcap ⊢
  have hm1 : 1 ≤ m := by omega
  have hm3 : m ≤ 3 := by omega
  have hcv : ¬ cv = 1 := by omega
  have S2 := Lib.hid (S1.out.box 57 (arrK p W 0))
  have hlt1 : w1.heap.size < (w1.alloc (.cells #[.int .i64 0, .int .i64 0, .int .i64 0] 57)).heap.size := by simp
  generalize hFv : (Value.slice (some ⟨bb, o, none⟩) (m + 1) cv).ownBlock.toList = Fv at S2
  clear hcc hm h2 h4 hFv S1 hcap
  go_wp2_with fail
  clear hlt1
  generalize w1.heap.size = g at S2 ⊢
  go_loopw [25] (fun i wr => ∃ k : Nat, k ≤ m ∧ i = .int .i64 k ∧ Sn w wr [boxI g 57 (arrK p W k), ⟨flat 9 (W.map .string), .slice (some ⟨bb, o, none⟩) (m + 1) cv, Fv⟩, boxI (w.heap.size + 1) 30 [.int .i64 0, .int .i64 0, .int .i64 0, .int .i64 0], boxI w.heap.size 37 [.int .i64 p.dl, .slice A1 p.acts.length c1, .slice A2 p.lks.length c2, .slice A3 p.ress.length c3, .slice A4 p.stk.length c4]]) (fun i _ => m - (intOf i).toNat)
  case atStart => exact ⟨0, Nat.zero_le _, rfl, S2.out⟩
  case round =>
    obtain ⟨k, hkl, rfl, hS⟩ := hrel
    have S3 := Lib.hid hS
    clear hS S2
    have HC := Lib.hid (show bb < wr.heap.size ∧ ∀ j, (h : j < W.length) → wr.cell? ⟨bb, o + j, none⟩ = some (.string W[j]) from by
      obtain ⟨_, V2, cv2, he, hcc⟩ := rd_flat (S3.out.rd 1 rfl)
      injection he with he hlen he2
      subst he he2
      rcases hcc with hcc | ⟨b3, o3, he, hbb3, hcc⟩
      · rw [List.map_eq_nil_iff] at hcc; rw [hcc] at hW; simp at hW
      · injection he with he
        injection he with he he2
        subst he he2
        exact ⟨hbb3, fun j h => by have e := hcc j (by rw [List.length_map]; exact h); rw [List.getElem_map] at e; exact e⟩)
    by_cases hlt : k < m
    · have hlt' : (k : Int) < (m : Int) := by omega
      have k0 : (0 : Int) ≤ (k : Int) := by omega
      have hk3 : (k : Int) < 3 := by omega
      have yk := HC.out.2 (k + 1) (by have := HM.out; omega)
      rw [wS_at, show o + (k + 1) = o + 1 + k from by omega] at yk
      have hsz := wS_size HSZ.out (k + 1)
      have HST := Lib.hid (arrK_set p W (k := k) (by omega))
      generalize W.getD (k + 1) eS = y at yk hsz HST
      obtain ⟨p0, p1, p2, p3, p4, pf⟩ := (S3.out.bk 3 rfl).c5
      go_wp2_with fail
      clear p0 p1 p2 p3 p4 pf
      clear yk
      refine (ruleNumber_any p y _ _ (by exact S3.out.old HV.out) HK.out (HT.out.below S3.out.1 (Nat.le_refl _)) (by omega)).mono ?_
      rintro e w3 ⟨rfl, bw⟩
      have S4 := Lib.hid (S3.out.go bw)
      have hc := ((S4.out.bk 0 rfl).cell k).trans (arrK_at p W k (i := k) (by omega))
      have hf := (S4.out.bk 0 rfl).frozen
      have S5 := S4.out.boxSet 0 rfl k (.int .i64 (numR p y))
      rw [HST.out] at S5
      have S6 := Lib.hid S5
      clear S3 S4 S5 HST bw HC
      generalize numR p y = nv at S6 ⊢
      generalize nk p W k k = z at hc
      go_wp2
      go_roundw
      case rel => exact ⟨k + 1, by omega, by go_num, S6.out⟩
      case measure => simp [intOf]; omega
    · have hge : ¬ (k : Int) < (m : Int) := by omega
      obtain rfl : k = m := by omega
      have y0 := HC.out.2 0 (by omega)
      rw [wS_at, Nat.add_zero] at y0
      have hbw := HC.out.1
      have HG2 := Lib.hid (show gp = ⟨idxS ruNames (W.getD 0 eS), nk p W k 0, nk p W k 1, nk p W k 2⟩ from by rw [HGG.out, gW, HM.out]; rfl)
      have HCMP := Lib.hid (HCM.out (by have := HM.out; omega) (by have := HM.out; omega))
      rw [← HGG.out] at HCMP
      rw [HG2.out] at HCMP HYES
      generalize W.getD 0 eS = ky at y0 HCMP HYES
      clear HG2 HGG HCM HSH HLO HC
      have S3a : Sn w wr [boxI g 57 [.int .i64 (nk p W k 0), .int .i64 (nk p W k 1), .int .i64 (nk p W k 2)], ⟨flat 9 (W.map .string), .slice (some ⟨bb, o, none⟩) (k + 1) cv, Fv⟩, boxI (w.heap.size + 1) 30 [.int .i64 0, .int .i64 0, .int .i64 0, .int .i64 0], boxI w.heap.size 37 [.int .i64 p.dl, .slice A1 p.acts.length c1, .slice A2 p.lks.length c2, .slice A3 p.ress.length c3, .slice A4 p.stk.length c4]] := S3.out
      have S4 := Lib.hid S3a
      clear S3 S3a
      generalize nk p W k 0 = n0 at S4 HCMP HYES
      generalize nk p W k 1 = n1 at S4 HCMP HYES
      generalize nk p W k 2 = n2 at S4 HCMP HYES
      obtain ⟨a0, a1, a2, af⟩ := (S4.out.bk 0 rfl).c3
      have hgl := (S4.out.bk 0 rfl).lt
      have hq1 : (0 : Int) < (k : Int) + 1 := by omega
      have hq2 : (0 : Int) < ((k + 1 : Nat) : Int) := by omega
      have hq3 : 0 < k + 1 := by omega
      go_wp2_with fail
      have CE := Lib.hid (fun (W : World) (h : Below wr.heap.size wr W) => show Hid (Below wr.heap.size wr W) ∧ W.cell? ⟨bb, o, none⟩ = some (.string ky) ∧ W.cell? ⟨g, 0, none⟩ = some (.int .i64 n0) ∧ W.cell? ⟨g, 1, none⟩ = some (.int .i64 n1) ∧ W.cell? ⟨g, 2, none⟩ = some (.int .i64 n2) from ⟨Lib.hid h, (h.cell (p := ⟨bb, o, none⟩) hbw).trans y0, (h.cell (p := ⟨g, 0, none⟩) hgl).trans a0, (h.cell (p := ⟨g, 1, none⟩) hgl).trans a1, (h.cell (p := ⟨g, 2, none⟩) hgl).trans a2⟩)
      refine wp_region_held_drew (S := fun W => Hid (Below wr.heap.size wr W) ∧ W.cell? ⟨bb, o, none⟩ = some (.string ky) ∧ W.cell? ⟨g, 0, none⟩ = some (.int .i64 n0) ∧ W.cell? ⟨g, 1, none⟩ = some (.int .i64 n1) ∧ W.cell? ⟨g, 2, none⟩ = some (.int .i64 n2)) (by kernel_rfl) (CE.out _ (Below.refl _ _).drew) (fun hHeld => ?_)
      clear y0 a0 a1 a2 af
      refine wpAnyH_take (i := 1) (v := ?_) rfl (by kernel_rfl) (by kernel_rfl) (by kernel_rfl) (fun _ _ _ h => h) (Or.inl ⟨by rfl, ?_⟩) (by assumption) ?_
      rotate_left
      · (intro W hSw; (try dsimp only at hSw); go_simp <;> with_reducible rfl)
      (try simp only [Act.put, List.getElem_toArray, List.getElem_cons_succ, List.getElem_cons_zero, List.setIfInBounds_toArray, List.set_cons_succ, List.set_cons_zero])
      refine wpAnyH_take (i := 2) (v := ?_) rfl (by kernel_rfl) (by kernel_rfl) (by kernel_rfl) (fun _ _ _ h => h) (Or.inl ⟨by rfl, ?_⟩) (by assumption) ?_
      rotate_left
      · (intro W hSw; (try dsimp only at hSw); go_simp <;> with_reducible rfl)
      (try simp only [Act.put, List.getElem_toArray, List.getElem_cons_succ, List.getElem_cons_zero, List.setIfInBounds_toArray, List.set_cons_succ, List.set_cons_zero])
      refine wpAnyH_take (i := 3) (v := ?_) rfl (by kernel_rfl) (by kernel_rfl) (by kernel_rfl) (fun _ _ _ h => h) (Or.inl ⟨by rfl, ?_⟩) (by assumption) ?_
      rotate_left
      · (intro W hSw; (try dsimp only at hSw); go_simp <;> with_reducible rfl)
      (try simp only [Act.put, List.getElem_toArray, List.getElem_cons_succ, List.getElem_cons_zero, List.setIfInBounds_toArray, List.set_cons_succ, List.set_cons_zero])
      refine wpAnyH_take (i := 5) (v := ?_) rfl (by kernel_rfl) (by kernel_rfl) (by kernel_rfl) (fun _ _ _ h => h) (Or.inl ⟨by rfl, ?_⟩) (by assumption) ?_
      rotate_left
      · (intro W hSw; (try dsimp only at hSw); go_simp <;> with_reducible rfl)
      (try simp only [Act.put, List.getElem_toArray, List.getElem_cons_succ, List.getElem_cons_zero, List.setIfInBounds_toArray, List.set_cons_succ, List.set_cons_zero])
      refine wpAnyH_take (i := 6) (v := ?_) rfl (by kernel_rfl) (by kernel_rfl) (by kernel_rfl) (fun _ _ _ h => h) (Or.inl ⟨by rfl, ?_⟩) (by assumption) ?_
      rotate_left
      · (intro W hSw; (try dsimp only at hSw); go_simp <;> with_reducible rfl)
      (try simp only [Act.put, List.getElem_toArray, List.getElem_cons_succ, List.getElem_cons_zero, List.setIfInBounds_toArray, List.set_cons_succ, List.set_cons_zero])
      refine wpAnyH_take (i := 7) (v := ?_) rfl (by kernel_rfl) (by kernel_rfl) (by kernel_rfl) (fun _ _ _ h => h) (Or.inl ⟨by rfl, ?_⟩) (by assumption) ?_
      rotate_left
      · (intro W hSw; (try dsimp only at hSw); go_simp <;> with_reducible rfl)
      (try simp only [Act.put, List.getElem_toArray, List.getElem_cons_succ, List.getElem_cons_zero, List.setIfInBounds_toArray, List.set_cons_succ, List.set_cons_zero])
      refine wpAnyH_take (i := 8) (v := ?_) rfl (by kernel_rfl) (by kernel_rfl) (by kernel_rfl) (fun _ _ _ h => h) (Or.inl ⟨by rfl, ?_⟩) (by assumption) ?_
      rotate_left
      · (intro W hSw; (try dsimp only at hSw); go_simp <;> with_reducible rfl)
      (try simp only [Act.put, List.getElem_toArray, List.getElem_cons_succ, List.getElem_cons_zero, List.setIfInBounds_toArray, List.set_cons_succ, List.set_cons_zero])
      refine wpAnyH_take (i := 9) (v := ?_) rfl (by kernel_rfl) (by kernel_rfl) (by kernel_rfl) (fun _ _ _ h => h) (Or.inl ⟨by rfl, ?_⟩) (by assumption) ?_
      rotate_left
      · (intro W hSw; (try dsimp only at hSw); go_simp <;> with_reducible rfl)
      (try simp only [Act.put, List.getElem_toArray, List.getElem_cons_succ, List.getElem_cons_zero, List.setIfInBounds_toArray, List.set_cons_succ, List.set_cons_zero])
      refine wpAnyH_take (i := 10) (v := ?_) rfl (by kernel_rfl) (by kernel_rfl) (by kernel_rfl) (fun _ _ _ h => h) (Or.inl ⟨by rfl, ?_⟩) (by assumption) ?_
      rotate_left
      · (intro W hSw; (try dsimp only at hSw); go_simp <;> with_reducible rfl)
      (try simp only [Act.put, List.getElem_toArray, List.getElem_cons_succ, List.getElem_cons_zero, List.setIfInBounds_toArray, List.set_cons_succ, List.set_cons_zero])
      have B0 := Lib.hid ((Below.refl wr.heap.size wr).drew)
      have SD := Lib.hid S4.out.drew1
      refine wpAnyH_ready (rs := [0, 12]) (by kernel_rfl) (by simp) ?_
      refine AllReadyH.cons rfl (fun K hK => ?_) (AllReadyH.cons rfl (fun K hK => ?_) AllReadyH.nil)
      · go_simp
        refine (ruleNames_any _).mono ?_
        rintro e w3 ⟨u, rfl, hr, bb1⟩
        have B1 := Lib.hid (B0.out.trans (bb1.mono B0.out.size))
        have S5 := Lib.hid (SD.out.go bb1)
        obtain ⟨U, uc, hue⟩ : ∃ U uc, u = .slice U 7 uc := by obtain ⟨_, U, uc, e, _⟩ := hr; exact ⟨U, uc, e⟩
        subst hue
        have HR := Lib.hid hr
        (first | done | go_wp2_with fail | skip)
        refine hK.out _ _ (CE.out _ B1.out) (fun hH1 => ?_)
        clear hK K bb1 hr
        refine wpAnyH_ready (rs := [4, 12]) (by kernel_rfl) (by simp) ?_
        refine AllReadyH.cons rfl (fun K hK => ?_) (AllReadyH.cons rfl (fun K hK => ?_) AllReadyH.nil)
        · go_simp
          refine (indexS_any ruNames ky _ _ (by exact HR.out)).mono ?_
          rintro e w5 ⟨rfl, rfl⟩
          (first | done | go_wp2_with fail | skip)
          refine hK.out _ _ (CE.out _ B1.out) (fun hH2 => ?_)
          clear hK K
          refine wpAnyH_take (i := 11) (v := ?_) rfl (by kernel_rfl) (by kernel_rfl) (by kernel_rfl) (fun _ _ _ h => h) (Or.inl ⟨by rfl, ?_⟩) (by assumption) ?_
          rotate_left
          · (intro W hSw; (try dsimp only at hSw); go_simp <;> with_reducible rfl)
          (try simp only [Act.put, List.getElem_toArray, List.getElem_cons_succ, List.getElem_cons_zero, List.setIfInBounds_toArray, List.set_cons_succ, List.set_cons_zero])
          refine wpAnyH_ready (rs := [12]) (by kernel_rfl) (by simp) ?_
          refine AllReadyH.cons rfl (fun K hK => ?_) AllReadyH.nil
          go_simp
          have B2 := Lib.hid (B1.out.alloc B1.out.size (.cells #[.int .i64 0, .int .i64 0, .int .i64 0, .int .i64 0] 30))
          have S6 := Lib.hid (S5.out.box 30 [.int .i64 0, .int .i64 0, .int .i64 0, .int .i64 0])
          (try simp only [World.size_drew] at S6)
          refine hK.out _ _ (CE.out _ B2.out) (fun hH3 => ?_)
          clear hK K
          obtain ⟨q0, q1, q2, q3, qf⟩ := (S6.out.bk 0 rfl).c4
          refine wpAnyH_ready (rs := [13]) (by kernel_rfl) (by simp) ?_
          refine AllReadyH.cons rfl (fun K hK => ?_) AllReadyH.nil
          go_simp
          refine hK.out _ _ (CE.out _ (B1.out.alloc B1.out.size _)) (fun hLast => ?_)
          clear hK K
          have S7 := Lib.hid (S5.out.box 30 [.int .i64 (idxS ruNames ky), .int .i64 n0, .int .i64 n1, .int .i64 n2])
          refine wpAnyH_done (by kernel_rfl) ?_ _
          clear hLast hHeld CE q0 q1 q2 q3 qf
          generalize idxS ruNames ky = kk at S7 HCMP HYES ⊢
          obtain ⟨p0, p1, p2, p3, p4, pf⟩ := (S7.out.bk 4 rfl).c5
          obtain ⟨q0, q1, q2, q3, qf⟩ := (S7.out.bk 0 rfl).c4
          go_wp2_with fail
          clear p0 p1 p2 p3 p4 pf
          clear q0 q1 q2 q3 qf
          refine (implFormatRule_any p ⟨kk, n0, n1, n2⟩ _ _ (by exact S7.out.old HV.out) HK.out (HT.out.below S7.out.1 (Nat.le_refl _))).mono ?_
          rintro e w7 ⟨rfl, b7⟩
          have S8 := Lib.hid (S7.out.go b7)
          generalize fmtRuB p ⟨kk, n0, n1, n2⟩ = f at HCMP ⊢
          clear S7 b7
          by_cases hf : f = x
          · have HY := Lib.hid (HYES.out (by rw [HCMP.out]; simp [hf]))
            obtain ⟨e0, e1, e2, e3, ef⟩ := (S8.out.bk 0 rfl).c4
            obtain ⟨q0, q1, q2, q3, qf⟩ := (S8.out.bk 3 rfl).c4
            subst hf
            go_wp2
            have SZ := (((S8.out.boxSet 3 rfl 0 (.int .i64 kk)).boxSet 3 rfl 1 (.int .i64 n0)).boxSet 3 rfl 2 (.int .i64 n1)).boxSet 3 rfl 3 (.int .i64 n2)
            refine bodyPost_ret (v := .tuple #[.agg #[.int .i64 kk, .int .i64 n0, .int .i64 n1, .int .i64 n2], .bool true]) (by simp [results, Tryz.results7, go_sem, q0, q1, q2, q3]) rfl ⟨by rw [HY.out.1, HY.out.2]; rfl, SZ.1⟩
          · have HN := Lib.hid (HNO.out (by rw [HCMP.out]; simp [hf]))
            have hne := str_ne hf
            obtain ⟨q0, q1, q2, q3, qf⟩ := (S8.out.bk 3 rfl).c4
            clear hf
            go_wp2
            have SZ := (((S8.out.boxSet 3 rfl 0 (.int .i64 0)).boxSet 3 rfl 1 (.int .i64 0)).boxSet 3 rfl 2 (.int .i64 0)).boxSet 3 rfl 3 (.int .i64 0)
            refine bodyPost_ret (v := .tuple #[.agg #[.int .i64 0, .int .i64 0, .int .i64 0, .int .i64 0], .bool false]) (by simp [results, Tryz.results7, go_sem, q0, q1, q2, q3]) rfl ⟨by rw [HN.out.1, HN.out.2]; rfl, SZ.1⟩
        · go_simp
          have B2 := Lib.hid (B1.out.alloc B1.out.size (.cells #[.int .i64 0, .int .i64 0, .int .i64 0, .int .i64 0] 30))
          have S6 := Lib.hid (S5.out.box 30 [.int .i64 0, .int .i64 0, .int .i64 0, .int .i64 0])
          (try simp only [World.size_drew] at S6)
          refine hK.out _ _ (CE.out _ B2.out) (fun hH2 => ?_)
          clear hK K
          refine wpAnyH_ready (rs := [4]) (by kernel_rfl) (by simp) ?_
          refine AllReadyH.cons rfl (fun K hK => ?_) AllReadyH.nil
          go_simp
          refine (indexS_any ruNames ky _ _ (by exact HR.out.below ((Below.refl _ _).alloc (Nat.le_refl _) _) (Nat.le_refl _))).mono ?_
          rintro e w5 ⟨rfl, rfl⟩
          (first | done | go_wp2_with fail | skip)
          refine hK.out _ _ (CE.out _ B2.out) (fun hH3 => ?_)
          clear hK K
          refine wpAnyH_take (i := 11) (v := ?_) rfl (by kernel_rfl) (by kernel_rfl) (by kernel_rfl) (fun _ _ _ h => h) (Or.inl ⟨by rfl, ?_⟩) (by assumption) ?_
          rotate_left
          · (intro W hSw; (try dsimp only at hSw); go_simp <;> with_reducible rfl)
          (try simp only [Act.put, List.getElem_toArray, List.getElem_cons_succ, List.getElem_cons_zero, List.setIfInBounds_toArray, List.set_cons_succ, List.set_cons_zero])
          obtain ⟨q0, q1, q2, q3, qf⟩ := (S6.out.bk 0 rfl).c4
          refine wpAnyH_ready (rs := [13]) (by kernel_rfl) (by simp) ?_
          refine AllReadyH.cons rfl (fun K hK => ?_) AllReadyH.nil
          go_simp
          refine hK.out _ _ (CE.out _ (B1.out.alloc B1.out.size _)) (fun hLast => ?_)
          clear hK K
          have S7 := Lib.hid (S5.out.box 30 [.int .i64 (idxS ruNames ky), .int .i64 n0, .int .i64 n1, .int .i64 n2])
          refine wpAnyH_done (by kernel_rfl) ?_ _
          clear hLast hHeld CE q0 q1 q2 q3 qf
          generalize idxS ruNames ky = kk at S7 HCMP HYES ⊢
          obtain ⟨p0, p1, p2, p3, p4, pf⟩ := (S7.out.bk 4 rfl).c5
          obtain ⟨q0, q1, q2, q3, qf⟩ := (S7.out.bk 0 rfl).c4
          go_wp2_with fail
          clear p0 p1 p2 p3 p4 pf
          clear q0 q1 q2 q3 qf
          refine (implFormatRule_any p ⟨kk, n0, n1, n2⟩ _ _ (by exact S7.out.old HV.out) HK.out (HT.out.below S7.out.1 (Nat.le_refl _))).mono ?_
          rintro e w7 ⟨rfl, b7⟩
          have S8 := Lib.hid (S7.out.go b7)
          generalize fmtRuB p ⟨kk, n0, n1, n2⟩ = f at HCMP ⊢
          clear S7 b7
          by_cases hf : f = x
          · have HY := Lib.hid (HYES.out (by rw [HCMP.out]; simp [hf]))
            obtain ⟨e0, e1, e2, e3, ef⟩ := (S8.out.bk 0 rfl).c4
            obtain ⟨q0, q1, q2, q3, qf⟩ := (S8.out.bk 3 rfl).c4
            subst hf
            go_wp2
            have SZ := (((S8.out.boxSet 3 rfl 0 (.int .i64 kk)).boxSet 3 rfl 1 (.int .i64 n0)).boxSet 3 rfl 2 (.int .i64 n1)).boxSet 3 rfl 3 (.int .i64 n2)
            refine bodyPost_ret (v := .tuple #[.agg #[.int .i64 kk, .int .i64 n0, .int .i64 n1, .int .i64 n2], .bool true]) (by simp [results, Tryz.results7, go_sem, q0, q1, q2, q3]) rfl ⟨by rw [HY.out.1, HY.out.2]; rfl, SZ.1⟩
          · have HN := Lib.hid (HNO.out (by rw [HCMP.out]; simp [hf]))
            have hne := str_ne hf
            obtain ⟨q0, q1, q2, q3, qf⟩ := (S8.out.bk 3 rfl).c4
            clear hf
            go_wp2
            have SZ := (((S8.out.boxSet 3 rfl 0 (.int .i64 0)).boxSet 3 rfl 1 (.int .i64 0)).boxSet 3 rfl 2 (.int .i64 0)).boxSet 3 rfl 3 (.int .i64 0)
            refine bodyPost_ret (v := .tuple #[.agg #[.int .i64 0, .int .i64 0, .int .i64 0, .int .i64 0], .bool false]) (by simp [results, Tryz.results7, go_sem, q0, q1, q2, q3]) rfl ⟨by rw [HN.out.1, HN.out.2]; rfl, SZ.1⟩
      · go_simp
        have B1 := Lib.hid (B0.out.alloc B0.out.size (.cells #[.int .i64 0, .int .i64 0, .int .i64 0, .int .i64 0] 30))
        have S5 := Lib.hid (SD.out.box 30 [.int .i64 0, .int .i64 0, .int .i64 0, .int .i64 0])
        (try simp only [World.size_drew] at S5)
        refine hK.out _ _ (CE.out _ B1.out) (fun hH1 => ?_)
        clear hK K
        refine wpAnyH_ready (rs := [0]) (by kernel_rfl) (by simp) ?_
        refine AllReadyH.cons rfl (fun K hK => ?_) AllReadyH.nil
        go_simp
        refine (ruleNames_any _).mono ?_
        rintro e w3 ⟨u, rfl, hr, bb1⟩
        have B2 := Lib.hid (B1.out.trans (bb1.mono B1.out.size))
        have S6 := Lib.hid (S5.out.go bb1)
        obtain ⟨U, uc, hue⟩ : ∃ U uc, u = .slice U 7 uc := by obtain ⟨_, U, uc, e, _⟩ := hr; exact ⟨U, uc, e⟩
        subst hue
        have HR := Lib.hid hr
        (first | done | go_wp2_with fail | skip)
        refine hK.out _ _ (CE.out _ B2.out) (fun hH2 => ?_)
        clear hK K bb1 hr
        refine wpAnyH_ready (rs := [4]) (by kernel_rfl) (by simp) ?_
        refine AllReadyH.cons rfl (fun K hK => ?_) AllReadyH.nil
        go_simp
        refine (indexS_any ruNames ky _ _ (by exact HR.out)).mono ?_
        rintro e w5 ⟨rfl, rfl⟩
        (first | done | go_wp2_with fail | skip)
        refine hK.out _ _ (CE.out _ B2.out) (fun hH3 => ?_)
        clear hK K
        refine wpAnyH_take (i := 11) (v := ?_) rfl (by kernel_rfl) (by kernel_rfl) (by kernel_rfl) (fun _ _ _ h => h) (Or.inl ⟨by rfl, ?_⟩) (by assumption) ?_
        rotate_left
        · (intro W hSw; (try dsimp only at hSw); go_simp <;> with_reducible rfl)
        (try simp only [Act.put, List.getElem_toArray, List.getElem_cons_succ, List.getElem_cons_zero, List.setIfInBounds_toArray, List.set_cons_succ, List.set_cons_zero])
        obtain ⟨q0, q1, q2, q3, qf⟩ := (S6.out.bk 0 rfl).c4
        refine wpAnyH_ready (rs := [13]) (by kernel_rfl) (by simp) ?_
        refine AllReadyH.cons rfl (fun K hK => ?_) AllReadyH.nil
        go_simp
        refine hK.out _ _ (CE.out _ ((((B2.out.setCell (by first | exact Nat.le_refl _ | exact B0.out.size | (have := B0.out.size; simp at this ⊢; omega) | simp) _).setCell (by first | exact Nat.le_refl _ | exact B0.out.size | (have := B0.out.size; simp at this ⊢; omega) | simp) _).setCell (by first | exact Nat.le_refl _ | exact B0.out.size | (have := B0.out.size; simp at this ⊢; omega) | simp) _).setCell (by first | exact Nat.le_refl _ | exact B0.out.size | (have := B0.out.size; simp at this ⊢; omega) | simp) _)) (fun hLast => ?_)
        clear hK K
        have S7 := Lib.hid ((((S6.out.boxSet 0 rfl 0 (.int .i64 (idxS ruNames ky))).boxSet 0 rfl 1 (.int .i64 n0)).boxSet 0 rfl 2 (.int .i64 n1)).boxSet 0 rfl 3 (.int .i64 n2))
        simp only [List.set_cons_zero, List.set_cons_succ] at S7
        refine wpAnyH_done (by kernel_rfl) ?_ _
        clear hLast hHeld CE q0 q1 q2 q3 qf
        generalize idxS ruNames ky = kk at S7 HCMP HYES ⊢
        obtain ⟨p0, p1, p2, p3, p4, pf⟩ := (S7.out.bk 4 rfl).c5
        obtain ⟨q0, q1, q2, q3, qf⟩ := (S7.out.bk 0 rfl).c4
        go_wp2_with fail
        clear p0 p1 p2 p3 p4 pf
        clear q0 q1 q2 q3 qf
        refine (implFormatRule_any p ⟨kk, n0, n1, n2⟩ _ _ (by exact S7.out.old HV.out) HK.out (HT.out.below S7.out.1 (Nat.le_refl _))).mono ?_
        rintro e w7 ⟨rfl, b7⟩
        have S8 := Lib.hid (S7.out.go b7)
        generalize fmtRuB p ⟨kk, n0, n1, n2⟩ = f at HCMP ⊢
        clear S7 b7
        by_cases hf : f = x
        · have HY := Lib.hid (HYES.out (by rw [HCMP.out]; simp [hf]))
          obtain ⟨e0, e1, e2, e3, ef⟩ := (S8.out.bk 0 rfl).c4
          obtain ⟨q0, q1, q2, q3, qf⟩ := (S8.out.bk 3 rfl).c4
          subst hf
          go_wp2
          have SZ := (((S8.out.boxSet 3 rfl 0 (.int .i64 kk)).boxSet 3 rfl 1 (.int .i64 n0)).boxSet 3 rfl 2 (.int .i64 n1)).boxSet 3 rfl 3 (.int .i64 n2)
          refine bodyPost_ret (v := .tuple #[.agg #[.int .i64 kk, .int .i64 n0, .int .i64 n1, .int .i64 n2], .bool true]) (by simp [results, Tryz.results7, go_sem, q0, q1, q2, q3]) rfl ⟨by rw [HY.out.1, HY.out.2]; rfl, SZ.1⟩
        · have HN := Lib.hid (HNO.out (by rw [HCMP.out]; simp [hf]))
          have hne := str_ne hf
          obtain ⟨q0, q1, q2, q3, qf⟩ := (S8.out.bk 3 rfl).c4
          clear hf
          go_wp2
          have SZ := (((S8.out.boxSet 3 rfl 0 (.int .i64 0)).boxSet 3 rfl 1 (.int .i64 0)).boxSet 3 rfl 2 (.int .i64 0)).boxSet 3 rfl 3 (.int .i64 0)
          refine bodyPost_ret (v := .tuple #[.agg #[.int .i64 0, .int .i64 0, .int .i64 0, .int .i64 0], .bool false]) (by simp [results, Tryz.results7, go_sem, q0, q1, q2, q3]) rfl ⟨by rw [HN.out.1, HN.out.2]; rfl, SZ.1⟩
end Go.Proofs.YtaglfdkeomjpdabGreatDoor
end

section
namespace Go.Proofs.YtaglfdkeomjpdabGreatDoor
open Go.RowKit Go.Shelf
set_option linter.unusedVariables false

theorem own_two (w : World) (T : TypeId) (x y : ByteArray) {B : Nat} (hB : B ≤ w.heap.size) : (w.alloc (.cells #[.string x, .string y] T)).ownsRow B T 1 (.slice (some ⟨w.heap.size, 0, none⟩) 2 2) 2 [.string x, .string y] :=
  ⟨by simp, .inr ⟨w.heap.size, 2, #[.string x, .string y], rfl, hB, heap_alloc_new w _, by omega, by unfold maxLen; omega, by simp, by simp⟩⟩
theorem two_cells (w : World) (x y : Value) (t : TypeId) : ∀ j q, [x, y][j]? = some q → (w.alloc (.cells #[x, y] t)).cell? ((⟨w.heap.size, 0, none⟩ : Addr).add j) = some q := fun j q h => by
  obtain ⟨c0, c1, _⟩ := (Bk.new w t #[x, y]).c2
  have hj : j < 2 := by simpa using (List.getElem?_eq_some_iff.1 h).1
  rcases (by omega : j = 0 ∨ j = 1) with rfl | rfl
  · rw [show (⟨w.heap.size, 0, none⟩ : Addr).add 0 = ⟨w.heap.size, 0, none⟩ from by simp [Addr.add], c0]; exact h
  · rw [show (⟨w.heap.size, 0, none⟩ : Addr).add 1 = ⟨w.heap.size, 1, none⟩ from by simp [Addr.add], c1]; exact h
theorem rd_own {W : World} {base n : Nat} {e : TypeId} {v : Value} {xs : List ByteArray} (h : W.ownsRow base e 1 v n (xs.map .string)) (hn : n ≤ 100) : Rd W v (xs.map .string) := own_rd h (by unfold maxLen; omega)

set_option maxRecDepth 100000 in
set_option maxHeartbeats 8000000 in
theorem sfm_lnk (p : Pj) (a : Int) (v : Value) (w : World) (hv : (trPj p).rd w v) (hk : (trPj p).ok)  (hp : pokB p = true) (ht : thereC p (.lnk a) = true) :
    Calls Tryz.prog 18 #[v, .agg #[.int .i64 1, .int .i64 a, .int .i64 0, .int .i64 0]] w fun e w' => e = .returned (.string (fmtC p (.lnk a))) ∧ Below w.heap.size w w' := by
  have HK := Lib.hid hk
  have HV := Lib.hid hv
  have HF := Lib.hid (show fmtC p (.lnk a) = joinB [ruNm 1, fmtB a] ⟨#[32]⟩ from rfl)
  have HOK := Lib.hid (show ruOkB p ⟨1, a, 0, 0⟩ = true from (ruOk_ru (c := .lnk a) hp).trans ht)
  have HS := Lib.hid (show tot [ruNm 1, fmtB a] ≤ 40 from (words_sum hp 1 (.lnk a)).1)
  have hr : 0 ≤ a ∧ a ≤ 100 := rng_of hp ht
  generalize fmtC p (.lnk a) = res at HF ⊢
  obtain ⟨A1, c1, A2, c2, A3, c3, A4, c4, rfl, _⟩ := rdProject_t hv
  have S0 := Lib.hid (((Sn.start w).box 37 [.int .i64 p.dl, .slice A1 p.acts.length c1, .slice A2 p.lks.length c2, .slice A3 p.ress.length c3, .slice A4 p.stk.length c4]).box 30 [.int .i64 1, .int .i64 a, .int .i64 0, .int .i64 0])
  simp only [World.size_alloc] at S0
  clear hv hk hp ht
  go_enter Tryz.func18, Tryz.ntmps18
  go_wp2_with fail
  refine (specRuleOk_any p ⟨1, a, 0, 0⟩ _ _ (by exact S0.out.old HV.out) HK.out).mono ?_
  rintro e w1 ⟨rfl, b⟩
  have S1 := Lib.hid (S0.out.go b)
  clear S0 b
  rw [HOK.out]
  obtain ⟨p0, p1, p2, p3, p4, pf⟩ := (S1.out.bk 1 rfl).c5
  obtain ⟨e0, e1, e2, e3, ef⟩ := (S1.out.bk 0 rfl).c4
  go_wp2_with fail
  have hl0 := (S1.out.bk 0 rfl).lt
  have S2 := Lib.hid S1.out.drew1
  have CE := Lib.hid (fun (W : World) (h : Wr [] w1.drew W) => show Hid (Wr [] w1.drew W) ∧ W.cell? ⟨w.heap.size + 1, 0, none⟩ = some (.int .i64 1) ∧ W.cell? ⟨w.heap.size + 1, 1, none⟩ = some (.int .i64 a) from ⟨Lib.hid h, (wr_cell h (p := ⟨w.heap.size + 1, 0, none⟩) hl0 (by simp)).trans (by exact by simpa using e0), (wr_cell h (p := ⟨w.heap.size + 1, 1, none⟩) hl0 (by simp)).trans (by exact by simpa using e1)⟩)
  have INIT := Lib.hid (CE.out _ (Wr.refl _ _))
  have KW := Lib.hid (fun (W2 W : World) (hb : Wr [] W W2) (h : Hid (Wr [] w1.drew W) ∧ W.cell? ⟨w.heap.size + 1, 0, none⟩ = some (.int .i64 1) ∧ W.cell? ⟨w.heap.size + 1, 1, none⟩ = some (.int .i64 a)) => CE.out W2 (h.1.out.trans hb))
  clear e0 e1 e2 e3 ef p0 p1 p2 p3 p4 pf
  go_region_held3 (fun W => Hid (Wr [] w1.drew W) ∧ W.cell? ⟨w.heap.size + 1, 0, none⟩ = some (.int .i64 1) ∧ W.cell? ⟨w.heap.size + 1, 1, none⟩ = some (.int .i64 a)) (first | exact INIT.out | exact KW.out _ _ (by assumption) (by assumption) | exact KW.out _ _ (Wr.of_below (by assumption) (Nat.le_refl _)) (by assumption) | exact KW.out _ _ (Wr.of_below ((Below.refl _ _).alloc (Nat.le_refl _) _) (Nat.le_refl _)) (by assumption))
    ((first | (go_at_call 15; refine (specRuleName_any 1 _).mono ?_; rintro e w5 ⟨rfl, bb⟩; have S3 := Lib.hid (S2.out.go bb)) | (go_at_call 35; refine (specFmt_any a _ (by omega) (by omega)).mono ?_; rintro e w6 ⟨rfl, bb2⟩; have S4 := Lib.hid (S3.out.go bb2))))
  rename_i hHeld
  clear hHeld CE INIT KW S2 S3 bb bb2
  have S5 := Lib.hid (S4.out.box 9 [.string (ruNm 1), .string (fmtB a)])
  have hz6 := S4.out.1.size
  obtain ⟨e0, e1, e2, e3, ef⟩ := (S5.out.bk 1 rfl).c4
  obtain ⟨p0, p1, p2, p3, p4, pf⟩ := (S5.out.bk 2 rfl).c5
  go_wp2_with fail
  refine (specJoin_any [ruNm 1, fmtB a] ⟨#[32]⟩ _ _ (by exact newRow_any w6 9 [ruNm 1, fmtB a] (by simp [maxLen])) (by have := HS.out; omega) (by simp) (by decide)).mono ?_
  rintro e w9 ⟨rfl, rfl⟩
  rw [← HF.out]
  go_wp2
  go_ret
  exact ⟨rfl, S5.out.1⟩
set_option maxRecDepth 100000 in
set_option maxHeartbeats 8000000 in
theorem sfm_fin (p : Pj) (m : Nat) (v : Value) (w : World) (hv : (trPj p).rd w v) (hk : (trPj p).ok) (hm : m < p.acts.length) (hp : pokB p = true) (ht : thereC p (.fin (m : Int)) = true) :
    Calls Tryz.prog 18 #[v, .agg #[.int .i64 2, .int .i64 (m : Int), .int .i64 0, .int .i64 0]] w fun e w' => e = .returned (.string (fmtC p (.fin (m : Int)))) ∧ Below w.heap.size w w' := by
  have HK := Lib.hid hk
  have HV := Lib.hid hv
  have HF := Lib.hid (show fmtC p (.fin (m : Int)) = joinB [ruNm 2, nmA p m] ⟨#[32]⟩ from rfl)
  have HOK := Lib.hid (show ruOkB p ⟨2, (m : Int), 0, 0⟩ = true from (ruOk_ru (c := .fin (m : Int)) hp).trans ht)
  have HS := Lib.hid (show tot [ruNm 2, nmA p m] ≤ 40 from (words_sum hp 2 (.fin (m : Int))).1)
  have hr := (pok_lens hp).2.1
  generalize fmtC p (.fin (m : Int)) = res at HF ⊢
  obtain ⟨A1, c1, A2, c2, A3, c3, A4, c4, rfl, r1, r2, r3, r4⟩ := rdProject_t hv
  obtain ⟨hl1, B1, d1, he, g1⟩ := rdActivityS_t r1
  injection he with he _ he2
  subst he he2
  obtain ⟨b1, o1, rfl, hb1, hc1⟩ := g1 m hm
  obtain ⟨Mm, mcm, xm, _, _, _⟩ := hc1 m hm
  rw [← nmA_at hm] at xm
  clear r1 r2 r3 r4 g1 hc1 hl1
  generalize nmA p m = nmm at xm HF HS
  have hm1 : (m : Int) < (p.acts.length : Int) := by omega
  have hm2 : (0 : Int) ≤ (m : Int) := by omega
  have S0 := Lib.hid (((Sn.start w).box 37 [.int .i64 p.dl, .slice (some ⟨b1, o1, none⟩) p.acts.length c1, .slice A2 p.lks.length c2, .slice A3 p.ress.length c3, .slice A4 p.stk.length c4]).box 30 [.int .i64 2, .int .i64 (m : Int), .int .i64 0, .int .i64 0])
  simp only [World.size_alloc] at S0
  clear hv hk hp ht
  go_enter Tryz.func18, Tryz.ntmps18
  go_wp2_with fail
  refine (specRuleOk_any p ⟨2, (m : Int), 0, 0⟩ _ _ (by exact S0.out.old HV.out) HK.out).mono ?_
  rintro e w1 ⟨rfl, b⟩
  have S1 := Lib.hid (S0.out.go b)
  clear S0 b
  rw [HOK.out]
  obtain ⟨p0, p1, p2, p3, p4, pf⟩ := (S1.out.bk 1 rfl).c5
  obtain ⟨e0, e1, e2, e3, ef⟩ := (S1.out.bk 0 rfl).c4
  go_wp2_with fail
  have hl0 := (S1.out.bk 0 rfl).lt
  have S2 := Lib.hid S1.out.drew1
  have CE := Lib.hid (fun (W : World) (h : Wr [] w1.drew W) => show Hid (Wr [] w1.drew W) ∧ W.cell? ⟨w.heap.size + 1, 0, none⟩ = some (.int .i64 2) ∧ W.cell? ⟨w.heap.size + 1, 1, none⟩ = some (.int .i64 (m : Int)) from ⟨Lib.hid h, (wr_cell h (p := ⟨w.heap.size + 1, 0, none⟩) hl0 (by simp)).trans (by exact by simpa using e0), (wr_cell h (p := ⟨w.heap.size + 1, 1, none⟩) hl0 (by simp)).trans (by exact by simpa using e1)⟩)
  have INIT := Lib.hid (CE.out _ (Wr.refl _ _))
  have KW := Lib.hid (fun (W2 W : World) (hb : Wr [] W W2) (h : Hid (Wr [] w1.drew W) ∧ W.cell? ⟨w.heap.size + 1, 0, none⟩ = some (.int .i64 2) ∧ W.cell? ⟨w.heap.size + 1, 1, none⟩ = some (.int .i64 (m : Int))) => CE.out W2 (h.1.out.trans hb))
  clear e0 e1 e2 e3 ef p0 p1 p2 p3 p4 pf
  go_region_held3 (fun W => Hid (Wr [] w1.drew W) ∧ W.cell? ⟨w.heap.size + 1, 0, none⟩ = some (.int .i64 2) ∧ W.cell? ⟨w.heap.size + 1, 1, none⟩ = some (.int .i64 (m : Int))) (first | exact INIT.out | exact KW.out _ _ (by assumption) (by assumption) | exact KW.out _ _ (Wr.of_below (by assumption) (Nat.le_refl _)) (by assumption) | exact KW.out _ _ (Wr.of_below ((Below.refl _ _).alloc (Nat.le_refl _) _) (Nat.le_refl _)) (by assumption))
    ((first | (go_at_call 15; refine (specRuleName_any 2 _).mono ?_; rintro e w5 ⟨rfl, bb⟩; have S3 := Lib.hid (S2.out.go bb)) | (go_at_call 35; refine (specFmt_any (m : Int) _ (by omega) (by omega)).mono ?_; rintro e w6 ⟨rfl, bb2⟩; have S4 := Lib.hid (S3.out.go bb2))))
  rename_i hHeld
  clear hHeld CE INIT KW S2 S3 bb bb2
  have S5 := Lib.hid (S4.out.box 9 [.string (ruNm 2), .string (fmtB (m : Int))])
  have hz6 := S4.out.1.size
  obtain ⟨e0, e1, e2, e3, ef⟩ := (S5.out.bk 1 rfl).c4
  obtain ⟨p0, p1, p2, p3, p4, pf⟩ := (S5.out.bk 2 rfl).c5
  have zk := (S5.out.1.cell (p := ⟨b1, o1 + m * 3, none⟩) hb1).trans xm
  have S6 := Lib.hid (S4.out.box 9 [.string (ruNm 2), .string nmm])
  go_wp2_with fail
  refine (specJoin_any [ruNm 2, nmm] ⟨#[32]⟩ _ _ (by exact newRow_any w6 9 [ruNm 2, nmm] (by simp [maxLen])) (by have := HS.out; omega) (by simp) (by decide)).mono ?_
  rintro e w9 ⟨rfl, rfl⟩
  rw [← HF.out]
  go_wp2
  go_ret
  exact ⟨rfl, S6.out.1⟩
set_option maxRecDepth 100000 in
set_option maxHeartbeats 8000000 in
theorem sfm_tim (p : Pj) (a : Int) (b : Int) (v : Value) (w : World) (hv : (trPj p).rd w v) (hk : (trPj p).ok)  (hp : pokB p = true) (ht : thereC p (.tim a b) = true) :
    Calls Tryz.prog 18 #[v, .agg #[.int .i64 3, .int .i64 a, .int .i64 b, .int .i64 0]] w fun e w' => e = .returned (.string (fmtC p (.tim a b))) ∧ Below w.heap.size w w' := by
  have HK := Lib.hid hk
  have HV := Lib.hid hv
  have HF := Lib.hid (show fmtC p (.tim a b) = joinB [ruNm 3, fmtB a, fmtB b] ⟨#[32]⟩ from rfl)
  have HOK := Lib.hid (show ruOkB p ⟨3, a, b, 0⟩ = true from (ruOk_ru (c := .tim a b) hp).trans ht)
  have HS := Lib.hid (show tot [ruNm 3, fmtB a, fmtB b] ≤ 40 from (words_sum hp 3 (.tim a b)).1)
  obtain ⟨hr, hr2⟩ : (0 ≤ a ∧ a ≤ 100) ∧ (0 ≤ b ∧ b ≤ 100) := rng_of hp ht
  generalize fmtC p (.tim a b) = res at HF ⊢
  obtain ⟨A1, c1, A2, c2, A3, c3, A4, c4, rfl, _⟩ := rdProject_t hv
  have S0 := Lib.hid (((Sn.start w).box 37 [.int .i64 p.dl, .slice A1 p.acts.length c1, .slice A2 p.lks.length c2, .slice A3 p.ress.length c3, .slice A4 p.stk.length c4]).box 30 [.int .i64 3, .int .i64 a, .int .i64 b, .int .i64 0])
  simp only [World.size_alloc] at S0
  clear hv hk hp ht
  go_enter Tryz.func18, Tryz.ntmps18
  go_wp2_with fail
  refine (specRuleOk_any p ⟨3, a, b, 0⟩ _ _ (by exact S0.out.old HV.out) HK.out).mono ?_
  rintro e w1 ⟨rfl, b⟩
  have S1 := Lib.hid (S0.out.go b)
  clear S0 b
  rw [HOK.out]
  obtain ⟨p0, p1, p2, p3, p4, pf⟩ := (S1.out.bk 1 rfl).c5
  obtain ⟨e0, e1, e2, e3, ef⟩ := (S1.out.bk 0 rfl).c4
  go_wp2_with fail
  have hl0 := (S1.out.bk 0 rfl).lt
  have S2 := Lib.hid S1.out.drew1
  have CE := Lib.hid (fun (W : World) (h : Wr [] w1.drew W) => show Hid (Wr [] w1.drew W) ∧ W.cell? ⟨w.heap.size + 1, 0, none⟩ = some (.int .i64 3) ∧ W.cell? ⟨w.heap.size + 1, 1, none⟩ = some (.int .i64 a) from ⟨Lib.hid h, (wr_cell h (p := ⟨w.heap.size + 1, 0, none⟩) hl0 (by simp)).trans (by exact by simpa using e0), (wr_cell h (p := ⟨w.heap.size + 1, 1, none⟩) hl0 (by simp)).trans (by exact by simpa using e1)⟩)
  have INIT := Lib.hid (CE.out _ (Wr.refl _ _))
  have KW := Lib.hid (fun (W2 W : World) (hb : Wr [] W W2) (h : Hid (Wr [] w1.drew W) ∧ W.cell? ⟨w.heap.size + 1, 0, none⟩ = some (.int .i64 3) ∧ W.cell? ⟨w.heap.size + 1, 1, none⟩ = some (.int .i64 a)) => CE.out W2 (h.1.out.trans hb))
  clear e0 e1 e2 e3 ef p0 p1 p2 p3 p4 pf
  go_region_held3 (fun W => Hid (Wr [] w1.drew W) ∧ W.cell? ⟨w.heap.size + 1, 0, none⟩ = some (.int .i64 3) ∧ W.cell? ⟨w.heap.size + 1, 1, none⟩ = some (.int .i64 a)) (first | exact INIT.out | exact KW.out _ _ (by assumption) (by assumption) | exact KW.out _ _ (Wr.of_below (by assumption) (Nat.le_refl _)) (by assumption) | exact KW.out _ _ (Wr.of_below ((Below.refl _ _).alloc (Nat.le_refl _) _) (Nat.le_refl _)) (by assumption))
    ((first | (go_at_call 15; refine (specRuleName_any 3 _).mono ?_; rintro e w5 ⟨rfl, bb⟩; have S3 := Lib.hid (S2.out.go bb)) | (go_at_call 35; refine (specFmt_any a _ (by omega) (by omega)).mono ?_; rintro e w6 ⟨rfl, bb2⟩; have S4 := Lib.hid (S3.out.go bb2))))
  rename_i hHeld
  clear hHeld CE INIT KW S2 S3 bb bb2
  have S5 := Lib.hid (S4.out.box 9 [.string (ruNm 3), .string (fmtB a)])
  have hz6 := S4.out.1.size
  obtain ⟨e0, e1, e2, e3, ef⟩ := (S5.out.bk 1 rfl).c4
  obtain ⟨p0, p1, p2, p3, p4, pf⟩ := (S5.out.bk 2 rfl).c5
  have O5 := Lib.hid (own_two w6 9 (ruNm 3) (fmtB a) hz6)
  obtain ⟨i0, hi0, hz0, hz1, hz2⟩ := info_parts infoString
  go_wp2_with fail
  clear e0 e1 e2 e3 ef
  clear p0 p1 p2 p3 p4 pf
  refine (specFmt_any b _ (by omega) (by omega)).mono ?_
  rintro e w7 ⟨rfl, bb⟩
  have S6 := Lib.hid (S5.out.go bb)
  have O6 := Lib.hid (own_below O5.out bb (Nat.le_refl _))
  clear S5 O5 bb
  have BA := Lib.hid ((Below.refl _ w7).alloc (Nat.le_refl _) (.cells #[.string (fmtB b)] 9))
  have B8 := Lib.hid (S6.out.1.alloc S6.out.1.size (.cells #[.string (fmtB b)] 9))
  have O7 := Lib.hid (own_below O6.out BA.out (Nat.le_refl _))
  have R7 := Lib.hid (newRow_any w7 9 [fmtB b] (by simp [maxLen]))
  go_wp2_with (first
    | (at_builtin; refine app_rdV rfl (.tmp 32) (.tmp 36) 46 9 i0 (.string ⟨#[]⟩) 16 rfl rfl hi0 hz0 hz1 hz2 string_cell (by decide) w.heap.size _ _ [.string (ruNm 3), .string (fmtB a)] [.string (fmtB b)] rfl rfl (by exact O7.out) (by exact R7.out) (strV_one [fmtB b]) (nilOk_some _ _ _) (by simp) B8.out.size ?_; intro v2 w2 hown2 hg2 _
       have O8 := Lib.hid hown2
       have B9 := Lib.hid (B8.out.grown hg2 B8.out.size (own_mem O7.out))
       clear hown2 hg2)
    | fail)
  refine (specJoin_any [ruNm 3, fmtB a, fmtB b] ⟨#[32]⟩ _ _ (by exact rd_own (xs := [ruNm 3, fmtB a, fmtB b]) O8.out (by simp)) (by have := HS.out; omega) (by simp) (by decide)).mono ?_
  rintro e w9 ⟨rfl, rfl⟩
  rw [← HF.out]
  go_wp2
  go_ret
  exact ⟨rfl, B9.out⟩
set_option maxRecDepth 100000 in
set_option maxHeartbeats 8000000 in
theorem sfm_wrk (p : Pj) (a : Int) (b : Int) (c : Int) (v : Value) (w : World) (hv : (trPj p).rd w v) (hk : (trPj p).ok)  (hp : pokB p = true) (ht : thereC p (.wrk a b c) = true) :
    Calls Tryz.prog 18 #[v, .agg #[.int .i64 4, .int .i64 a, .int .i64 b, .int .i64 c]] w fun e w' => e = .returned (.string (fmtC p (.wrk a b c))) ∧ Below w.heap.size w w' := by
  have HK := Lib.hid hk
  have HV := Lib.hid hv
  have HF := Lib.hid (show fmtC p (.wrk a b c) = joinB [ruNm 4, fmtB a, fmtB b, fmtB c] ⟨#[32]⟩ from rfl)
  have HOK := Lib.hid (show ruOkB p ⟨4, a, b, c⟩ = true from (ruOk_ru (c := .wrk a b c) hp).trans ht)
  have HS := Lib.hid (show tot [ruNm 4, fmtB a, fmtB b, fmtB c] ≤ 40 from (words_sum hp 4 (.wrk a b c)).1)
  obtain ⟨hr, hr2, hr3⟩ : (0 ≤ a ∧ a ≤ 100) ∧ ((0 ≤ b ∧ b ≤ 100) ∧ (0 ≤ c ∧ c ≤ 100)) := rng_of hp ht
  generalize fmtC p (.wrk a b c) = res at HF ⊢
  obtain ⟨A1, c1, A2, c2, A3, c3, A4, c4, rfl, _⟩ := rdProject_t hv
  have S0 := Lib.hid (((Sn.start w).box 37 [.int .i64 p.dl, .slice A1 p.acts.length c1, .slice A2 p.lks.length c2, .slice A3 p.ress.length c3, .slice A4 p.stk.length c4]).box 30 [.int .i64 4, .int .i64 a, .int .i64 b, .int .i64 c])
  simp only [World.size_alloc] at S0
  clear hv hk hp ht
  go_enter Tryz.func18, Tryz.ntmps18
  go_wp2_with fail
  refine (specRuleOk_any p ⟨4, a, b, c⟩ _ _ (by exact S0.out.old HV.out) HK.out).mono ?_
  rintro e w1 ⟨rfl, b⟩
  have S1 := Lib.hid (S0.out.go b)
  clear S0 b
  rw [HOK.out]
  obtain ⟨p0, p1, p2, p3, p4, pf⟩ := (S1.out.bk 1 rfl).c5
  obtain ⟨e0, e1, e2, e3, ef⟩ := (S1.out.bk 0 rfl).c4
  go_wp2_with fail
  have hl0 := (S1.out.bk 0 rfl).lt
  have S2 := Lib.hid S1.out.drew1
  have CE := Lib.hid (fun (W : World) (h : Wr [] w1.drew W) => show Hid (Wr [] w1.drew W) ∧ W.cell? ⟨w.heap.size + 1, 0, none⟩ = some (.int .i64 4) ∧ W.cell? ⟨w.heap.size + 1, 1, none⟩ = some (.int .i64 a) from ⟨Lib.hid h, (wr_cell h (p := ⟨w.heap.size + 1, 0, none⟩) hl0 (by simp)).trans (by exact by simpa using e0), (wr_cell h (p := ⟨w.heap.size + 1, 1, none⟩) hl0 (by simp)).trans (by exact by simpa using e1)⟩)
  have INIT := Lib.hid (CE.out _ (Wr.refl _ _))
  have KW := Lib.hid (fun (W2 W : World) (hb : Wr [] W W2) (h : Hid (Wr [] w1.drew W) ∧ W.cell? ⟨w.heap.size + 1, 0, none⟩ = some (.int .i64 4) ∧ W.cell? ⟨w.heap.size + 1, 1, none⟩ = some (.int .i64 a)) => CE.out W2 (h.1.out.trans hb))
  clear e0 e1 e2 e3 ef p0 p1 p2 p3 p4 pf
  go_region_held3 (fun W => Hid (Wr [] w1.drew W) ∧ W.cell? ⟨w.heap.size + 1, 0, none⟩ = some (.int .i64 4) ∧ W.cell? ⟨w.heap.size + 1, 1, none⟩ = some (.int .i64 a)) (first | exact INIT.out | exact KW.out _ _ (by assumption) (by assumption) | exact KW.out _ _ (Wr.of_below (by assumption) (Nat.le_refl _)) (by assumption) | exact KW.out _ _ (Wr.of_below ((Below.refl _ _).alloc (Nat.le_refl _) _) (Nat.le_refl _)) (by assumption))
    ((first | (go_at_call 15; refine (specRuleName_any 4 _).mono ?_; rintro e w5 ⟨rfl, bb⟩; have S3 := Lib.hid (S2.out.go bb)) | (go_at_call 35; refine (specFmt_any a _ (by omega) (by omega)).mono ?_; rintro e w6 ⟨rfl, bb2⟩; have S4 := Lib.hid (S3.out.go bb2))))
  rename_i hHeld
  clear hHeld CE INIT KW S2 S3 bb bb2
  have S5 := Lib.hid (S4.out.box 9 [.string (ruNm 4), .string (fmtB a)])
  have hz6 := S4.out.1.size
  obtain ⟨e0, e1, e2, e3, ef⟩ := (S5.out.bk 1 rfl).c4
  obtain ⟨p0, p1, p2, p3, p4, pf⟩ := (S5.out.bk 2 rfl).c5
  have O5 := Lib.hid (own_two w6 9 (ruNm 4) (fmtB a) hz6)
  obtain ⟨i0, hi0, hz0, hz1, hz2⟩ := info_parts infoString
  have h41 := (S4.out.bk 0 rfl).lt
  have h42 := (S4.out.bk 1 rfl).lt
  go_wp2_with fail
  have hl1 := (S5.out.bk 1 rfl).lt
  have hl2 := (S5.out.bk 2 rfl).lt
  generalize hwv : World.alloc w6 _ = wv at S5 O5 hl1 hl2 e0 e1 e2 e3 ef p0 p1 p2 p3 p4 pf ⊢
  clear hwv
  have S6 := Lib.hid S5.out.drew1
  have O6 := Lib.hid (own_below O5.out ((Below.refl wv.heap.size wv).drew) (Nat.le_refl _))
  have CE := Lib.hid (fun (W : World) (h : Wr [w6.heap.size] wv.drew W) => show Hid (Wr [w6.heap.size] wv.drew W) ∧ W.cell? ⟨w.heap.size + 1, 2, none⟩ = some (.int .i64 b) ∧ W.cell? ⟨w.heap.size + 1, 3, none⟩ = some (.int .i64 c) from ⟨Lib.hid h, (wr_cell h (p := ⟨w.heap.size + 1, 2, none⟩) hl1 (by simp only [List.mem_singleton]; omega)).trans (by exact by simpa using e2), (wr_cell h (p := ⟨w.heap.size + 1, 3, none⟩) hl1 (by simp only [List.mem_singleton]; omega)).trans (by exact by simpa using e3)⟩)
  have INIT := Lib.hid (CE.out _ (Wr.refl _ _))
  have KW := Lib.hid (fun (W2 W : World) (hb : Wr [w6.heap.size] W W2) (h : Hid (Wr [w6.heap.size] wv.drew W) ∧ W.cell? ⟨w.heap.size + 1, 2, none⟩ = some (.int .i64 b) ∧ W.cell? ⟨w.heap.size + 1, 3, none⟩ = some (.int .i64 c)) => CE.out W2 (h.1.out.trans hb))
  clear e0 e1 e2 e3 ef p0 p1 p2 p3 p4 pf S5 O5
  refine wp_region_held_drew (S := fun W => Hid (Wr [w6.heap.size] wv.drew W) ∧ W.cell? ⟨w.heap.size + 1, 2, none⟩ = some (.int .i64 b) ∧ W.cell? ⟨w.heap.size + 1, 3, none⟩ = some (.int .i64 c)) (by kernel_rfl) INIT.out (fun hHeld => ?_)
  refine wpAnyH_take (i := 0) (v := ?_) rfl (by kernel_rfl) (by kernel_rfl) (by kernel_rfl) (fun _ _ _ h => h) (Or.inl ⟨by rfl, ?_⟩) (by assumption) ?_
  rotate_left
  · (intro W hSw; (try dsimp only at hSw); go_simp <;> with_reducible rfl)
  (try simp only [Act.put, List.getElem_toArray, List.getElem_cons_zero, List.setIfInBounds_toArray, List.set_cons_succ, List.set_cons_zero])
  refine wpAnyH_take (i := 1) (v := ?_) rfl (by kernel_rfl) (by kernel_rfl) (by kernel_rfl) (fun _ _ _ h => h) (Or.inl ⟨by rfl, ?_⟩) (by assumption) ?_
  rotate_left
  · (intro W hSw; (try dsimp only at hSw); go_simp <;> with_reducible rfl)
  (try simp only [Act.put, List.getElem_toArray, List.getElem_cons_succ, List.getElem_cons_zero, List.setIfInBounds_toArray, List.set_cons_succ, List.set_cons_zero])
  refine wpAnyH_take (i := 2) (v := ?_) rfl (by kernel_rfl) (by kernel_rfl) (by kernel_rfl) (fun _ _ _ h => h) (Or.inl ⟨by rfl, ?_⟩) (by assumption) ?_
  rotate_left
  · (intro W hSw; (try dsimp only at hSw); go_simp <;> with_reducible rfl)
  (try simp only [Act.put, List.getElem_toArray, List.getElem_cons_succ, List.getElem_cons_zero, List.setIfInBounds_toArray, List.set_cons_succ, List.set_cons_zero])
  refine wpAnyH_take (i := 4) (v := ?_) rfl (by kernel_rfl) (by kernel_rfl) (by kernel_rfl) (fun _ _ _ h => h) (Or.inl ⟨by rfl, ?_⟩) (by assumption) ?_
  rotate_left
  · (intro W hSw; (try dsimp only at hSw); go_simp <;> with_reducible rfl)
  (try simp only [Act.put, List.getElem_toArray, List.getElem_cons_succ, List.getElem_cons_zero, List.setIfInBounds_toArray, List.set_cons_succ, List.set_cons_zero])
  refine wpAnyH_take (i := 5) (v := ?_) rfl (by kernel_rfl) (by kernel_rfl) (by kernel_rfl) (fun _ _ _ h => h) (Or.inl ⟨by rfl, ?_⟩) (by assumption) ?_
  rotate_left
  · (intro W hSw; (try dsimp only at hSw); go_simp <;> with_reducible rfl)
  (try simp only [Act.put, List.getElem_toArray, List.getElem_cons_succ, List.getElem_cons_zero, List.setIfInBounds_toArray, List.set_cons_succ, List.set_cons_zero])
  refine wpAnyH_ready (rs := [3]) (by kernel_rfl) (by simp) ?_
  refine AllReadyH.cons rfl (fun K hK => ?_) AllReadyH.nil
  go_simp
  refine (specFmt_any b _ (by omega) (by omega)).mono ?_
  rintro e w7 ⟨rfl, bb⟩
  have S7 := Lib.hid (S6.out.go bb)
  have O7 := Lib.hid (own_below O6.out bb (Nat.le_refl _))
  refine hK.out _ _ (KW.out _ _ (Wr.of_below bb (Nat.le_refl _)) (by assumption)) (fun hHeld3 => ?_)
  clear hK K bb S6 O6
  refine wpAnyH_ready (rs := [6]) (by kernel_rfl) (by simp) ?_
  refine AllReadyH.cons rfl (fun K hK => ?_) AllReadyH.nil
  go_simp
  refine (specFmt_any c _ (by omega) (by omega)).mono ?_
  rintro e w8 ⟨rfl, bb⟩
  have S8 := Lib.hid (S7.out.go bb)
  have O8 := Lib.hid (own_below O7.out bb (Nat.le_refl _))
  refine hK.out _ _ (KW.out _ _ (Wr.of_below bb (Nat.le_refl _)) (by assumption)) (fun hHeld6 => ?_)
  clear hK K bb S7 O7
  refine wpAnyH_ready (rs := [7]) (by kernel_rfl) (by simp) ?_
  refine AllReadyH.cons rfl (fun K hK => ?_) AllReadyH.nil
  go_simp
  have BA := Lib.hid ((Below.refl _ (w8)).alloc (Nat.le_refl _) (.cells #[.string (fmtB b), .string (fmtB c)] 9))
  have B8 := Lib.hid (S8.out.1.alloc S8.out.1.size (.cells #[.string (fmtB b), .string (fmtB c)] 9))
  have O9 := Lib.hid (own_below O8.out BA.out (Nat.le_refl _))
  refine hK.out _ _ (KW.out _ _ (Wr.of_below BA.out (Nat.le_refl _)) (by assumption)) (fun hHeldB => ?_)
  clear hK K
  refine wpAnyH_ready (rs := [8]) (by kernel_rfl) (by simp) ?_
  refine AllReadyH.cons rfl (fun K hK => ?_) AllReadyH.nil
  refine step_append_lies _ (by rfl) (.tmp 40) (.tmp 47) 46 (by rfl) w.heap.size 9 i0 (.string ⟨#[]⟩) 1 16 Tryz.underlying46 hi0 hz0 hz1 hz2 rfl (by decide) _ 2 [.string (ruNm 4), .string (fmtB a)] (by rfl) (by exact O9.out) ⟨w8.heap.size, 0, none⟩ 2 2 [.string (fmtB b), .string (fmtB c)] (by rfl) (by rfl) (by exact two_cells _ _ _ _) (by simp [Value.oneCell']) (by decide) (by unfold maxLen; omega) (by omega) B8.out.size _ rfl ?_
  intro g' c' w4 hown4 hg4 hat4 hlt4
  have O10 := Lib.hid hown4
  have B9 := Lib.hid (B8.out.grown hg4 B8.out.size (own_mem O9.out))
  refine hK.out _ _ (KW.out _ _ (by exact Wr.of_grown hg4) (by assumption)) (fun hHeldA => ?_)
  clear hK K hown4 hg4 hat4
  refine wpAnyH_take (i := 9) (v := ?_) rfl (by kernel_rfl) (by kernel_rfl) (by kernel_rfl) (fun _ _ _ h => h) (Or.inl ⟨by rfl, ?_⟩) (by assumption) ?_
  rotate_left
  · (intro W hSw; (try dsimp only at hSw); go_simp <;> with_reducible rfl)
  (try simp only [Act.put, List.getElem_toArray, List.getElem_cons_succ, List.getElem_cons_zero, List.setIfInBounds_toArray, List.set_cons_succ, List.set_cons_zero])
  refine wpAnyH_done (by kernel_rfl) ?_ _
  clear CE INIT KW hHeldA hHeldB hHeld
  go_wp2_with fail
  refine (specJoin_any [ruNm 4, fmtB a, fmtB b, fmtB c] ⟨#[32]⟩ _ _ (by exact rd_own (xs := [ruNm 4, fmtB a, fmtB b, fmtB c]) O10.out (by simp)) (by have := HS.out; omega) (by simp) (by decide)).mono ?_
  rintro e w9 ⟨rfl, rfl⟩
  rw [← HF.out]
  go_wp2
  go_ret
  exact ⟨rfl, B9.out⟩
set_option maxRecDepth 100000 in
set_option maxHeartbeats 8000000 in
theorem sfm_par (p : Pj) (a : Int) (i : Nat) (j : Nat) (v : Value) (w : World) (hv : (trPj p).rd w v) (hk : (trPj p).ok) (hi : i < p.acts.length) (hj : j < p.acts.length) (hp : pokB p = true) (ht : thereC p (.par a (i : Int) (j : Int)) = true) :
    Calls Tryz.prog 18 #[v, .agg #[.int .i64 5, .int .i64 a, .int .i64 (i : Int), .int .i64 (j : Int)]] w fun e w' => e = .returned (.string (fmtC p (.par a (i : Int) (j : Int)))) ∧ Below w.heap.size w w' := by
  have HK := Lib.hid hk
  have HV := Lib.hid hv
  have HF := Lib.hid (show fmtC p (.par a (i : Int) (j : Int)) = joinB [ruNm 5, fmtB a, nmA p i, nmA p j] ⟨#[32]⟩ from rfl)
  have HOK := Lib.hid (show ruOkB p ⟨5, a, (i : Int), (j : Int)⟩ = true from (ruOk_ru (c := .par a (i : Int) (j : Int)) hp).trans ht)
  have HS := Lib.hid (show tot [ruNm 5, fmtB a, nmA p i, nmA p j] ≤ 40 from (words_sum hp 5 (.par a (i : Int) (j : Int))).1)
  have hr : 0 ≤ a ∧ a ≤ 100 := (show (0 ≤ a ∧ a ≤ 100) ∧ _ from rng_of hp ht).1
  generalize fmtC p (.par a (i : Int) (j : Int)) = res at HF ⊢
  obtain ⟨A1, c1, A2, c2, A3, c3, A4, c4, rfl, r1, r2, r3, r4⟩ := rdProject_t hv
  obtain ⟨hl1, B1, d1, he, g1⟩ := rdActivityS_t r1
  injection he with he _ he2
  subst he he2
  obtain ⟨b1, o1, rfl, hb1, hc1⟩ := g1 i hi
  obtain ⟨Mi, mci, xi, _, _, _⟩ := hc1 i hi
  rw [← nmA_at hi] at xi
  obtain ⟨Mj, mcj, xj, _, _, _⟩ := hc1 j hj
  rw [← nmA_at hj] at xj
  clear r1 r2 r3 r4 g1 hc1 hl1
  generalize nmA p i = nmi at xi HF HS
  have hi1 : (i : Int) < (p.acts.length : Int) := by omega
  have hi2 : (0 : Int) ≤ (i : Int) := by omega
  generalize nmA p j = nmj at xj HF HS
  have hj1 : (j : Int) < (p.acts.length : Int) := by omega
  have hj2 : (0 : Int) ≤ (j : Int) := by omega
  have S0 := Lib.hid (((Sn.start w).box 37 [.int .i64 p.dl, .slice (some ⟨b1, o1, none⟩) p.acts.length c1, .slice A2 p.lks.length c2, .slice A3 p.ress.length c3, .slice A4 p.stk.length c4]).box 30 [.int .i64 5, .int .i64 a, .int .i64 (i : Int), .int .i64 (j : Int)])
  simp only [World.size_alloc] at S0
  clear hv hk hp ht
  go_enter Tryz.func18, Tryz.ntmps18
  go_wp2_with fail
  refine (specRuleOk_any p ⟨5, a, (i : Int), (j : Int)⟩ _ _ (by exact S0.out.old HV.out) HK.out).mono ?_
  rintro e w1 ⟨rfl, b⟩
  have S1 := Lib.hid (S0.out.go b)
  clear S0 b
  rw [HOK.out]
  obtain ⟨p0, p1, p2, p3, p4, pf⟩ := (S1.out.bk 1 rfl).c5
  obtain ⟨e0, e1, e2, e3, ef⟩ := (S1.out.bk 0 rfl).c4
  go_wp2_with fail
  have hl0 := (S1.out.bk 0 rfl).lt
  have S2 := Lib.hid S1.out.drew1
  have CE := Lib.hid (fun (W : World) (h : Wr [] w1.drew W) => show Hid (Wr [] w1.drew W) ∧ W.cell? ⟨w.heap.size + 1, 0, none⟩ = some (.int .i64 5) ∧ W.cell? ⟨w.heap.size + 1, 1, none⟩ = some (.int .i64 a) from ⟨Lib.hid h, (wr_cell h (p := ⟨w.heap.size + 1, 0, none⟩) hl0 (by simp)).trans (by exact by simpa using e0), (wr_cell h (p := ⟨w.heap.size + 1, 1, none⟩) hl0 (by simp)).trans (by exact by simpa using e1)⟩)
  have INIT := Lib.hid (CE.out _ (Wr.refl _ _))
  have KW := Lib.hid (fun (W2 W : World) (hb : Wr [] W W2) (h : Hid (Wr [] w1.drew W) ∧ W.cell? ⟨w.heap.size + 1, 0, none⟩ = some (.int .i64 5) ∧ W.cell? ⟨w.heap.size + 1, 1, none⟩ = some (.int .i64 a)) => CE.out W2 (h.1.out.trans hb))
  clear e0 e1 e2 e3 ef p0 p1 p2 p3 p4 pf
  go_region_held3 (fun W => Hid (Wr [] w1.drew W) ∧ W.cell? ⟨w.heap.size + 1, 0, none⟩ = some (.int .i64 5) ∧ W.cell? ⟨w.heap.size + 1, 1, none⟩ = some (.int .i64 a)) (first | exact INIT.out | exact KW.out _ _ (by assumption) (by assumption) | exact KW.out _ _ (Wr.of_below (by assumption) (Nat.le_refl _)) (by assumption) | exact KW.out _ _ (Wr.of_below ((Below.refl _ _).alloc (Nat.le_refl _) _) (Nat.le_refl _)) (by assumption))
    ((first | (go_at_call 15; refine (specRuleName_any 5 _).mono ?_; rintro e w5 ⟨rfl, bb⟩; have S3 := Lib.hid (S2.out.go bb)) | (go_at_call 35; refine (specFmt_any a _ (by omega) (by omega)).mono ?_; rintro e w6 ⟨rfl, bb2⟩; have S4 := Lib.hid (S3.out.go bb2))))
  rename_i hHeld
  clear hHeld CE INIT KW S2 S3 bb bb2
  have S5 := Lib.hid (S4.out.box 9 [.string (ruNm 5), .string (fmtB a)])
  have hz6 := S4.out.1.size
  obtain ⟨e0, e1, e2, e3, ef⟩ := (S5.out.bk 1 rfl).c4
  obtain ⟨p0, p1, p2, p3, p4, pf⟩ := (S5.out.bk 2 rfl).c5
  have O5 := Lib.hid (own_two w6 9 (ruNm 5) (fmtB a) hz6)
  obtain ⟨i0, hi0, hz0, hz1, hz2⟩ := info_parts infoString
  have zi := (S5.out.1.cell (p := ⟨b1, o1 + i * 3, none⟩) hb1).trans xi
  have zj := (S5.out.1.cell (p := ⟨b1, o1 + j * 3, none⟩) hb1).trans xj
  have hb2 : b1 < (w6.alloc (.cells #[.string (ruNm 5), .string (fmtB a)] 9)).heap.size := by simp; omega
  have h41 := (S4.out.bk 0 rfl).lt
  have h42 := (S4.out.bk 1 rfl).lt
  go_wp2_with fail
  have hl1 := (S5.out.bk 1 rfl).lt
  have hl2 := (S5.out.bk 2 rfl).lt
  generalize hwv : World.alloc w6 _ = wv at S5 O5 hl1 hl2 e0 e1 e2 e3 ef p0 p1 p2 p3 p4 pf zi zj hb2 ⊢
  clear hwv
  have S6 := Lib.hid S5.out.drew1
  have O6 := Lib.hid (own_below O5.out ((Below.refl wv.heap.size wv).drew) (Nat.le_refl _))
  have CE := Lib.hid (fun (W : World) (h : Wr [w6.heap.size] wv.drew W) => show Hid (Wr [w6.heap.size] wv.drew W) ∧ W.cell? ⟨w.heap.size + 1, 2, none⟩ = some (.int .i64 (i : Int)) ∧ W.cell? ⟨w.heap.size + 1, 3, none⟩ = some (.int .i64 (j : Int)) ∧ W.cell? ⟨w.heap.size, 1, none⟩ = some (.slice (some ⟨b1, o1, none⟩) p.acts.length c1) ∧ W.cell? ⟨b1, o1 + i * 3, none⟩ = some (.string nmi) ∧ W.cell? ⟨b1, o1 + j * 3, none⟩ = some (.string nmj) from ⟨Lib.hid h, (wr_cell h (p := ⟨w.heap.size + 1, 2, none⟩) hl1 (by simp only [List.mem_singleton]; omega)).trans (by exact by simpa using e2), (wr_cell h (p := ⟨w.heap.size + 1, 3, none⟩) hl1 (by simp only [List.mem_singleton]; omega)).trans (by exact by simpa using e3), (wr_cell h (p := ⟨w.heap.size, 1, none⟩) hl2 (by simp only [List.mem_singleton]; omega)).trans (by exact by simpa using p1), (wr_cell h (p := ⟨b1, o1 + i * 3, none⟩) hb2 (by simp only [List.mem_singleton]; omega)).trans (by exact by simpa using zi), (wr_cell h (p := ⟨b1, o1 + j * 3, none⟩) hb2 (by simp only [List.mem_singleton]; omega)).trans (by exact by simpa using zj)⟩)
  have INIT := Lib.hid (CE.out _ (Wr.refl _ _))
  have KW := Lib.hid (fun (W2 W : World) (hb : Wr [w6.heap.size] W W2) (h : Hid (Wr [w6.heap.size] wv.drew W) ∧ W.cell? ⟨w.heap.size + 1, 2, none⟩ = some (.int .i64 (i : Int)) ∧ W.cell? ⟨w.heap.size + 1, 3, none⟩ = some (.int .i64 (j : Int)) ∧ W.cell? ⟨w.heap.size, 1, none⟩ = some (.slice (some ⟨b1, o1, none⟩) p.acts.length c1) ∧ W.cell? ⟨b1, o1 + i * 3, none⟩ = some (.string nmi) ∧ W.cell? ⟨b1, o1 + j * 3, none⟩ = some (.string nmj)) => CE.out W2 (h.1.out.trans hb))
  clear e0 e1 e2 e3 ef p0 p1 p2 p3 p4 pf S5 O5 zi zj
  refine wp_region_held_drew (S := fun W => Hid (Wr [w6.heap.size] wv.drew W) ∧ W.cell? ⟨w.heap.size + 1, 2, none⟩ = some (.int .i64 (i : Int)) ∧ W.cell? ⟨w.heap.size + 1, 3, none⟩ = some (.int .i64 (j : Int)) ∧ W.cell? ⟨w.heap.size, 1, none⟩ = some (.slice (some ⟨b1, o1, none⟩) p.acts.length c1) ∧ W.cell? ⟨b1, o1 + i * 3, none⟩ = some (.string nmi) ∧ W.cell? ⟨b1, o1 + j * 3, none⟩ = some (.string nmj)) (by kernel_rfl) INIT.out (fun hHeld => ?_)
  refine wpAnyH_take (i := 0) (v := ?_) rfl (by kernel_rfl) (by kernel_rfl) (by kernel_rfl) (fun _ _ _ h => h) (Or.inl ⟨by rfl, ?_⟩) (by assumption) ?_
  rotate_left
  · (intro W hSw; (try dsimp only at hSw); go_simp <;> with_reducible rfl)
  (try simp only [Act.put, List.getElem_toArray, List.getElem_cons_zero, List.setIfInBounds_toArray, List.set_cons_succ, List.set_cons_zero])
  refine wpAnyH_take (i := 1) (v := ?_) rfl (by kernel_rfl) (by kernel_rfl) (by kernel_rfl) (fun _ _ _ h => h) (Or.inl ⟨by rfl, ?_⟩) (by assumption) ?_
  rotate_left
  · (intro W hSw; (try dsimp only at hSw); go_simp <;> with_reducible rfl)
  (try simp only [Act.put, List.getElem_toArray, List.getElem_cons_succ, List.getElem_cons_zero, List.setIfInBounds_toArray, List.set_cons_succ, List.set_cons_zero])
  refine wpAnyH_take (i := 2) (v := ?_) rfl (by kernel_rfl) (by kernel_rfl) (by kernel_rfl) (fun _ _ _ h => h) (Or.inl ⟨by rfl, ?_⟩) (by assumption) ?_
  rotate_left
  · (intro W hSw; (try dsimp only at hSw); go_simp <;> with_reducible rfl)
  (try simp only [Act.put, List.getElem_toArray, List.getElem_cons_succ, List.getElem_cons_zero, List.setIfInBounds_toArray, List.set_cons_succ, List.set_cons_zero])
  refine wpAnyH_take (i := 3) (v := ?_) rfl (by kernel_rfl) (by kernel_rfl) (by kernel_rfl) (fun _ _ _ h => h) (Or.inl ⟨by rfl, ?_⟩) (by assumption) ?_
  rotate_left
  · (intro W hSw; (try dsimp only at hSw); go_simp <;> with_reducible rfl)
  (try simp only [Act.put, List.getElem_toArray, List.getElem_cons_succ, List.getElem_cons_zero, List.setIfInBounds_toArray, List.set_cons_succ, List.set_cons_zero])
  refine wpAnyH_take (i := 4) (v := ?_) rfl (by kernel_rfl) (by kernel_rfl) (by kernel_rfl) (fun _ _ _ h => h) (Or.inl ⟨by rfl, ?_⟩) (by assumption) ?_
  rotate_left
  · (intro W hSw; (try dsimp only at hSw); go_simp <;> with_reducible rfl)
  (try simp only [Act.put, List.getElem_toArray, List.getElem_cons_succ, List.getElem_cons_zero, List.setIfInBounds_toArray, List.set_cons_succ, List.set_cons_zero])
  refine wpAnyH_take (i := 5) (v := ?_) rfl (by kernel_rfl) (by kernel_rfl) (by kernel_rfl) (fun _ _ _ h => h) (Or.inl ⟨by rfl, ?_⟩) (by assumption) ?_
  rotate_left
  · (intro W hSw; (try dsimp only at hSw); go_simp <;> with_reducible rfl)
  (try simp only [Act.put, List.getElem_toArray, List.getElem_cons_succ, List.getElem_cons_zero, List.setIfInBounds_toArray, List.set_cons_succ, List.set_cons_zero])
  refine wpAnyH_take (i := 6) (v := ?_) rfl (by kernel_rfl) (by kernel_rfl) (by kernel_rfl) (fun _ _ _ h => h) (Or.inl ⟨by rfl, ?_⟩) (by assumption) ?_
  rotate_left
  · (intro W hSw; (try dsimp only at hSw); go_simp <;> with_reducible rfl)
  (try simp only [Act.put, List.getElem_toArray, List.getElem_cons_succ, List.getElem_cons_zero, List.setIfInBounds_toArray, List.set_cons_succ, List.set_cons_zero])
  refine wpAnyH_take (i := 7) (v := ?_) rfl (by kernel_rfl) (by kernel_rfl) (by kernel_rfl) (fun _ _ _ h => h) (Or.inl ⟨by rfl, ?_⟩) (by assumption) ?_
  rotate_left
  · (intro W hSw; (try dsimp only at hSw); go_simp <;> with_reducible rfl)
  (try simp only [Act.put, List.getElem_toArray, List.getElem_cons_succ, List.getElem_cons_zero, List.setIfInBounds_toArray, List.set_cons_succ, List.set_cons_zero])
  refine wpAnyH_take (i := 8) (v := ?_) rfl (by kernel_rfl) (by kernel_rfl) (by kernel_rfl) (fun _ _ _ h => h) (Or.inl ⟨by rfl, ?_⟩) (by assumption) ?_
  rotate_left
  · (intro W hSw; (try dsimp only at hSw); go_simp <;> with_reducible rfl)
  (try simp only [Act.put, List.getElem_toArray, List.getElem_cons_succ, List.getElem_cons_zero, List.setIfInBounds_toArray, List.set_cons_succ, List.set_cons_zero])
  refine wpAnyH_take (i := 9) (v := ?_) rfl (by kernel_rfl) (by kernel_rfl) (by kernel_rfl) (fun _ _ _ h => h) (Or.inl ⟨by rfl, ?_⟩) (by assumption) ?_
  rotate_left
  · (intro W hSw; (try dsimp only at hSw); go_simp <;> with_reducible rfl)
  (try simp only [Act.put, List.getElem_toArray, List.getElem_cons_succ, List.getElem_cons_zero, List.setIfInBounds_toArray, List.set_cons_succ, List.set_cons_zero])
  refine wpAnyH_take (i := 10) (v := ?_) rfl (by kernel_rfl) (by kernel_rfl) (by kernel_rfl) (fun _ _ _ h => h) (Or.inl ⟨by rfl, ?_⟩) (by assumption) ?_
  rotate_left
  · (intro W hSw; (try dsimp only at hSw); go_simp <;> with_reducible rfl)
  (try simp only [Act.put, List.getElem_toArray, List.getElem_cons_succ, List.getElem_cons_zero, List.setIfInBounds_toArray, List.set_cons_succ, List.set_cons_zero])
  refine wpAnyH_take (i := 11) (v := ?_) rfl (by kernel_rfl) (by kernel_rfl) (by kernel_rfl) (fun _ _ _ h => h) (Or.inl ⟨by rfl, ?_⟩) (by assumption) ?_
  rotate_left
  · (intro W hSw; (try dsimp only at hSw); go_simp <;> with_reducible rfl)
  (try simp only [Act.put, List.getElem_toArray, List.getElem_cons_succ, List.getElem_cons_zero, List.setIfInBounds_toArray, List.set_cons_succ, List.set_cons_zero])
  refine wpAnyH_take (i := 12) (v := ?_) rfl (by kernel_rfl) (by kernel_rfl) (by kernel_rfl) (fun _ _ _ h => h) (Or.inl ⟨by rfl, ?_⟩) (by assumption) ?_
  rotate_left
  · (intro W hSw; (try dsimp only at hSw); go_simp <;> with_reducible rfl)
  (try simp only [Act.put, List.getElem_toArray, List.getElem_cons_succ, List.getElem_cons_zero, List.setIfInBounds_toArray, List.set_cons_succ, List.set_cons_zero])
  refine wpAnyH_take (i := 13) (v := ?_) rfl (by kernel_rfl) (by kernel_rfl) (by kernel_rfl) (fun _ _ _ h => h) (Or.inl ⟨by rfl, ?_⟩) (by assumption) ?_
  rotate_left
  · (intro W hSw; (try dsimp only at hSw); go_simp <;> with_reducible rfl)
  (try simp only [Act.put, List.getElem_toArray, List.getElem_cons_succ, List.getElem_cons_zero, List.setIfInBounds_toArray, List.set_cons_succ, List.set_cons_zero])
  refine wpAnyH_take (i := 14) (v := ?_) rfl (by kernel_rfl) (by kernel_rfl) (by kernel_rfl) (fun _ _ _ h => h) (Or.inl ⟨by rfl, ?_⟩) (by assumption) ?_
  rotate_left
  · (intro W hSw; (try dsimp only at hSw); go_simp <;> with_reducible rfl)
  (try simp only [Act.put, List.getElem_toArray, List.getElem_cons_succ, List.getElem_cons_zero, List.setIfInBounds_toArray, List.set_cons_succ, List.set_cons_zero])
  have S8 := S6
  have O8 := O6
  clear S6 O6
  refine wpAnyH_ready (rs := [15]) (by kernel_rfl) (by simp) ?_
  refine AllReadyH.cons rfl (fun K hK => ?_) AllReadyH.nil
  go_simp
  have BA := Lib.hid ((Below.refl _ (wv.drew)).alloc (Nat.le_refl _) (.cells #[.string (nmi), .string (nmj)] 9))
  have B8 := Lib.hid (S8.out.1.alloc S8.out.1.size (.cells #[.string (nmi), .string (nmj)] 9))
  have O9 := Lib.hid (own_below O8.out BA.out (Nat.le_refl _))
  refine hK.out _ _ (KW.out _ _ (Wr.of_below BA.out (Nat.le_refl _)) (by assumption)) (fun hHeldB => ?_)
  clear hK K
  refine wpAnyH_ready (rs := [16]) (by kernel_rfl) (by simp) ?_
  refine AllReadyH.cons rfl (fun K hK => ?_) AllReadyH.nil
  refine step_append_lies _ (by rfl) (.tmp 51) (.tmp 66) 46 (by rfl) w.heap.size 9 i0 (.string ⟨#[]⟩) 1 16 Tryz.underlying46 hi0 hz0 hz1 hz2 rfl (by decide) _ 2 [.string (ruNm 5), .string (fmtB a)] (by rfl) (by exact O9.out) ⟨wv.drew.heap.size, 0, none⟩ 2 2 [.string (nmi), .string (nmj)] (by rfl) (by rfl) (by exact two_cells _ _ _ _) (by simp [Value.oneCell']) (by decide) (by unfold maxLen; omega) (by omega) B8.out.size _ rfl ?_
  intro g' c' w4 hown4 hg4 hat4 hlt4
  have O10 := Lib.hid hown4
  have B9 := Lib.hid (B8.out.grown hg4 B8.out.size (own_mem O9.out))
  refine hK.out _ _ (KW.out _ _ (by exact Wr.of_grown hg4) (by assumption)) (fun hHeldA => ?_)
  clear hK K hown4 hg4 hat4
  refine wpAnyH_take (i := 17) (v := ?_) rfl (by kernel_rfl) (by kernel_rfl) (by kernel_rfl) (fun _ _ _ h => h) (Or.inl ⟨by rfl, ?_⟩) (by assumption) ?_
  rotate_left
  · (intro W hSw; (try dsimp only at hSw); go_simp <;> with_reducible rfl)
  (try simp only [Act.put, List.getElem_toArray, List.getElem_cons_succ, List.getElem_cons_zero, List.setIfInBounds_toArray, List.set_cons_succ, List.set_cons_zero])
  refine wpAnyH_done (by kernel_rfl) ?_ _
  clear CE INIT KW hHeldA hHeldB hHeld
  go_wp2_with fail
  refine (specJoin_any [ruNm 5, fmtB a, nmi, nmj] ⟨#[32]⟩ _ _ (by exact rd_own (xs := [ruNm 5, fmtB a, nmi, nmj]) O10.out (by simp)) (by have := HS.out; omega) (by simp) (by decide)).mono ?_
  rintro e w9 ⟨rfl, rfl⟩
  rw [← HF.out]
  go_wp2
  go_ret
  exact ⟨rfl, B9.out⟩
set_option maxRecDepth 100000 in
set_option maxHeartbeats 8000000 in
theorem sfm_stk (p : Pj) (a : Int) (v : Value) (w : World) (hv : (trPj p).rd w v) (hk : (trPj p).ok)  (hp : pokB p = true) (ht : thereC p (.stk a) = true) :
    Calls Tryz.prog 18 #[v, .agg #[.int .i64 6, .int .i64 a, .int .i64 0, .int .i64 0]] w fun e w' => e = .returned (.string (fmtC p (.stk a))) ∧ Below w.heap.size w w' := by
  have HK := Lib.hid hk
  have HV := Lib.hid hv
  have HF := Lib.hid (show fmtC p (.stk a) = joinB [ruNm 6, fmtB a] ⟨#[32]⟩ from rfl)
  have HOK := Lib.hid (show ruOkB p ⟨6, a, 0, 0⟩ = true from (ruOk_ru (c := .stk a) hp).trans ht)
  have HS := Lib.hid (show tot [ruNm 6, fmtB a] ≤ 40 from (words_sum hp 6 (.stk a)).1)
  have hr : 0 ≤ a ∧ a ≤ 100 := rng_of hp ht
  generalize fmtC p (.stk a) = res at HF ⊢
  obtain ⟨A1, c1, A2, c2, A3, c3, A4, c4, rfl, _⟩ := rdProject_t hv
  have S0 := Lib.hid (((Sn.start w).box 37 [.int .i64 p.dl, .slice A1 p.acts.length c1, .slice A2 p.lks.length c2, .slice A3 p.ress.length c3, .slice A4 p.stk.length c4]).box 30 [.int .i64 6, .int .i64 a, .int .i64 0, .int .i64 0])
  simp only [World.size_alloc] at S0
  clear hv hk hp ht
  go_enter Tryz.func18, Tryz.ntmps18
  go_wp2_with fail
  refine (specRuleOk_any p ⟨6, a, 0, 0⟩ _ _ (by exact S0.out.old HV.out) HK.out).mono ?_
  rintro e w1 ⟨rfl, b⟩
  have S1 := Lib.hid (S0.out.go b)
  clear S0 b
  rw [HOK.out]
  obtain ⟨p0, p1, p2, p3, p4, pf⟩ := (S1.out.bk 1 rfl).c5
  obtain ⟨e0, e1, e2, e3, ef⟩ := (S1.out.bk 0 rfl).c4
  go_wp2_with fail
  have hl0 := (S1.out.bk 0 rfl).lt
  have S2 := Lib.hid S1.out.drew1
  have CE := Lib.hid (fun (W : World) (h : Wr [] w1.drew W) => show Hid (Wr [] w1.drew W) ∧ W.cell? ⟨w.heap.size + 1, 0, none⟩ = some (.int .i64 6) ∧ W.cell? ⟨w.heap.size + 1, 1, none⟩ = some (.int .i64 a) from ⟨Lib.hid h, (wr_cell h (p := ⟨w.heap.size + 1, 0, none⟩) hl0 (by simp)).trans (by exact by simpa using e0), (wr_cell h (p := ⟨w.heap.size + 1, 1, none⟩) hl0 (by simp)).trans (by exact by simpa using e1)⟩)
  have INIT := Lib.hid (CE.out _ (Wr.refl _ _))
  have KW := Lib.hid (fun (W2 W : World) (hb : Wr [] W W2) (h : Hid (Wr [] w1.drew W) ∧ W.cell? ⟨w.heap.size + 1, 0, none⟩ = some (.int .i64 6) ∧ W.cell? ⟨w.heap.size + 1, 1, none⟩ = some (.int .i64 a)) => CE.out W2 (h.1.out.trans hb))
  clear e0 e1 e2 e3 ef p0 p1 p2 p3 p4 pf
  go_region_held3 (fun W => Hid (Wr [] w1.drew W) ∧ W.cell? ⟨w.heap.size + 1, 0, none⟩ = some (.int .i64 6) ∧ W.cell? ⟨w.heap.size + 1, 1, none⟩ = some (.int .i64 a)) (first | exact INIT.out | exact KW.out _ _ (by assumption) (by assumption) | exact KW.out _ _ (Wr.of_below (by assumption) (Nat.le_refl _)) (by assumption) | exact KW.out _ _ (Wr.of_below ((Below.refl _ _).alloc (Nat.le_refl _) _) (Nat.le_refl _)) (by assumption))
    ((first | (go_at_call 15; refine (specRuleName_any 6 _).mono ?_; rintro e w5 ⟨rfl, bb⟩; have S3 := Lib.hid (S2.out.go bb)) | (go_at_call 35; refine (specFmt_any a _ (by omega) (by omega)).mono ?_; rintro e w6 ⟨rfl, bb2⟩; have S4 := Lib.hid (S3.out.go bb2))))
  rename_i hHeld
  clear hHeld CE INIT KW S2 S3 bb bb2
  have S5 := Lib.hid (S4.out.box 9 [.string (ruNm 6), .string (fmtB a)])
  have hz6 := S4.out.1.size
  obtain ⟨e0, e1, e2, e3, ef⟩ := (S5.out.bk 1 rfl).c4
  obtain ⟨p0, p1, p2, p3, p4, pf⟩ := (S5.out.bk 2 rfl).c5
  go_wp2_with fail
  refine (specJoin_any [ruNm 6, fmtB a] ⟨#[32]⟩ _ _ (by exact newRow_any w6 9 [ruNm 6, fmtB a] (by simp [maxLen])) (by have := HS.out; omega) (by simp) (by decide)).mono ?_
  rintro e w9 ⟨rfl, rfl⟩
  rw [← HF.out]
  go_wp2
  go_ret
  exact ⟨rfl, S5.out.1⟩
set_option maxRecDepth 100000 in
set_option maxHeartbeats 8000000 in
theorem specFormatRule_any (p : Pj) (r : Ru) (v : Value) (w : World) (hv : (trPj p).rd w v) (hk : (trPj p).ok) :
    Calls Tryz.prog 18 #[v, ruV r] w fun e w' => e = .returned (.string (fmtRuB p r)) ∧ Below w.heap.size w w' := by
  rcases hok : ruOkB p r with _ | _
  · have HK := Lib.hid hk
    have HV := Lib.hid hv
    have H := Lib.hid (fmtRu_no hok)
    have HOK := Lib.hid hok
    obtain ⟨ki, a, b, c⟩ := r
    obtain ⟨A1, c1, A2, c2, A3, c3, A4, c4, rfl, _⟩ := rdProject_t hv
    have S0 := Lib.hid (((Sn.start w).box 37 [.int .i64 p.dl, .slice A1 p.acts.length c1, .slice A2 p.lks.length c2, .slice A3 p.ress.length c3, .slice A4 p.stk.length c4]).box 30 [.int .i64 ki, .int .i64 a, .int .i64 b, .int .i64 c])
    simp only [World.size_alloc] at S0
    clear hv hk hok
    generalize fmtRuB p ⟨ki, a, b, c⟩ = res at H ⊢
    unfold ruV
    go_enter Tryz.func18, Tryz.ntmps18
    go_wp2_with fail
    refine (specRuleOk_any p ⟨ki, a, b, c⟩ _ _ (by exact S0.out.old HV.out) HK.out).mono ?_
    rintro e w1 ⟨rfl, b⟩
    have S1 := Lib.hid (S0.out.go b)
    clear S0 b
    rw [HOK.out]
    go_wp2
    go_ret
    exact ⟨ret_strZ H.out.symm, S1.out.1⟩
  · have hne : ∃ c, pokB p = true ∧ thereC p c = true ∧ r = c.ru := by
      rcases hc : condOf r with _ | c
      · rw [ruOk_none hc] at hok; cases hok
      · have hp : pokB p = true := by
          rcases hp : pokB p with _ | _
          · rw [ruOk_pok hp] at hok; cases hok
          · rfl
        exact ⟨c, hp, by rw [← ruOk_some hc hp]; exact hok, (cond_some hc).symm⟩
    obtain ⟨c, hp, ht, rfl⟩ := hne
    rw [fmtC_fmt hp ht]
    have hr := rng_of hp ht
    cases c with
    | lnk a => exact sfm_lnk p a v w hv hk hp ht
    | fin a =>
      obtain ⟨k, rfl, h⟩ : ∃ k : Nat, a = (k : Int) ∧ k < p.acts.length := hr
      exact sfm_fin p k v w hv hk h hp ht
    | tim a b => exact sfm_tim p a b v w hv hk hp ht
    | wrk a b c => exact sfm_wrk p a b c v w hv hk hp ht
    | par a b c =>
      obtain ⟨_, ⟨i, rfl, hi⟩, ⟨j, rfl, hj⟩⟩ : (0 ≤ a ∧ a ≤ 100) ∧ ((∃ k : Nat, b = (k : Int) ∧ k < p.acts.length) ∧ ∃ k : Nat, c = (k : Int) ∧ k < p.acts.length) := hr
      exact sfm_par p a i j v w hv hk hi hj hp ht
    | stk a => exact sfm_stk p a v w hv hk hp ht
end Go.Proofs.YtaglfdkeomjpdabGreatDoor
end
