/- DERIVED. CONTRACTS: PositiveCycle of the program. -/
import Derived.Test.YtoggakfkpeloiaaGreatLkD
import Derived.Test.YtoggakfkpeloiaaGreatLkGg
import Derived.Test.YtoggakfkpeloiaaGreatPrC
import Derived.BigQuiet
import Derived.Deep.LoopGhost
import Derived.WalkSmall
namespace Go.Proofs.YtoggakfkpeloiaaGreat
open Go.RowKit Go.Shelf
set_option linter.unusedVariables false

theorem Sn.popI {w0 W : World} {L : List Item} {us : List Int} {x : Int} {g n c : Nat} {F : List Nat} (h : Sn w0 W (⟨trI (us ++ [x]), .slice (some ⟨g, 0, none⟩) (n + 1) c, F⟩ :: L)) (hn : us.length = n) : Sn w0 W (⟨trI us, .slice (some ⟨g, 0, none⟩) n c, F⟩ :: L) := by
  have ho := h.ownRI
  have hF : F = [g] := (own_flat h.2.1).2
  subst hn
  rw [List.length_append, List.length_singleton, List.map_append] at ho
  have hs := ownsRow_pop (size := 1) (by simp) ho
  have hf := flat_own (by simpa using hs : W.ownsRow w0.heap.size 3 1 (.slice (some ⟨g, 0, none⟩) us.length c) (us.map (Value.int .i64)).length (us.map (Value.int .i64)))
  subst hF
  exact h.turn (t' := trI us) hf.1 hf.2 (fun k hk => .inl hk) (Wr.refl _ _)
theorem Sn.formI {w0 W : World} {L : List Item} {us : List Int} {A : Option Addr} {n c : Nat} {F : List Nat} (h : Sn w0 W (⟨trI us, .slice A n c, F⟩ :: L)) (hn : 0 < n) : ∃ g, A = some ⟨g, 0, none⟩ ∧ n ≤ c := by
  obtain ⟨_, h⟩ := h.ownRI
  rcases h with ⟨h, _⟩ | ⟨g, cap, cur, h, _, _, hle, _⟩
  · injection h with h1 h2 h3
    omega
  · injection h with h1 h2 h3
    exact ⟨g, h1, by omega⟩
theorem loC_le {C : List Nat} {n : Nat} (h : ∀ x ∈ C, x < n) : loC C ≤ n := by
  cases C with
  | nil => exact Nat.zero_le _
  | cons x _ => exact h x (by simp)
theorem loC_at {C : List Nat} (h : 0 < C.length) : loC C = C[0] + 1 := by
  cases C with
  | nil => simp at h
  | cons _ _ => rfl
/-- The contracts of canFollow and of sumOf, as the search wants them. -/
def CanF (p : Pj) (c : Nat) : Prop := ∀ (C : List Nat) (k : Nat) (v u : Value) (w : World), (trPj p).rd w v → Rd w u ((up C).map (.int .i64)) → (∀ x ∈ C, x < p.lks.length) → k < p.lks.length → C.length < c →
    Calls Tryz.prog 130 #[v, u, .int .i64 (k : Int), .int .i64 (c : Int)] w fun e w' => e = .returned (.bool (folB p.lks c C k)) ∧ Below w.heap.size w w'
def SumF (p : Pj) : Prop := ∀ (C : List Nat) (ug u : Value) (w : World), Rd w ug ((gapsL p).map (.int .i64)) → Rd w u ((up C).map (.int .i64)) → (∀ x ∈ C, x < (gapsL p).length) →
    Calls Tryz.prog 131 #[ug, u] w fun e w' => e = .returned (.int .i64 (sumG (gapsL p) C)) ∧ Below w.heap.size w w'
theorem own_capS {w : World} {B n c : Nat} {e : TypeId} {ad : Addr} {xs : List Value} {F : List Nat} (h : (flat e xs).own w B (.slice (some ad) n c) F) : n ≤ c := by
  obtain ⟨_, h⟩ := (own_flat h).1
  rcases h with ⟨h, _⟩ | ⟨g, cap, cur, h, _, _, hle, _⟩
  · cases h
  · injection h with h1 h2 h3
    omega


set_option maxRecDepth 100000 in
set_option maxHeartbeats 16000000 in
theorem implCycleOf_any (p : Pj) (c : Nat) (v ug : Value) (w : World) (hv : (trPj p).rd w v) (hg : Rd w ug ((gapsL p).map (.int .i64))) (hok : pokB p = true) (hc2 : 2 ≤ c) (hc6 : c ≤ 6) (hcf : CanF p c) (hsf : SumF p) :
    Calls Tryz.prog 111 #[v, ug, .int .i64 (c : Int)] w fun e w' => ∃ u F, e = .returned u ∧ (trI (up ((posC p.lks (gapsL p) c).getD []))).own w' w.heap.size u F ∧ F.Nodup ∧ Below w.heap.size w w' := by
  have HV := Lib.hid hv
  obtain ⟨A1, c1, A2, c2, A3, c3, A4, c4, rfl, r1, r2, r3, r4⟩ := rdProject_t hv
  obtain ⟨hl2, B2, d2, he, g2⟩ := rdLinkS_t r2
  injection he with he _ he2
  subst he he2
  have G2 := Lib.hid g2
  clear hv r1 r2 r3 r4 g2
  have HGR := Lib.hid hg
  have h12 := (pok_lks hok).1
  have HCF := Lib.hid hcf
  have HSF := Lib.hid hsf
  clear hg G2 hok hcf hsf
  obtain ⟨i0, hi0, hz0, hz1, hz2⟩ := info_parts infoInt
  have S0 := Lib.hid (((Sn.start w).box 35 [.int .i64 p.dl, .slice A1 p.acts.length c1, .slice A2 p.lks.length c2, .slice A3 p.ress.length c3, .slice A4 p.stk.length c4]).nilI)
  go_enter Tryz.func111, Tryz.ntmps111
  go_wp2
  try go_step3
  try go_wp2
  try go_step3
  try go_wp2
  go_loopg [7, 8] (mu p.lks.length c [] 0) (fun g u i wr => ∃ (C : List Nat) (k : Nat) (F : List Nat), g = mu p.lks.length c C k ∧ i = .int .i64 k ∧ (C.length < c ∧ k ≤ p.lks.length ∧ (∀ x ∈ C, x < p.lks.length) ∧ contC p.lks (gapsL p) c C k = posC p.lks (gapsL p) c) ∧ Sn w wr [⟨trI (up C), u, F⟩, boxI w.heap.size 35 [.int .i64 p.dl, .slice A1 p.acts.length c1, .slice A2 p.lks.length c2, .slice A3 p.ress.length c3, .slice A4 p.stk.length c4]])
  case atStart => exact ⟨[], 0, _, rfl, rfl, ⟨by simp; omega, Nat.zero_le _, by simp, rfl⟩, S0.out⟩
  case round =>
    obtain ⟨C, k0, F, rfl, rfl, ⟨hCl, hk0, hC, hA⟩, hS⟩ := hrel
    have S1 := Lib.hid hS
    have HC := Lib.hid hC
    have HA := Lib.hid hA
    clear hS hC hA S0
    go_wp2
    try go_step3
    try go_wp2
    try go_step3
    try go_wp2
    go_loopg [7, 8] (p.lks.length - k0) (fun g u i wz => ∃ (k : Nat) (F : List Nat), g = p.lks.length - k ∧ k0 ≤ k ∧ k ≤ p.lks.length ∧ i = .int .i64 k ∧ contC p.lks (gapsL p) c C k = posC p.lks (gapsL p) c ∧ Sn w wz [⟨trI (up C), u, F⟩, boxI w.heap.size 35 [.int .i64 p.dl, .slice A1 p.acts.length c1, .slice A2 p.lks.length c2, .slice A3 p.ress.length c3, .slice A4 p.stk.length c4]])
    case atStart => exact ⟨k0, F, rfl, Nat.le_refl _, hk0, rfl, HA.out, S1.out⟩
    case round =>
      obtain ⟨k, F2, rfl, hkk, hkl, rfl, hA2, hS2⟩ := hrel
      have S2 := Lib.hid hS2
      have HA2 := Lib.hid hA2
      clear hS2 S1 hA2 HA
      obtain ⟨U, cu, hu⟩ := slice_ints (S2.out.rd 0 rfl)
      rw [up_len] at hu
      subst hu
      obtain ⟨e0, e1, e2, e3, e4, ef⟩ := (S2.out.bk 1 rfl).c5
      by_cases hlt : k < p.lks.length
      · have hlt' : (k : Int) < (p.lks.length : Int) := by omega
        go_wp2_with fail
        clear e0 e1 e2 e3 e4 ef
        refine (HCF.out C k _ _ _ (by exact S2.out.old HV.out) (by exact rd_flat (S2.out.rd 0 rfl)) HC.out hlt hCl).mono ?_
        rintro e w4 ⟨rfl, b4⟩
        have S3 := Lib.hid (S2.out.go b4)
        clear b4 S2
        rcases hf : folB p.lks c C k with _ | _
        · have HN := Lib.hid ((cont_skip hlt hf).symm.trans HA2.out)
          clear hf
          go_wp2
          go_roundg (p.lks.length - (k + 1))
          case measure => omega
          case rel => exact ⟨k + 1, _, rfl, by omega, by omega, by go_num, HN.out, S3.out⟩
        · have HF := Lib.hid hf
          clear hf
          have OW := Lib.hid (show w4.ownsRow w.heap.size 3 1 (.slice U C.length cu) C.length ((up C).map (.int .i64)) by have h := S3.out.ownRI; rwa [up_len] at h)
          have hz := S3.out.1.size
          have HMEM := Lib.hid (show ∀ x ∈ C ++ [k], x < p.lks.length from fun x hx => by rcases List.mem_append.1 hx with h | h; exact HC.out x h; rw [List.mem_singleton] at h; omega)
          go_wp2_with (first | (at_builtin; refine wpList_append_own_at _ rfl (.tmp 23) (.tmp 25) 25 rfl w.heap.size 3 i0 (.int .i64 0) 1 8 Tryz.underlying25 hi0 hz0 hz1 hz2 rfl (by decide) (.slice U C.length cu) C.length ((up C).map (.int .i64)) rfl (by exact OW.out.alloc _) ⟨w4.heap.size, 0, none⟩ 1 1 [.int .i64 (k : Int)] rfl rfl ?c1 ?c2 ?c3 ?c4 ?c5 ?_))
          try case c1 => exact one_cell _ _ _
          case c2 => simp [Value.oneCell']
          case c3 => unfold maxLen; omega
          case c4 => omega
          case c5 => first | omega | (simp; omega)
          intro v' w8 hown8 hg8 _ hat8
          obtain ⟨F9, h9⟩ := S3.out.appI2 hown8 hg8 (by simpa using hat8)
          rw [← up_snoc] at h9
          obtain ⟨U9, c9, hv9⟩ := slice_ints (h9.rd 0 rfl)
          rw [up_len, List.length_append, List.length_singleton] at hv9
          subst hv9
          obtain ⟨g9, rfl, hcap9⟩ := h9.formI (by omega)
          have S9 := Lib.hid h9
          have HR9 := Lib.hid (rd_flat (h9.rd 0 rfl))
          clear hown8 hg8 hat8 h9 OW S3
          by_cases hlc : C.length + 1 < c
          · have hlc' : (C.length : Int) + 1 < (c : Int) := by omega
            have HN := Lib.hid ((cont_push hlt HF.out hlc).symm.trans HA2.out)
            have hne : 0 < (C ++ [k]).length := by simp
            have HL := Lib.hid (loC_at hne)
            obtain ⟨_, AA, cA, he, gA⟩ := rdI HR9.out
            injection he with he1 hel he2
            subst he1 he2
            clear hel
            obtain ⟨bA, oA, heA, hbA, hcA⟩ := gA 0 (by rw [up_len]; exact hne)
            injection heA with heA
            injection heA with heA1 heA2
            subst heA1 heA2
            have hy0 := hcA 0 (by rw [up_len]; exact hne)
            rw [up_at hne, Nat.add_zero] at hy0
            clear hcA gA
            have HL2 := Lib.hid (loC_le HMEM.out)
            generalize (C ++ [k])[0] = x0 at hy0 HL
            have hx12 : x0 ≤ 12 := by have := HL.out; have := HL2.out; omega
            go_wp2
            go_roundg (mu p.lks.length c (C ++ [k]) (loC (C ++ [k])))
            case measure => exact mu_push hkk hlt hlc
            case rel => exact ⟨C ++ [k], loC (C ++ [k]), F9, rfl, by rw [HL.out]; go_num, ⟨by simp; omega, HL2.out, HMEM.out, HN.out⟩, S9.out⟩
          · have hcc : C.length + 1 = c := by omega
            have HCC := Lib.hid hcc
            have hge : ¬ (C.length : Int) + 1 < (c : Int) := by omega
            clear hcc
            go_wp2_with fail
            refine (HSF.out (C ++ [k]) _ _ _ (by exact HGR.out.below S9.out.1 (Nat.le_refl _)) (by exact HR9.out) (by rw [gapsL_len]; exact HMEM.out)).mono ?_
            rintro e w10 ⟨rfl, b10⟩
            have S10 := Lib.hid (S9.out.go b10)
            clear b10 S9 HR9
            by_cases hs : 0 < sumG (gapsL p) (C ++ [k])
            · have HS := Lib.hid (HA2.out.symm.trans (cont_found hlt HF.out HCC.out hs))
              generalize sumG (gapsL p) (C ++ [k]) = s0 at hs ⊢
              go_wp2
              try rw [Exit.noGoto_ret]
              go_ret
              first
                | exact ⟨_, rfl, _, by rw [HS.out]; exact (S10.out.own 0 rfl).1, (S10.out.own 0 rfl).2, S10.out.1⟩
                | exact ⟨_, _, rfl, by rw [HS.out]; exact (S10.out.own 0 rfl).1, (S10.out.own 0 rfl).2, S10.out.1⟩
                | exact ⟨_, by rw [HS.out]; exact (S10.out.own 0 rfl).1, (S10.out.own 0 rfl).2, S10.out.1⟩
            · have HN := Lib.hid ((cont_poor hlt HF.out HCC.out hs).symm.trans HA2.out)
              generalize sumG (gapsL p) (C ++ [k]) = s0 at hs ⊢
              have S11 := Lib.hid ((show Sn w w10 (⟨trI (up C ++ [(k : Int)]), _, F9⟩ :: _) from up_snoc C k ▸ S10.out).popI (up_len C))
              clear S10
              have hcw : (c : Int) - 1 = (C.length : Int) := by have := HCC.out; omega
              have hcap2 : (C.length : Int) ≤ (c9 : Int) := by omega
              go_wp2
              go_roundg (p.lks.length - (k + 1))
              case measure => omega
              case rel => exact ⟨k + 1, F9, rfl, by omega, by omega, by go_num, HN.out, S11.out⟩
      · have hge : ¬ (k : Int) < (p.lks.length : Int) := by omega
        rcases List.eq_nil_or_concat C with rfl | ⟨C', x, rfl⟩
        · have HS := Lib.hid (HA2.out.symm.trans (cont_none (by omega)))
          go_wp2
          try rw [Exit.noGoto_ret]
          go_ret
          first
            | exact ⟨_, rfl, _, by rw [HS.out]; exact ⟨[], [], ⟨rfl, .inl ⟨rfl, rfl⟩⟩, ⟨rfl, rfl⟩, rfl⟩, List.nodup_nil, S2.out.1⟩
            | exact ⟨_, _, rfl, by rw [HS.out]; exact ⟨[], [], ⟨rfl, .inl ⟨rfl, rfl⟩⟩, ⟨rfl, rfl⟩, rfl⟩, List.nodup_nil, S2.out.1⟩
            | exact ⟨_, by rw [HS.out]; exact ⟨[], [], ⟨rfl, .inl ⟨rfl, rfl⟩⟩, ⟨rfl, rfl⟩, rfl⟩, List.nodup_nil, S2.out.1⟩
        · rw [List.concat_eq_append] at *
          have HN := Lib.hid ((cont_pop (by omega)).symm.trans HA2.out)
          have HC' := Lib.hid (show ∀ x ∈ C', x < p.lks.length from fun y hy => HC.out y (List.mem_append_left _ hy))
          have hx : x < p.lks.length := HC.out x (by simp)
          rw [List.length_append, List.length_singleton] at S2 hCl ⊢
          obtain ⟨g2, rfl, hcap2⟩ := S2.out.formI (by omega)
          have hw2 := rd_flat (S2.out.rd 0 rfl)
          obtain ⟨_, AA, cA, he, gA⟩ := rdI hw2
          injection he with he1 hel he2
          subst he1 he2
          obtain ⟨bA, oA, heA, hbA, hcA⟩ := gA C'.length (by rw [up_len, List.length_append]; simp)
          injection heA with heA
          injection heA with heA1 heA2
          subst heA1 heA2
          have hy0 := hcA C'.length (by rw [up_len, List.length_append]; simp)
          rw [up_at (by simp)] at hy0
          rw [List.getElem_append_right (Nat.le_refl _)] at hy0
          simp only [Nat.sub_self, List.getElem_singleton, Nat.zero_add] at hy0
          clear hcA gA hel hw2
          have S3 := Lib.hid ((show Sn w wr (⟨trI (up C' ++ [(x : Int)]), _, F2⟩ :: _) from up_snoc C' x ▸ S2.out).popI (up_len C'))
          have hcl6 : C'.length ≤ 6 := by omega
          have hcl0 : (0 : Int) ≤ (C'.length : Int) := by omega
          have hcap3 : (C'.length : Int) ≤ (cu : Int) := by omega
          have hwm : IntKind.i64.wrap (C'.length : Int) = (C'.length : Int) := by rw [IntWalk.i64_left]; unfold wrap64; omega
          have hwx : IntKind.i64.wrap ((x : Int) + 1) = (x : Int) + 1 := by rw [IntWalk.i64_left]; unfold wrap64; omega
          have hx12 : x ≤ 12 := by omega
          clear S2
          go_wp2_with fail
          go_quiet (fail)
          go_wp2
          go_roundg (mu p.lks.length c C' (x + 1))
          case measure => exact mu_pop
          case rel => exact ⟨C', x + 1, F2, rfl, by go_num, ⟨by omega, hx, HC'.out, HN.out⟩, S3.out.drew _⟩


set_option maxRecDepth 100000 in
set_option maxHeartbeats 8000000 in
theorem implPositive_of (p : Pj) (v : Value) (w : World) (hv : (trPj p).rd w v) (hk : (trPj p).ok) (hcf : ∀ c, 2 ≤ c → c ≤ 6 → CanF p c) (hsf : SumF p) :
    Calls Tryz.prog 76 #[v] w fun e w' => ∃ u F, e = .returned u ∧ (trI (posB p)).own w' w.heap.size u F ∧ F.Nodup ∧ Below w.heap.size w w' := by
  have HV := Lib.hid hv
  obtain ⟨A1, c1, A2, c2, A3, c3, A4, c4, rfl, r1, r2, r3, r4⟩ := rdProject_t hv
  obtain ⟨hl2, B2, d2, he, g2⟩ := rdLinkS_t r2
  injection he with he _ he2
  subst he he2
  have G2 := Lib.hid g2
  clear hv r1 r2 r3 r4 g2
  have HK := Lib.hid hk
  have HCF := Lib.hid hcf
  have HSF := Lib.hid hsf
  clear hk G2 hl2 hcf hsf
  have S0 := Lib.hid ((Sn.start w).box 35 [.int .i64 p.dl, .slice A1 p.acts.length c1, .slice A2 p.lks.length c2, .slice A3 p.ress.length c3, .slice A4 p.stk.length c4])
  go_enter Tryz.func76, Tryz.ntmps76
  obtain ⟨e0, e1, e2, e3, e4, ef⟩ := (S0.out.bk 0 rfl).c5
  go_wp2_with fail
  clear e0 e1 e2 e3 e4 ef
  refine (implProjectOk_any p _ _ (by exact S0.out.old HV.out) HK.out).mono ?_
  rintro e w1 ⟨rfl, b⟩
  have S1 := Lib.hid (S0.out.go b)
  clear S0 b
  rcases hok : pokB p with _ | _
  · have HS := Lib.hid (posB_bad hok)
    clear hok
    go_wp2
    go_ret
    have hnil : ∀ W : World, (trI (posB p)).own W w.heap.size (.slice none 0 0) [] := fun W => by rw [HS.out]; exact ⟨[], [], ⟨rfl, .inl ⟨rfl, rfl⟩⟩, ⟨rfl, rfl⟩, rfl⟩
    first
      | exact ⟨[], hnil _, List.nodup_nil, S1.out.1⟩
      | exact ⟨.slice none 0 0, [], rfl, hnil _, List.nodup_nil, S1.out.1⟩
      | exact ⟨.slice none 0 0, rfl, [], hnil _, List.nodup_nil, S1.out.1⟩
  have HOK := Lib.hid hok
  have h12 := (pok_lks hok).1
  have h6 := (pok_acts hok).1
  clear hok
  obtain ⟨e0, e1, e2, e3, e4, ef⟩ := (S1.out.bk 0 rfl).c5
  go_wp2_with fail
  clear e0 e1 e2 e3 e4 ef
  refine (implGaps_any p _ _ (by exact S1.out.old HV.out) HOK.out).mono ?_
  rintro e w2 ⟨ug, FG, rfl, og, hng, bg⟩
  have S2 := Lib.hid (S1.out.new og hng bg)
  clear og hng bg S1
  go_wp2
  go_loopw [4] (fun i wr => ∃ c : Nat, 2 ≤ c ∧ (c ≤ p.acts.length + 1 ∨ c = 2) ∧ i = .int .i64 c ∧ (∀ d, 2 ≤ d → d < c → posC p.lks (gapsL p) d = none) ∧ Sn w wr [⟨trI (gapsL p), ug, FG⟩, boxI w.heap.size 35 [.int .i64 p.dl, .slice A1 p.acts.length c1, .slice A2 p.lks.length c2, .slice A3 p.ress.length c3, .slice A4 p.stk.length c4]]) (fun i _ => p.acts.length + 1 - (intOf i).toNat)
  case atStart => exact ⟨2, Nat.le_refl _, .inr rfl, rfl, fun d h1 h2 => absurd h2 (by omega), S2.out⟩
  case round =>
    obtain ⟨c, hc2, hc3, rfl, hall, hS⟩ := hrel
    have S3 := Lib.hid hS
    have HALL := Lib.hid hall
    have HC3 := Lib.hid hc3
    clear hS S2 hall hc3
    obtain ⟨e0, e1, e2, e3, e4, ef⟩ := (S3.out.bk 1 rfl).c5
    by_cases hlt : c ≤ p.acts.length
    · have hlt' : (c : Int) ≤ (p.acts.length : Int) := by omega
      go_wp2_with fail
      clear e0 e1 e2 e3 e4 ef
      refine (implCycleOf_any p c _ _ _ (by exact S3.out.old HV.out) (by exact rd_flat (S3.out.rd 0 rfl)) HOK.out hc2 (by omega) (HCF.out c hc2 (by omega)) HSF.out).mono ?_
      rintro e w5 ⟨u5, F5, rfl, o5, h5, b5⟩
      obtain ⟨U5, c5, rfl⟩ := slice_ints (Tr.own_rd _ _ _ o5)
      have S5 := Lib.hid (S3.out.go b5)
      have O5 := Lib.hid (Tr.own_base S3.out.1.size _ _ _ o5)
      have H5 := Lib.hid h5
      clear o5 h5 b5 S3
      have hu0 : (up ([] : List Nat)).length = 0 := rfl
      rcases hr : posC p.lks (gapsL p) c with _ | r
      · have HA := Lib.hid (fun d (h1 : 2 ≤ d) (h2 : d < c + 1) => (if e : d < c then HALL.out d h1 e else by obtain rfl : d = c := (by omega); exact hr : posC p.lks (gapsL p) d = none))
        clear hr
        simp only [Option.getD_none, hu0]
        go_wp2
        go_roundw
        case rel => exact ⟨c + 1, by omega, .inl (by omega), by go_num, HA.out, S5.out⟩
        case measure => simp [intOf]; omega
      · have hrl := posC_len (by omega) hr
        have HP := Lib.hid (pos_found HOK.out hc2 hlt HALL.out hr)
        rw [hr] at O5
        have hn : 0 < (up r).length := by rw [up_len, hrl]; omega
        clear hr hrl
        simp only [Option.getD_some] at O5 ⊢
        generalize hnl : (up r).length = n at O5 hn ⊢
        have hn' : (0 : Int) < (n : Int) := by omega
        clear hnl
        go_wp2
        go_ret
        first
          | exact ⟨_, rfl, _, by rw [HP.out]; exact O5.out, H5.out, S5.out.1⟩
          | exact ⟨_, _, rfl, by rw [HP.out]; exact O5.out, H5.out, S5.out.1⟩
          | exact ⟨_, by rw [HP.out]; exact O5.out, H5.out, S5.out.1⟩
    · have hge : ¬ (c : Int) ≤ (p.acts.length : Int) := by omega
      have HS := Lib.hid (pos_none HOK.out (fun d h1 h2 => HALL.out d h1 (by omega)))
      clear HALL
      go_wp2
      go_ret
      have hnil : ∀ W : World, (trI (posB p)).own W w.heap.size (.slice none 0 0) [] := fun W => by rw [HS.out]; exact ⟨[], [], ⟨rfl, .inl ⟨rfl, rfl⟩⟩, ⟨rfl, rfl⟩, rfl⟩
      first
        | exact ⟨[], hnil _, List.nodup_nil, S3.out.1⟩
        | exact ⟨.slice none 0 0, [], rfl, hnil _, List.nodup_nil, S3.out.1⟩
        | exact ⟨.slice none 0 0, rfl, [], hnil _, List.nodup_nil, S3.out.1⟩


end Go.Proofs.YtoggakfkpeloiaaGreat
