/- DERIVED. CONTRACTS: PositiveCycle of the model. -/
import Derived.Test.YtoggakfkpeloiaaGreatLkPs
import Derived.Test.YtoggakfkpeloiaaGreatPrD
namespace Go.Proofs.YtoggakfkpeloiaaGreat
open Go.RowKit Go.Shelf
set_option linter.unusedVariables false

set_option maxRecDepth 100000 in
set_option maxHeartbeats 8000000 in
theorem specPositive_any (p : Pj) (v : Value) (w : World) (hv : (trPj p).rd w v) (hk : (trPj p).ok) :
    Calls Tryz.prog 39 #[v] w fun e w' => ∃ u F, e = .returned u ∧ (trI (posB p)).own w' w.heap.size u F ∧ F.Nodup ∧ Below w.heap.size w w' := by
  have HV := Lib.hid hv
  obtain ⟨A1, c1, A2, c2, A3, c3, A4, c4, rfl, r1, r2, r3, r4⟩ := rdProject_t hv
  obtain ⟨hl2, B2, d2, he, g2⟩ := rdLinkS_t r2
  injection he with he _ he2
  subst he he2
  have G2 := Lib.hid g2
  clear hv r1 r2 r3 r4 g2
  have HK := Lib.hid hk
  clear hk G2 hl2
  have S0 := Lib.hid ((Sn.start w).box 35 [.int .i64 p.dl, .slice A1 p.acts.length c1, .slice A2 p.lks.length c2, .slice A3 p.ress.length c3, .slice A4 p.stk.length c4])
  go_enter Tryz.func39, Tryz.ntmps39
  obtain ⟨e0, e1, e2, e3, e4, ef⟩ := (S0.out.bk 0 rfl).c5
  go_wp2_with fail
  clear e0 e1 e2 e3 e4 ef
  refine (specProjectOk_any p _ _ (by exact S0.out.old HV.out) HK.out).mono ?_
  rintro e w1 ⟨rfl, b⟩
  have S1 := Lib.hid (S0.out.go b)
  clear S0 b
  rcases hok : pokB p with _ | _
  · have HS := Lib.hid (posB_bad hok)
    clear hok
    go_wp2
    go_ret
    have hnil : ∀ W : World, (trI (posB p)).own W w.heap.size (.slice none 0 0) [] := fun W => by rw [HS.out]; exact ⟨[], [], ⟨rfl, .inl ⟨rfl, rfl⟩⟩, ⟨rfl, rfl⟩, rfl⟩
    first
      | exact ⟨[], hnil _, List.nodup_nil, S1.out.1⟩
      | exact ⟨.slice none 0 0, [], rfl, hnil _, List.nodup_nil, S1.out.1⟩
      | exact ⟨.slice none 0 0, rfl, [], hnil _, List.nodup_nil, S1.out.1⟩
  have HOK := Lib.hid hok
  have h12 := (pok_lks hok).1
  have h6 := (pok_acts hok).1
  have HE := Lib.hid (pok_ends hok)
  clear hok
  go_wp2
  go_loopw [3] (fun i wr => ∃ c : Nat, 2 ≤ c ∧ (c ≤ p.acts.length + 1 ∨ c = 2) ∧ i = .int .i64 c ∧ (∀ d, 2 ≤ d → d < c → posC p.lks (gapsL p) d = none) ∧ Sn w wr [boxI w.heap.size 35 [.int .i64 p.dl, .slice A1 p.acts.length c1, .slice A2 p.lks.length c2, .slice A3 p.ress.length c3, .slice A4 p.stk.length c4]]) (fun i _ => p.acts.length + 1 - (intOf i).toNat)
  case atStart => exact ⟨2, Nat.le_refl _, .inr rfl, rfl, fun d h1 h2 => absurd h2 (by omega), S1.out⟩
  case round =>
    obtain ⟨c, hc2, hc3, rfl, hall, hS⟩ := hrel
    have S2 := Lib.hid hS
    have HALL := Lib.hid hall
    have HC3 := Lib.hid hc3
    clear hS S1 hall hc3
    obtain ⟨wo, rfl⟩ : ∃ wo : World, wo = wr := ⟨_, rfl⟩
    obtain ⟨e0, e1, e2, e3, e4, ef⟩ := (S2.out.bk 0 rfl).c5
    by_cases hlt : c ≤ p.acts.length
    · have hlt' : (c : Int) ≤ (p.acts.length : Int) := by omega
      have RG := Lib.hid (posC_ring (G := gapsL p) HE.out hc2)
      go_wp2
      clear e0 e1 e2 e3 e4 ef
      go_loopw [19] (fun i wz => ∃ k : Nat, k ≤ p.lks.length ∧ i = .int .i64 k ∧ (∀ t, t < k → ringS p.lks (gapsL p) (c - 1) [t] = none) ∧ Sn w wz [boxI w.heap.size 35 [.int .i64 p.dl, .slice A1 p.acts.length c1, .slice A2 p.lks.length c2, .slice A3 p.ress.length c3, .slice A4 p.stk.length c4]]) (fun i _ => p.lks.length - (intOf i).toNat)
      case atStart => exact ⟨0, Nat.zero_le _, rfl, fun t h => absurd h (by omega), S2.out⟩
      case round =>
        obtain ⟨k, hkl, rfl, hal2, hS⟩ := hrel
        have S3 := Lib.hid hS
        have HAL2 := Lib.hid hal2
        clear hS S2 hal2
        by_cases hltk : k < p.lks.length
        · have hltk' : (k : Int) < (p.lks.length : Int) := by omega
          have NX := Lib.hid (fun (h : ringS p.lks (gapsL p) (c - 1) [k] = none) t (ht : t < k + 1) => (if e : t < k then HAL2.out t e else by obtain rfl : t = k := (by omega); exact h : ringS p.lks (gapsL p) (c - 1) [t] = none))
          have R0 : (World.alloc wr (.cells #[.int .i64 (k : Int)] 3)).ownsRow wr.heap.size 3 1 (.slice (some ⟨wr.heap.size, 0, none⟩) 1 1) ((up [k]).map (Value.int .i64)).length ((up [k]).map (Value.int .i64)) := World.ownsRow_lit wr #[.int .i64 (k : Int)] 1 (Nat.le_refl _) (by decide) rfl
          have S4 := Lib.hid (S3.out.newI R0 ((Below.refl _ _).alloc (Nat.le_refl _) _))
          clear R0
          obtain ⟨e0, e1, e2, e3, e4, ef⟩ := (S3.out.bk 0 rfl).c5
          go_wp2_with fail
          clear e0 e1 e2 e3 e4 ef
          generalize World.alloc wr _ = wq at S4 ⊢
          refine (specRing_any p c HOK.out (by omega) (c - 1) [k] w.heap.size _ _ _ _ (by exact S4.out.old HV.out) (by simp; omega) (.one k) (fun x hx => by rw [List.mem_singleton] at hx; omega) (by exact (S4.out.own 0 rfl).1) (S4.out.own 0 rfl).2 (by exact S4.out.1.size)).mono ?_
          rintro e w5 ⟨u5, F5, rfl, o5, h5, b5⟩
          obtain ⟨U5, c5, rfl⟩ := slice_ints (Tr.own_rd _ _ _ o5)
          have S5 := Lib.hid ((S4.out.drop 0).go b5)
          have O5 := Lib.hid o5
          have H5 := Lib.hid h5
          clear o5 h5 b5 S4 S3
          have hu0 : (up ([] : List Nat)).length = 0 := rfl
          rcases hr : ringS p.lks (gapsL p) (c - 1) [k] with _ | r
          · have HN2 := Lib.hid (NX.out hr)
            clear hr NX
            simp only [Option.getD_none, hu0]
            go_wp2
            go_roundw
            case rel => exact ⟨k + 1, by omega, by go_num, HN2.out, S5.out⟩
            case measure => simp [intOf]; omega
          · have hrl := ring_len _ _ _ hr
            have HP := Lib.hid (pos_found HOK.out hc2 hlt HALL.out (RG.out.trans (some_found hltk HAL2.out hr)))
            rw [hr] at O5
            have hn : 0 < (up r).length := by rw [up_len, hrl, List.length_singleton]; omega
            clear hr hrl NX
            simp only [Option.getD_some] at O5 ⊢
            generalize hnl : (up r).length = n at O5 hn ⊢
            have hn' : (0 : Int) < (n : Int) := by omega
            clear hnl
            go_wp2
            go_ret
            first
              | exact ⟨_, rfl, _, by rw [HP.out]; exact O5.out, H5.out, S5.out.1⟩
              | exact ⟨_, _, rfl, by rw [HP.out]; exact O5.out, H5.out, S5.out.1⟩
              | exact ⟨_, by rw [HP.out]; exact O5.out, H5.out, S5.out.1⟩
        · have hgek : ¬ (k : Int) < (p.lks.length : Int) := by omega
          obtain rfl : k = p.lks.length := by omega
          have HN := Lib.hid (RG.out.trans (some_none HAL2.out))
          have HA := Lib.hid (fun d (h1 : 2 ≤ d) (h2 : d < c + 1) => (if e : d < c then HALL.out d h1 e else by obtain rfl : d = c := (by omega); exact HN.out : posC p.lks (gapsL p) d = none))
          go_wp2
          go_roundw
          case rel => exact ⟨c + 1, by omega, .inl (by omega), by go_num, HA.out, S3.out⟩
          case measure => simp [intOf]; omega
    · have hge : ¬ (c : Int) ≤ (p.acts.length : Int) := by omega
      have HS := Lib.hid (pos_none HOK.out (fun d h1 h2 => HALL.out d h1 (by omega)))
      clear HALL
      go_wp2
      go_ret
      have hnil : ∀ W : World, (trI (posB p)).own W w.heap.size (.slice none 0 0) [] := fun W => by rw [HS.out]; exact ⟨[], [], ⟨rfl, .inl ⟨rfl, rfl⟩⟩, ⟨rfl, rfl⟩, rfl⟩
      first
        | exact ⟨[], hnil _, List.nodup_nil, S2.out.1⟩
        | exact ⟨.slice none 0 0, [], rfl, hnil _, List.nodup_nil, S2.out.1⟩
        | exact ⟨.slice none 0 0, rfl, [], hnil _, List.nodup_nil, S2.out.1⟩

end Go.Proofs.YtoggakfkpeloiaaGreat
