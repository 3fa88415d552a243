/- DERIVED. CONTRACTS of chapter 11: the listed rules of the model (l10Rules). -/
import Derived.Test.YtaglfdkeomjpdaaGreatRuB
import Derived.Test.YtaglfdkeomjpdaaGreatRuZ
namespace Go.Proofs.YtaglfdkeomjpdaaGreat
open Go.RowKit Go.Shelf
set_option linter.unusedVariables false

set_option maxRecDepth 100000 in
set_option maxHeartbeats 8000000 in
theorem rules_any (p : Pj) (v : Value) (w : World) (hv : (trPj p).rd w v) (hp : pokB p = true) :
    Calls Tryz.prog 47 #[v] w fun e w' => ∃ u F, e = .returned u ∧ (rowR (listC p)).own w' w.heap.size u F ∧ F.Nodup ∧ Below w.heap.size w w' := by
  have HV := Lib.hid hv
  obtain ⟨n1, n2, n3, n4⟩ := pok_lens hp
  obtain ⟨A1, c1, A2, c2, A3, c3, A4, c4, rfl, _⟩ := rdProject_t hv
  have S0 := Lib.hid ((Sn.start w).box 36 [.int .i64 p.dl, .slice A1 p.acts.length c1, .slice A2 p.lks.length c2, .slice A3 p.ress.length c3, .slice A4 p.stk.length c4]).emptyRu
  simp only [World.size_alloc] at S0
  have HR := Lib.hid (show listC p = lnkL p.lks.length ++ finL p.acts.length ++ timsL p.ress.length ++ pairsL p p.ress.length ++ stkL p.stk.length from rfl)
  generalize listC p = res at HR ⊢
  obtain ⟨i0, hi0, hz0, hz1, hz2⟩ := info_parts infoRule_t
  clear hv hp
  go_enter Tryz.func47, Tryz.ntmps47
  go_wp2
  obtain ⟨P0, hP0⟩ : ∃ l, l = ([] : List Cd) := ⟨_, rfl⟩
  have hlP0 : P0.length ≤ 0 := by rw [hP0]; simp
  rw [← hP0] at S0
  have HP0 := Lib.hid hP0
  clear hP0
  go_loopw [3, 16] (fun q i wr => ∃ (k : Nat) (F : List Nat), k ≤ p.lks.length ∧ i = .int .i64 k ∧ Sn w wr [⟨rowR (P0 ++ lnkL k), q, F⟩, boxI w.heap.size 36 [.int .i64 p.dl, .slice A1 p.acts.length c1, .slice A2 p.lks.length c2, .slice A3 p.ress.length c3, .slice A4 p.stk.length c4]]) (fun _ i _ => p.lks.length - (intOf i).toNat)
  case atStart => exact ⟨0, _, Nat.zero_le _, rfl, by simpa [lnkL] using S0.out⟩
  case round =>
    obtain ⟨k, F, hkl, rfl, hS⟩ := hrel
    clear S0
    have S1 := Lib.hid hS
    clear hS
    by_cases hlt : k < p.lks.length
    · have hlt' : (k : Int) < (p.lks.length : Int) := by omega
      have hlen : (P0 ++ lnkL k).length ≤ 1000 := by rw [List.length_append, lnkL_len]; omega
      have HT := Lib.hid (show P0 ++ lnkL (k + 1) = (P0 ++ lnkL k) ++ [Cd.lnk (k : Int)] from by rw [lnkL_succ, List.append_assoc])
      generalize P0 ++ lnkL k = l at S1 hlen HT
      have OW := Lib.hid S1.out.ownR
      have hz := S1.out.1.size
      go_wp2_with (first | (at_builtin; refine wpList_append_own_at _ rfl (.tmp 19) (.tmp 22) 50 rfl w.heap.size 38 i0 (.agg #[.int .i64 0, .int .i64 0, .int .i64 0, .int .i64 0]) 4 32 Tryz.underlying50 hi0 hz0 hz1 hz2 rfl (by decide) _ (l).length (cells4 ((l).map Cd.ru)) rfl (by exact OW.out.alloc _) ⟨wr.heap.size, 0, none⟩ 1 1 [.int .i64 1, .int .i64 (k : Int), .int .i64 0, .int .i64 0] rfl rfl ?c1 ?c2 ?c3 ?c4 ?c5 ?_) | fail)
      try case c1 => exact four_cells _ _ _ _ _ _
      case c2 => simp [Value.oneCell']
      case c3 => unfold maxLen; omega
      case c4 => omega
      case c5 => first | omega | (simp; omega)
      intro v' w8 hown8 hg8 _ hat8
      obtain ⟨F9, h9⟩ := S1.out.appR (Cd.lnk (k : Int)) ((Below.refl _ _).alloc (Nat.le_refl _) _) hown8 rfl hg8 (by simpa using hat8)
      have S9 := Lib.hid h9
      clear hown8 hg8 hat8 h9 OW S1
      go_wp2
      go_roundw
      case rel => exact ⟨k + 1, F9, by omega, by go_num, by rw [HT.out]; exact S9.out⟩
      case measure => simp [intOf]; omega
    · have hge : ¬ (k : Int) < (p.lks.length : Int) := by omega
      obtain rfl : k = p.lks.length := by omega
      obtain ⟨P1, hP1⟩ : ∃ l, l = P0 ++ lnkL p.lks.length := ⟨_, rfl⟩
      have hlP1 : P1.length ≤ 12 := by rw [hP1]; rw [List.length_append, lnkL_len]; omega
      rw [← hP1] at S1
      have HP1 := Lib.hid hP1
      clear hP1
      obtain ⟨e0, e1, e2, e3, e4, ef⟩ := (S1.out.bk 1 rfl).c5
      go_wp2
      clear e0 e1 e2 e3 e4 ef
      go_loopw [3, 28] (fun q i wr => ∃ (k : Nat) (F : List Nat), k ≤ p.acts.length ∧ i = .int .i64 k ∧ Sn w wr [⟨rowR (P1 ++ finL k), q, F⟩, boxI w.heap.size 36 [.int .i64 p.dl, .slice A1 p.acts.length c1, .slice A2 p.lks.length c2, .slice A3 p.ress.length c3, .slice A4 p.stk.length c4]]) (fun _ i _ => p.acts.length - (intOf i).toNat)
      case atStart => exact ⟨0, _, Nat.zero_le _, rfl, by simpa [finL] using S1.out⟩
      case round =>
        obtain ⟨k, F, hkl, rfl, hS⟩ := hrel
        clear S1
        have S1 := Lib.hid hS
        clear hS
        by_cases hlt : k < p.acts.length
        · have hlt' : (k : Int) < (p.acts.length : Int) := by omega
          have hlen : (P1 ++ finL k).length ≤ 1000 := by rw [List.length_append, finL_len]; omega
          have HT := Lib.hid (show P1 ++ finL (k + 1) = (P1 ++ finL k) ++ [Cd.fin (k : Int)] from by rw [finL_succ, List.append_assoc])
          generalize P1 ++ finL k = l at S1 hlen HT
          have OW := Lib.hid S1.out.ownR
          have hz := S1.out.1.size
          go_wp2_with (first | (at_builtin; refine wpList_append_own_at _ rfl (.tmp 31) (.tmp 34) 50 rfl w.heap.size 38 i0 (.agg #[.int .i64 0, .int .i64 0, .int .i64 0, .int .i64 0]) 4 32 Tryz.underlying50 hi0 hz0 hz1 hz2 rfl (by decide) _ (l).length (cells4 ((l).map Cd.ru)) rfl (by exact OW.out.alloc _) ⟨wr.heap.size, 0, none⟩ 1 1 [.int .i64 2, .int .i64 (k : Int), .int .i64 0, .int .i64 0] rfl rfl ?c1 ?c2 ?c3 ?c4 ?c5 ?_) | fail)
          try case c1 => exact four_cells _ _ _ _ _ _
          case c2 => simp [Value.oneCell']
          case c3 => unfold maxLen; omega
          case c4 => omega
          case c5 => first | omega | (simp; omega)
          intro v' w8 hown8 hg8 _ hat8
          obtain ⟨F9, h9⟩ := S1.out.appR (Cd.fin (k : Int)) ((Below.refl _ _).alloc (Nat.le_refl _) _) hown8 rfl hg8 (by simpa using hat8)
          have S9 := Lib.hid h9
          clear hown8 hg8 hat8 h9 OW S1
          go_wp2
          go_roundw
          case rel => exact ⟨k + 1, F9, by omega, by go_num, by rw [HT.out]; exact S9.out⟩
          case measure => simp [intOf]; omega
        · have hge : ¬ (k : Int) < (p.acts.length : Int) := by omega
          obtain rfl : k = p.acts.length := by omega
          obtain ⟨P2, hP2⟩ : ∃ l, l = P1 ++ finL p.acts.length := ⟨_, rfl⟩
          have hlP2 : P2.length ≤ 18 := by rw [hP2]; rw [List.length_append, finL_len]; omega
          rw [← hP2] at S1
          have HP2 := Lib.hid hP2
          clear hP2
          obtain ⟨e0, e1, e2, e3, e4, ef⟩ := (S1.out.bk 1 rfl).c5
          go_wp2
          clear e0 e1 e2 e3 e4 ef
          go_loopw [3, 40] (fun q i wr => ∃ (k : Nat) (F : List Nat), k ≤ p.ress.length ∧ i = .int .i64 k ∧ Sn w wr [⟨rowR (P2 ++ timsL k), q, F⟩, boxI w.heap.size 36 [.int .i64 p.dl, .slice A1 p.acts.length c1, .slice A2 p.lks.length c2, .slice A3 p.ress.length c3, .slice A4 p.stk.length c4]]) (fun _ i _ => p.ress.length - (intOf i).toNat)
          case atStart => exact ⟨0, _, Nat.zero_le _, rfl, by simpa [timsL] using S1.out⟩
          case round =>
            obtain ⟨r, F, hrl, rfl, hS⟩ := hrel
            clear S1
            have S1 := Lib.hid hS
            clear hS
            by_cases hlr : r < p.ress.length
            · have hlr' : (r : Int) < (p.ress.length : Int) := by omega
              have HTS := Lib.hid (show P2 ++ timsL (r + 1) = (P2 ++ timsL r) ++ timL r 61 from by rw [timsL_succ, List.append_assoc])
              have hlq : (P2 ++ timsL r).length ≤ 300 := by rw [List.length_append, timsL_len]; omega
              generalize P2 ++ timsL r = Q at S1 HTS hlq
              go_wp2
              go_loopw [3, 7] (fun q i wr => ∃ (k : Nat) (F : List Nat), k ≤ 61 ∧ i = .int .i64 k ∧ Sn w wr [⟨rowR (Q ++ timL r k), q, F⟩, boxI w.heap.size 36 [.int .i64 p.dl, .slice A1 p.acts.length c1, .slice A2 p.lks.length c2, .slice A3 p.ress.length c3, .slice A4 p.stk.length c4]]) (fun _ i _ => 61 - (intOf i).toNat)
              case atStart => exact ⟨0, _, Nat.zero_le _, rfl, by simpa [timL] using S1.out⟩
              case round =>
                obtain ⟨k, F, hkl, rfl, hS⟩ := hrel
                have S2 := Lib.hid hS
                clear hS S1
                by_cases hlt : k < 61
                · have hlt' : (k : Int) ≤ 60 := by omega
                  have hlen : (Q ++ timL r k).length ≤ 1000 := by rw [List.length_append, timL_len]; omega
                  have HT := Lib.hid (show Q ++ timL r (k + 1) = (Q ++ timL r k) ++ [Cd.tim (r : Int) (k : Int)] from by rw [timL_succ, List.append_assoc])
                  generalize Q ++ timL r k = l at S2 hlen HT
                  have OW := Lib.hid S2.out.ownR
                  have hz := S2.out.1.size
                  go_wp2_with (first | (at_builtin; refine wpList_append_own_at _ rfl (.tmp 47) (.tmp 51) 50 rfl w.heap.size 38 i0 (.agg #[.int .i64 0, .int .i64 0, .int .i64 0, .int .i64 0]) 4 32 Tryz.underlying50 hi0 hz0 hz1 hz2 rfl (by decide) _ (l).length (cells4 ((l).map Cd.ru)) rfl (by exact OW.out.alloc _) ⟨wr.heap.size, 0, none⟩ 1 1 [.int .i64 3, .int .i64 (r : Int), .int .i64 (k : Int), .int .i64 0] rfl rfl ?c1 ?c2 ?c3 ?c4 ?c5 ?_) | fail)
                  try case c1 => exact four_cells _ _ _ _ _ _
                  case c2 => simp [Value.oneCell']
                  case c3 => unfold maxLen; omega
                  case c4 => omega
                  case c5 => first | omega | (simp; omega)
                  intro v' w8 hown8 hg8 _ hat8
                  obtain ⟨F9, h9⟩ := S2.out.appR (Cd.tim (r : Int) (k : Int)) ((Below.refl _ _).alloc (Nat.le_refl _) _) hown8 rfl hg8 (by simpa using hat8)
                  have S9 := Lib.hid h9
                  clear hown8 hg8 hat8 h9 OW S2
                  go_wp2
                  go_roundw
                  case rel => exact ⟨k + 1, F9, by omega, by go_num, by rw [HT.out]; exact S9.out⟩
                  case measure => simp [intOf]; omega
                · have hge : ¬ (k : Int) ≤ 60 := by omega
                  obtain rfl : k = 61 := by omega
                  rw [← HTS.out] at S2
                  go_wp2
                  go_roundw
                  case rel => exact ⟨r + 1, F, by omega, by go_num, S2.out⟩
                  case measure => simp [intOf]; omega
            · have hge : ¬ (r : Int) < (p.ress.length : Int) := by omega
              obtain rfl : r = p.ress.length := by omega
              obtain ⟨P3, hP3⟩ : ∃ l, l = P2 ++ timsL p.ress.length := ⟨_, rfl⟩
              have hlP3 : P3.length ≤ 201 := by rw [hP3]; rw [List.length_append, timsL_len]; omega
              rw [← hP3] at S1
              have HP3 := Lib.hid hP3
              clear hP3
              obtain ⟨e0, e1, e2, e3, e4, ef⟩ := (S1.out.bk 1 rfl).c5
              go_wp2
              clear e0 e1 e2 e3 e4 ef
              go_loopw [3, 57] (fun q i wr => ∃ (k : Nat) (F : List Nat), k ≤ p.ress.length ∧ i = .int .i64 k ∧ Sn w wr [⟨rowR (P3 ++ pairsL p k), q, F⟩, boxI w.heap.size 36 [.int .i64 p.dl, .slice A1 p.acts.length c1, .slice A2 p.lks.length c2, .slice A3 p.ress.length c3, .slice A4 p.stk.length c4]]) (fun _ i _ => p.ress.length - (intOf i).toNat)
              case atStart => exact ⟨0, _, Nat.zero_le _, rfl, by simpa [pairsL] using S1.out⟩
              case round =>
                obtain ⟨r, F, hrl, rfl, hS⟩ := hrel
                have S2 := Lib.hid hS
                clear hS S1
                by_cases hlr : r < p.ress.length
                · have hlr' : (r : Int) < (p.ress.length : Int) := by omega
                  have HT := Lib.hid (show P3 ++ pairsL p (r + 1) = (P3 ++ pairsL p r) ++ pairL p r from by rw [pairsL_succ, List.append_assoc])
                  have HPL := Lib.hid (show pairL p r = if machB p (r : Int) = true then parsL r p.acts.length p.acts.length else [] from rfl)
                  have hlq : (P3 ++ pairsL p r).length ≤ 400 := by
                    have h1 := pairsL_len p r
                    have h2 := sq_le n2 (k := r) (by omega)
                    rw [List.length_append]; omega
                  generalize P3 ++ pairsL p r = Q at S2 HT hlq
                  generalize pairL p r = m at HT HPL
                  obtain ⟨e0, e1, e2, e3, e4, ef⟩ := (S2.out.bk 1 rfl).c5
                  rcases hm : machB p (r : Int) with _ | _
                  · rw [hm] at HPL
                    have HPN := Lib.hid (show m = [] from HPL.out)
                    have HM := Lib.hid hm
                    clear HPL hm
                    go_wp2
                    clear e0 e1 e2 e3 e4 ef
                    go_loopw [3, 63] (fun q i wr => ∃ (k : Nat) (F : List Nat), k ≤ p.acts.length ∧ i = .int .i64 k ∧ Sn w wr [⟨rowR Q, q, F⟩, boxI w.heap.size 36 [.int .i64 p.dl, .slice A1 p.acts.length c1, .slice A2 p.lks.length c2, .slice A3 p.ress.length c3, .slice A4 p.stk.length c4]]) (fun _ i _ => p.acts.length - (intOf i).toNat)
                    case atStart => exact ⟨0, _, Nat.zero_le _, rfl, S2.out⟩
                    case round =>
                      obtain ⟨b, F, hbl, rfl, hS⟩ := hrel
                      have S3 := Lib.hid hS
                      clear hS S2
                      by_cases hlb : b < p.acts.length
                      · have hlb' : (b : Int) < (p.acts.length : Int) := by omega
                        go_wp2
                        go_loopw [3, 10] (fun q i wr => ∃ (F : List Nat), i = .int .i64 ((b + 1 : Nat) : Int) ∧ Sn w wr [⟨rowR Q, q, F⟩, boxI w.heap.size 36 [.int .i64 p.dl, .slice A1 p.acts.length c1, .slice A2 p.lks.length c2, .slice A3 p.ress.length c3, .slice A4 p.stk.length c4]]) (fun _ _ _ => 0)
                        case atStart => exact ⟨_, by go_num, S3.out⟩
                        case round =>
                          obtain ⟨F, rfl, hS⟩ := hrel
                          have S4 := Lib.hid hS
                          clear hS S3
                          obtain ⟨e0, e1, e2, e3, e4, ef⟩ := (S4.out.bk 1 rfl).c5
                          by_cases hlt : b + 1 < p.acts.length
                          · have hlt' : ((b + 1 : Nat) : Int) < (p.acts.length : Int) := by omega
                            go_wp2_with fail
                            clear e0 e1 e2 e3 e4 ef
                            refine (specIsMachine_any p (r : Int) _ _ (by exact S4.out.old HV.out)).mono ?_
                            rintro e w5 ⟨rfl, b⟩
                            have S5 := Lib.hid (S4.out.go b)
                            clear S4 b
                            rw [HM.out]
                            go_wp2
                            go_roundw
                            case rel => exact ⟨b + 1, F, by omega, by go_num, S5.out⟩
                            case measure => simp [intOf]; omega
                          · have hge : ¬ ((b + 1 : Nat) : Int) < (p.acts.length : Int) := by omega
                            go_wp2
                            go_roundw
                            case rel => exact ⟨b + 1, F, by omega, by go_num, S4.out⟩
                            case measure => simp [intOf]; omega
                      · have hge : ¬ (b : Int) < (p.acts.length : Int) := by omega
                        go_wp2
                        go_roundw
                        case rel => exact ⟨r + 1, F, by omega, by go_num, by rw [HT.out, HPN.out, List.append_nil]; exact S3.out⟩
                        case measure => simp [intOf]; omega
                  rw [hm] at HPL
                  have HPN := Lib.hid (show m = parsL r p.acts.length p.acts.length from HPL.out)
                  have HM := Lib.hid hm
                  clear HPL hm
                  go_wp2
                  clear e0 e1 e2 e3 e4 ef
                  go_loopw [3, 63] (fun q i wr => ∃ (k : Nat) (F : List Nat), k ≤ p.acts.length ∧ i = .int .i64 k ∧ Sn w wr [⟨rowR (Q ++ parsL r p.acts.length k), q, F⟩, boxI w.heap.size 36 [.int .i64 p.dl, .slice A1 p.acts.length c1, .slice A2 p.lks.length c2, .slice A3 p.ress.length c3, .slice A4 p.stk.length c4]]) (fun _ i _ => p.acts.length - (intOf i).toNat)
                  case atStart => exact ⟨0, _, Nat.zero_le _, rfl, by simpa [parsL] using S2.out⟩
                  case round =>
                    obtain ⟨b, F, hbl, rfl, hS⟩ := hrel
                    have S3 := Lib.hid hS
                    clear hS S2
                    by_cases hlb : b < p.acts.length
                    · have hlb' : (b : Int) < (p.acts.length : Int) := by omega
                      have HTS := Lib.hid (show Q ++ parsL r p.acts.length (b + 1) = (Q ++ parsL r p.acts.length b) ++ parL r b (p.acts.length - (b + 1)) from by rw [parsL_succ, List.append_assoc])
                      have hlz : (Q ++ parsL r p.acts.length b).length ≤ 436 := by
                        have h1 := parsL_len r p.acts.length b
                        have h2 : p.acts.length * b ≤ 6 * 6 := Nat.mul_le_mul n2 (by omega)
                        rw [List.length_append]; omega
                      generalize Q ++ parsL r p.acts.length b = Z at S3 HTS hlz
                      go_wp2
                      go_loopw [3, 10] (fun q i wr => ∃ (k : Nat) (F : List Nat), b + 1 + k ≤ p.acts.length ∧ i = .int .i64 ((b + 1 + k : Nat) : Int) ∧ Sn w wr [⟨rowR (Z ++ parL r b k), q, F⟩, boxI w.heap.size 36 [.int .i64 p.dl, .slice A1 p.acts.length c1, .slice A2 p.lks.length c2, .slice A3 p.ress.length c3, .slice A4 p.stk.length c4]]) (fun _ i _ => p.acts.length - (intOf i).toNat)
                      case atStart => exact ⟨0, _, by omega, by go_num, by simpa [parL] using S3.out⟩
                      case round =>
                        obtain ⟨k, F, hkl, rfl, hS⟩ := hrel
                        have S4 := Lib.hid hS
                        clear hS S3
                        obtain ⟨e0, e1, e2, e3, e4, ef⟩ := (S4.out.bk 1 rfl).c5
                        by_cases hlt : b + 1 + k < p.acts.length
                        · have hlt' : ((b + 1 + k : Nat) : Int) < (p.acts.length : Int) := by omega
                          have hlen : (Z ++ parL r b k).length ≤ 1000 := by rw [List.length_append, parL_len]; omega
                          have HT2 := Lib.hid (show Z ++ parL r b (k + 1) = (Z ++ parL r b k) ++ [Cd.par (r : Int) (b : Int) ((b + 1 + k : Nat) : Int)] from by rw [parL_succ, List.append_assoc])
                          generalize Z ++ parL r b k = l at S4 hlen HT2
                          go_wp2_with fail
                          clear e0 e1 e2 e3 e4 ef
                          refine (specIsMachine_any p (r : Int) _ _ (by exact S4.out.old HV.out)).mono ?_
                          rintro e w5 ⟨rfl, b⟩
                          have S5 := Lib.hid (S4.out.go b)
                          clear S4 b
                          rw [HM.out]
                          have OW := Lib.hid S5.out.ownR
                          have hz := S5.out.1.size
                          go_wp2_with (first | (at_builtin; refine wpList_append_own_at _ rfl (.tmp 80) (.tmp 85) 50 rfl w.heap.size 38 i0 (.agg #[.int .i64 0, .int .i64 0, .int .i64 0, .int .i64 0]) 4 32 Tryz.underlying50 hi0 hz0 hz1 hz2 rfl (by decide) _ (l).length (cells4 ((l).map Cd.ru)) rfl (by exact OW.out.alloc _) ⟨w5.heap.size, 0, none⟩ 1 1 [.int .i64 5, .int .i64 (r : Int), .int .i64 (b : Int), .int .i64 ((b + 1 + k : Nat) : Int)] rfl rfl ?c1 ?c2 ?c3 ?c4 ?c5 ?_) | fail)
                          try case c1 => exact four_cells _ _ _ _ _ _
                          case c2 => simp [Value.oneCell']
                          case c3 => unfold maxLen; omega
                          case c4 => omega
                          case c5 => first | omega | (simp; omega)
                          intro v' w8 hown8 hg8 _ hat8
                          obtain ⟨F9, h9⟩ := S5.out.appR (Cd.par (r : Int) (b : Int) ((b + 1 + k : Nat) : Int)) ((Below.refl _ _).alloc (Nat.le_refl _) _) hown8 rfl hg8 (by simpa using hat8)
                          have S9 := Lib.hid h9
                          clear hown8 hg8 hat8 h9 OW S5
                          go_wp2
                          go_roundw
                          case rel => exact ⟨k + 1, F9, by omega, by go_num, by rw [HT2.out]; exact S9.out⟩
                          case measure => simp [intOf]; omega
                        · have hge : ¬ ((b + 1 + k : Nat) : Int) < (p.acts.length : Int) := by omega
                          obtain rfl : k = p.acts.length - (b + 1) := by omega
                          rw [← HTS.out] at S4
                          go_wp2
                          go_roundw
                          case rel => exact ⟨b + 1, F, by omega, by go_num, S4.out⟩
                          case measure => simp [intOf]; omega
                    · have hge : ¬ (b : Int) < (p.acts.length : Int) := by omega
                      obtain rfl : b = p.acts.length := by omega
                      go_wp2
                      go_roundw
                      case rel => exact ⟨r + 1, F, by omega, by go_num, by rw [HT.out, HPN.out]; exact S3.out⟩
                      case measure => simp [intOf]; omega
                · have hge : ¬ (r : Int) < (p.ress.length : Int) := by omega
                  obtain rfl : r = p.ress.length := by omega
                  obtain ⟨P4, hP4⟩ : ∃ l, l = P3 ++ pairsL p p.ress.length := ⟨_, rfl⟩
                  have hlP4 : P4.length ≤ 309 := by rw [hP4]; have h1 := pairsL_len p p.ress.length; have h2 := sq_le n2 n3; rw [List.length_append]; omega
                  rw [← hP4] at S2
                  have HP4 := Lib.hid hP4
                  clear hP4
                  obtain ⟨e0, e1, e2, e3, e4, ef⟩ := (S2.out.bk 1 rfl).c5
                  go_wp2
                  clear e0 e1 e2 e3 e4 ef
                  go_loopw [3, 92] (fun q i wr => ∃ (k : Nat) (F : List Nat), k ≤ p.stk.length ∧ i = .int .i64 k ∧ Sn w wr [⟨rowR (P4 ++ stkL k), q, F⟩, boxI w.heap.size 36 [.int .i64 p.dl, .slice A1 p.acts.length c1, .slice A2 p.lks.length c2, .slice A3 p.ress.length c3, .slice A4 p.stk.length c4]]) (fun _ i _ => p.stk.length - (intOf i).toNat)
                  case atStart => exact ⟨0, _, Nat.zero_le _, rfl, by simpa [stkL] using S2.out⟩
                  case round =>
                    obtain ⟨k, F, hkl, rfl, hS⟩ := hrel
                    clear S2
                    have S1 := Lib.hid hS
                    clear hS
                    by_cases hlt : k < p.stk.length
                    · have hlt' : (k : Int) < (p.stk.length : Int) := by omega
                      have hlen : (P4 ++ stkL k).length ≤ 1000 := by rw [List.length_append, stkL_len]; omega
                      have HT := Lib.hid (show P4 ++ stkL (k + 1) = (P4 ++ stkL k) ++ [Cd.stk (k : Int)] from by rw [stkL_succ, List.append_assoc])
                      generalize P4 ++ stkL k = l at S1 hlen HT
                      have OW := Lib.hid S1.out.ownR
                      have hz := S1.out.1.size
                      go_wp2_with (first | (at_builtin; refine wpList_append_own_at _ rfl (.tmp 95) (.tmp 98) 50 rfl w.heap.size 38 i0 (.agg #[.int .i64 0, .int .i64 0, .int .i64 0, .int .i64 0]) 4 32 Tryz.underlying50 hi0 hz0 hz1 hz2 rfl (by decide) _ (l).length (cells4 ((l).map Cd.ru)) rfl (by exact OW.out.alloc _) ⟨wr.heap.size, 0, none⟩ 1 1 [.int .i64 6, .int .i64 (k : Int), .int .i64 0, .int .i64 0] rfl rfl ?c1 ?c2 ?c3 ?c4 ?c5 ?_) | fail)
                      try case c1 => exact four_cells _ _ _ _ _ _
                      case c2 => simp [Value.oneCell']
                      case c3 => unfold maxLen; omega
                      case c4 => omega
                      case c5 => first | omega | (simp; omega)
                      intro v' w8 hown8 hg8 _ hat8
                      obtain ⟨F9, h9⟩ := S1.out.appR (Cd.stk (k : Int)) ((Below.refl _ _).alloc (Nat.le_refl _) _) hown8 rfl hg8 (by simpa using hat8)
                      have S9 := Lib.hid h9
                      clear hown8 hg8 hat8 h9 OW S1
                      go_wp2
                      go_roundw
                      case rel => exact ⟨k + 1, F9, by omega, by go_num, by rw [HT.out]; exact S9.out⟩
                      case measure => simp [intOf]; omega
                    · have hge : ¬ (k : Int) < (p.stk.length : Int) := by omega
                      obtain rfl : k = p.stk.length := by omega
                      have HR2 := Lib.hid (show res = P4 ++ stkL p.stk.length from by rw [HR.out, HP4.out, HP3.out, HP2.out, HP1.out, HP0.out]; simp)
                      go_wp2
                      go_ret
                      first
                        | exact ⟨_, rfl, _, by rw [HR2.out]; exact (S1.out.own 0 rfl).1, (S1.out.own 0 rfl).2, S1.out.1⟩
                        | exact ⟨_, by rw [HR2.out]; exact (S1.out.own 0 rfl).1, (S1.out.own 0 rfl).2, S1.out.1⟩
                        | exact ⟨_, _, rfl, by rw [HR2.out]; exact (S1.out.own 0 rfl).1, (S1.out.own 0 rfl).2, S1.out.1⟩
end Go.Proofs.YtaglfdkeomjpdaaGreat
