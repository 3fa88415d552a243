/- DERIVED. CONTRACTS of chapter 11: ViolatedRules and ScheduleOk of the program. -/
import Derived.Test.YtaglfdkeomjpdabRuC
import Derived.Test.YtaglfdkeomjpdabRuA

section
namespace Go.Proofs.Ytaglfdkeomjpdab
open Go.RowKit Go.Shelf
set_option linter.unusedVariables false

theorem infoCond : (Try.prog.info? 89).map (fun i => (i.zero, i.size, i.bytes)) = some (some .nilIface, 1, 16) := by kernel_rfl
/-- A slice of conditions. -/
def rowC (l : List Cd) : Tr := flat 89 (l.map Cd.val)
section
variable {w0 W W1 w6 : World} {L : List Item} {l : List Cd} {v v' : Value} {F : List Nat}
theorem Sn.ownC (h : Sn w0 W (⟨rowC l, v, F⟩ :: L)) : W.ownsRow w0.heap.size 89 1 v l.length (l.map Cd.val) := by
  have := (own_flat h.2.1).1
  simpa using this
theorem Sn.appCs {m : List Cd} {n : Nat} (h : Sn w0 W (⟨rowC l, v, F⟩ :: L)) (hW : Below W.heap.size W W1) (hown : w6.ownsRow w0.heap.size 89 1 v' n (l.map Cd.val ++ m.map Cd.val))
    (hg : W1.grownBy w6 v.ownBlock) (hat : v'.ownBlock = v.ownBlock ∨ v'.ownBlock = some W1.heap.size) : ∃ F', Sn w0 w6 (⟨rowC (l ++ m), v', F'⟩ :: L) := by
  have hn := own_len hown
  rw [← List.map_append] at hown
  have hn' : n = ((l ++ m).map Cd.val).length := by rw [← hn, List.map_append]
  subst hn'
  obtain ⟨F', h'⟩ := Sn.appN (e := 89) (s := 1) (n := (l.map Cd.val).length) (n' := ((l ++ m).map Cd.val).length) (xs := l.map Cd.val) (rs := m.map Cd.val) h hW (by rw [← List.map_append]; exact hown) hg hat
  rw [← List.map_append] at h'
  exact ⟨F', h'⟩
theorem Sn.appC {n : Nat} (c : Cd) (h : Sn w0 W (⟨rowC l, v, F⟩ :: L)) (hW : Below W.heap.size W W1) (hown : w6.ownsRow w0.heap.size 89 1 v' n (l.map Cd.val ++ [c.val]))
    (hg : W1.grownBy w6 v.ownBlock) (hat : v'.ownBlock = v.ownBlock ∨ v'.ownBlock = some W1.heap.size) : ∃ F', Sn w0 w6 (⟨rowC (l ++ [c]), v', F'⟩ :: L) := Sn.appCs (m := [c]) h hW hown hg hat
theorem Sn.nilC (h : Sn w0 W L) : Sn w0 W (⟨rowC [], .slice none 0 0, []⟩ :: L) := h.nilR (α := Nat) 89 1 (fun _ => [])
end
theorem val_one (l : List Cd) : ∀ u ∈ l.map Cd.val, u.oneCell' = true := fun u hu => by
  obtain ⟨c, _, rfl⟩ := List.mem_map.1 hu
  rfl
set_option maxRecDepth 100000 in
set_option maxHeartbeats 8000000 in
theorem pairCond_any (p : Pj) (r : Nat) (v : Value) (w : World) (hv : (trPj p).rd w v) (h6 : p.acts.length ≤ 6) :
    Calls Try.prog 85 #[v, .int .i64 (r : Int)] w fun e w' => ∃ u F, e = .returned u ∧ (rowC (pairL p r)).own w' w.heap.size u F ∧ F.Nodup ∧ Below w.heap.size w w' := by
  have HV := Lib.hid hv
  obtain ⟨A1, c1, A2, c2, A3, c3, A4, c4, rfl, _⟩ := rdProject_t hv
  have S0 := Lib.hid ((Sn.start w).box 34 [.int .i64 p.dl, .slice A1 p.acts.length c1, .slice A2 p.lks.length c2, .slice A3 p.ress.length c3, .slice A4 p.stk.length c4])
  have HR := Lib.hid (show pairL p r = if machB p (r : Int) = true then parsL r p.acts.length p.acts.length else [] from rfl)
  generalize pairL p r = res at HR ⊢
  obtain ⟨i0, hi0, hz0, hz1, hz2⟩ := info_parts infoCond
  clear hv
  go_enter Try.func85, Try.ntmps85
  go_wp2_with fail
  refine (implIsMachine_any p (r : Int) _ _ (by exact S0.out.old HV.out)).mono ?_
  rintro e w1 ⟨rfl, b⟩
  have S1 := Lib.hid (S0.out.go b)
  clear S0 b
  have S2 := Lib.hid S1.out.nilC
  clear S1
  generalize machB p (r : Int) = x at HR ⊢
  rcases x with _ | _
  · have HR2 := Lib.hid (show res = [] from HR.out)
    clear HR
    go_wp2
    go_ret
    first
      | exact ⟨_, rfl, _, by rw [HR2.out]; exact (S2.out.own 0 rfl).1, (S2.out.own 0 rfl).2, S2.out.1⟩
      | exact ⟨_, by rw [HR2.out]; exact (S2.out.own 0 rfl).1, (S2.out.own 0 rfl).2, S2.out.1⟩
      | exact ⟨_, _, rfl, by rw [HR2.out]; exact (S2.out.own 0 rfl).1, (S2.out.own 0 rfl).2, S2.out.1⟩
  have HR2 := Lib.hid (show res = parsL r p.acts.length p.acts.length from HR.out)
  clear HR
  obtain ⟨e0, e1, e2, e3, e4, ef⟩ := (S2.out.bk 1 rfl).c5
  go_wp2
  clear e0 e1 e2 e3 e4 ef
  go_loopw [5, 15] (fun q i wr => ∃ (k : Nat) (F : List Nat), k ≤ p.acts.length ∧ i = .int .i64 k ∧ Sn w wr [⟨rowC (parsL r p.acts.length k), q, F⟩, boxI w.heap.size 34 [.int .i64 p.dl, .slice A1 p.acts.length c1, .slice A2 p.lks.length c2, .slice A3 p.ress.length c3, .slice A4 p.stk.length c4]]) (fun _ i _ => p.acts.length - (intOf i).toNat)
  case atStart => exact ⟨0, _, Nat.zero_le _, rfl, by simpa [parsL] using S2.out⟩
  case round =>
    obtain ⟨b, F, hbl, rfl, hS⟩ := hrel
    have S3 := Lib.hid hS
    clear hS S2
    by_cases hlb : b < p.acts.length
    · have hlb' : (b : Int) < (p.acts.length : Int) := by omega
      have HTS := Lib.hid (parsL_succ r p.acts.length b)
      have hlq : (parsL r p.acts.length b).length ≤ 36 := Nat.le_trans (parsL_len _ _ _) (Nat.mul_le_mul h6 (by omega : b ≤ 6))
      generalize parsL r p.acts.length b = Q at S3 HTS hlq
      go_wp2
      go_loopw [5, 7] (fun q i wr => ∃ (k : Nat) (F : List Nat), b + 1 + k ≤ p.acts.length ∧ i = .int .i64 ((b + 1 + k : Nat) : Int) ∧ Sn w wr [⟨rowC (Q ++ parL r b k), q, F⟩, boxI w.heap.size 34 [.int .i64 p.dl, .slice A1 p.acts.length c1, .slice A2 p.lks.length c2, .slice A3 p.ress.length c3, .slice A4 p.stk.length c4]]) (fun _ i _ => p.acts.length - (intOf i).toNat)
      case atStart => exact ⟨0, _, by omega, by go_num, by simpa [parL] using S3.out⟩
      case round =>
        obtain ⟨k, F, hkl, rfl, hS⟩ := hrel
        have S4 := Lib.hid hS
        clear hS S3
        obtain ⟨e0, e1, e2, e3, e4, ef⟩ := (S4.out.bk 1 rfl).c5
        by_cases hlt : b + 1 + k < p.acts.length
        · have hlt' : ((b + 1 + k : Nat) : Int) < (p.acts.length : Int) := by omega
          have hlen : (Q ++ parL r b k).length ≤ 1000 := by rw [List.length_append, parL_len]; omega
          have HT := Lib.hid (show Q ++ parL r b (k + 1) = (Q ++ parL r b k) ++ [Cd.par (r : Int) (b : Int) ((b + 1 + k : Nat) : Int)] from by rw [parL_succ, List.append_assoc])
          generalize Q ++ parL r b k = l at S4 hlen HT
          have OW := Lib.hid S4.out.ownC
          have hz := S4.out.1.size
          go_wp2_with (first | (at_builtin; refine wpList_append_own_at _ rfl (.tmp 27) (.tmp 33) 86 rfl w.heap.size 89 i0 (.nilIface) 1 16 Try.underlying86 hi0 hz0 hz1 hz2 rfl (by decide) _ (l).length ((l).map Cd.val) rfl (by exact OW.out.alloc _) ⟨wr.heap.size, 0, none⟩ 1 1 [.iface 157 (.agg #[.int .i64 (r : Int), .int .i64 (b : Int), .int .i64 ((b + 1 + k : Nat) : Int)])] rfl rfl ?c1 ?c2 ?c3 ?c4 ?c5 ?_) | fail)
          try case c1 => exact one_cell _ _ _
          case c2 => simp [Value.oneCell']
          case c3 => unfold maxLen; omega
          case c4 => omega
          case c5 => first | omega | (simp; omega)
          intro v' w8 hown8 hg8 _ hat8
          obtain ⟨F9, h9⟩ := S4.out.appC (Cd.par (r : Int) (b : Int) ((b + 1 + k : Nat) : Int)) ((Below.refl _ _).alloc (Nat.le_refl _) _) hown8 hg8 (by simpa using hat8)
          have S9 := Lib.hid h9
          clear hown8 hg8 hat8 h9 OW S4
          go_wp2
          go_roundw
          case rel => exact ⟨k + 1, F9, by omega, by go_num, by rw [HT.out]; exact S9.out⟩
          case measure => simp [intOf]; omega
        · have hge : ¬ ((b + 1 + k : Nat) : Int) < (p.acts.length : Int) := by omega
          obtain rfl : k = p.acts.length - (b + 1) := by omega
          rw [← HTS.out] at S4
          go_wp2
          go_roundw
          case rel => exact ⟨b + 1, F, by omega, by go_num, S4.out⟩
          case measure => simp [intOf]; omega
    · have hge : ¬ (b : Int) < (p.acts.length : Int) := by omega
      obtain rfl : b = p.acts.length := by omega
      go_wp2
      go_ret
      first
        | exact ⟨_, rfl, _, by rw [HR2.out]; exact (S3.out.own 0 rfl).1, (S3.out.own 0 rfl).2, S3.out.1⟩
        | exact ⟨_, by rw [HR2.out]; exact (S3.out.own 0 rfl).1, (S3.out.own 0 rfl).2, S3.out.1⟩
        | exact ⟨_, _, rfl, by rw [HR2.out]; exact (S3.out.own 0 rfl).1, (S3.out.own 0 rfl).2, S3.out.1⟩

set_option maxRecDepth 100000 in
set_option maxHeartbeats 8000000 in
theorem listed_any (p : Pj) (v : Value) (w : World) (hv : (trPj p).rd w v) (hp : pokB p = true) :
    Calls Try.prog 43 #[v] w fun e w' => ∃ u F, e = .returned u ∧ (rowC (listC p)).own w' w.heap.size u F ∧ F.Nodup ∧ Below w.heap.size w w' := by
  have HV := Lib.hid hv
  obtain ⟨n1, n2, n3, n4⟩ := pok_lens hp
  obtain ⟨A1, c1, A2, c2, A3, c3, A4, c4, rfl, _⟩ := rdProject_t hv
  have S0 := Lib.hid ((Sn.start w).box 34 [.int .i64 p.dl, .slice A1 p.acts.length c1, .slice A2 p.lks.length c2, .slice A3 p.ress.length c3, .slice A4 p.stk.length c4]).nilC
  have HR := Lib.hid (show listC p = lnkL p.lks.length ++ finL p.acts.length ++ timsL p.ress.length ++ pairsL p p.ress.length ++ stkL p.stk.length from rfl)
  generalize listC p = res at HR ⊢
  obtain ⟨i0, hi0, hz0, hz1, hz2⟩ := info_parts infoCond
  clear hv hp
  go_enter Try.func43, Try.ntmps43
  go_wp2
  obtain ⟨P0, hP0⟩ : ∃ l, l = ([] : List Cd) := ⟨_, rfl⟩
  have hlP0 : P0.length ≤ 0 := by rw [hP0]; simp
  rw [← hP0] at S0
  have HP0 := Lib.hid hP0
  clear hP0
  go_loopw [3, 13] (fun q i wr => ∃ (k : Nat) (F : List Nat), k ≤ p.lks.length ∧ i = .int .i64 k ∧ Sn w wr [⟨rowC (P0 ++ lnkL k), q, F⟩, boxI w.heap.size 34 [.int .i64 p.dl, .slice A1 p.acts.length c1, .slice A2 p.lks.length c2, .slice A3 p.ress.length c3, .slice A4 p.stk.length c4]]) (fun _ i _ => p.lks.length - (intOf i).toNat)
  case atStart => exact ⟨0, _, Nat.zero_le _, rfl, by simpa [lnkL] using S0.out⟩
  case round =>
    obtain ⟨k, F, hkl, rfl, hS⟩ := hrel
    clear S0
    have S1 := Lib.hid hS
    clear hS
    by_cases hlt : k < p.lks.length
    · have hlt' : (k : Int) < (p.lks.length : Int) := by omega
      have hlen : (P0 ++ lnkL k).length ≤ 1000 := by rw [List.length_append, lnkL_len]; omega
      have HT := Lib.hid (show P0 ++ lnkL (k + 1) = (P0 ++ lnkL k) ++ [Cd.lnk (k : Int)] from by rw [lnkL_succ, List.append_assoc])
      generalize P0 ++ lnkL k = l at S1 hlen HT
      have OW := Lib.hid S1.out.ownC
      have hz := S1.out.1.size
      go_wp2_with (first | (at_builtin; refine wpList_append_own_at _ rfl (.tmp 16) (.tmp 20) 86 rfl w.heap.size 89 i0 (.nilIface) 1 16 Try.underlying86 hi0 hz0 hz1 hz2 rfl (by decide) _ (l).length ((l).map Cd.val) rfl (by exact OW.out.alloc _) ⟨wr.heap.size, 0, none⟩ 1 1 [.iface 146 (.agg #[.int .i64 (k : Int)])] rfl rfl ?c1 ?c2 ?c3 ?c4 ?c5 ?_) | fail)
      try case c1 => exact one_cell _ _ _
      case c2 => simp [Value.oneCell']
      case c3 => unfold maxLen; omega
      case c4 => omega
      case c5 => first | omega | (simp; omega)
      intro v' w8 hown8 hg8 _ hat8
      obtain ⟨F9, h9⟩ := S1.out.appC (Cd.lnk (k : Int)) ((Below.refl _ _).alloc (Nat.le_refl _) _) hown8 hg8 (by simpa using hat8)
      have S9 := Lib.hid h9
      clear hown8 hg8 hat8 h9 OW S1
      go_wp2
      go_roundw
      case rel => exact ⟨k + 1, F9, by omega, by go_num, by rw [HT.out]; exact S9.out⟩
      case measure => simp [intOf]; omega
    · have hge : ¬ (k : Int) < (p.lks.length : Int) := by omega
      obtain rfl : k = p.lks.length := by omega
      obtain ⟨P1, hP1⟩ : ∃ l, l = P0 ++ lnkL p.lks.length := ⟨_, rfl⟩
      have hlP1 : P1.length ≤ 12 := by rw [hP1]; rw [List.length_append, lnkL_len]; omega
      rw [← hP1] at S1
      have HP1 := Lib.hid hP1
      clear hP1
      obtain ⟨e0, e1, e2, e3, e4, ef⟩ := (S1.out.bk 1 rfl).c5
      go_wp2
      clear e0 e1 e2 e3 e4 ef
      go_loopw [3, 26] (fun q i wr => ∃ (k : Nat) (F : List Nat), k ≤ p.acts.length ∧ i = .int .i64 k ∧ Sn w wr [⟨rowC (P1 ++ finL k), q, F⟩, boxI w.heap.size 34 [.int .i64 p.dl, .slice A1 p.acts.length c1, .slice A2 p.lks.length c2, .slice A3 p.ress.length c3, .slice A4 p.stk.length c4]]) (fun _ i _ => p.acts.length - (intOf i).toNat)
      case atStart => exact ⟨0, _, Nat.zero_le _, rfl, by simpa [finL] using S1.out⟩
      case round =>
        obtain ⟨k, F, hkl, rfl, hS⟩ := hrel
        clear S1
        have S1 := Lib.hid hS
        clear hS
        by_cases hlt : k < p.acts.length
        · have hlt' : (k : Int) < (p.acts.length : Int) := by omega
          have hlen : (P1 ++ finL k).length ≤ 1000 := by rw [List.length_append, finL_len]; omega
          have HT := Lib.hid (show P1 ++ finL (k + 1) = (P1 ++ finL k) ++ [Cd.fin (k : Int)] from by rw [finL_succ, List.append_assoc])
          generalize P1 ++ finL k = l at S1 hlen HT
          have OW := Lib.hid S1.out.ownC
          have hz := S1.out.1.size
          go_wp2_with (first | (at_builtin; refine wpList_append_own_at _ rfl (.tmp 29) (.tmp 33) 86 rfl w.heap.size 89 i0 (.nilIface) 1 16 Try.underlying86 hi0 hz0 hz1 hz2 rfl (by decide) _ (l).length ((l).map Cd.val) rfl (by exact OW.out.alloc _) ⟨wr.heap.size, 0, none⟩ 1 1 [.iface 148 (.agg #[.int .i64 (k : Int)])] rfl rfl ?c1 ?c2 ?c3 ?c4 ?c5 ?_) | fail)
          try case c1 => exact one_cell _ _ _
          case c2 => simp [Value.oneCell']
          case c3 => unfold maxLen; omega
          case c4 => omega
          case c5 => first | omega | (simp; omega)
          intro v' w8 hown8 hg8 _ hat8
          obtain ⟨F9, h9⟩ := S1.out.appC (Cd.fin (k : Int)) ((Below.refl _ _).alloc (Nat.le_refl _) _) hown8 hg8 (by simpa using hat8)
          have S9 := Lib.hid h9
          clear hown8 hg8 hat8 h9 OW S1
          go_wp2
          go_roundw
          case rel => exact ⟨k + 1, F9, by omega, by go_num, by rw [HT.out]; exact S9.out⟩
          case measure => simp [intOf]; omega
        · have hge : ¬ (k : Int) < (p.acts.length : Int) := by omega
          obtain rfl : k = p.acts.length := by omega
          obtain ⟨P2, hP2⟩ : ∃ l, l = P1 ++ finL p.acts.length := ⟨_, rfl⟩
          have hlP2 : P2.length ≤ 18 := by rw [hP2]; rw [List.length_append, finL_len]; omega
          rw [← hP2] at S1
          have HP2 := Lib.hid hP2
          clear hP2
          obtain ⟨e0, e1, e2, e3, e4, ef⟩ := (S1.out.bk 1 rfl).c5
          go_wp2
          clear e0 e1 e2 e3 e4 ef
          go_loopw [3, 39] (fun q i wr => ∃ (k : Nat) (F : List Nat), k ≤ p.ress.length ∧ i = .int .i64 k ∧ Sn w wr [⟨rowC (P2 ++ timsL k), q, F⟩, boxI w.heap.size 34 [.int .i64 p.dl, .slice A1 p.acts.length c1, .slice A2 p.lks.length c2, .slice A3 p.ress.length c3, .slice A4 p.stk.length c4]]) (fun _ i _ => p.ress.length - (intOf i).toNat)
          case atStart => exact ⟨0, _, Nat.zero_le _, rfl, by simpa [timsL] using S1.out⟩
          case round =>
            obtain ⟨r, F, hrl, rfl, hS⟩ := hrel
            clear S1
            have S1 := Lib.hid hS
            clear hS
            by_cases hlr : r < p.ress.length
            · have hlr' : (r : Int) < (p.ress.length : Int) := by omega
              have HTS := Lib.hid (show P2 ++ timsL (r + 1) = (P2 ++ timsL r) ++ timL r 61 from by rw [timsL_succ, List.append_assoc])
              have hlq : (P2 ++ timsL r).length ≤ 300 := by rw [List.length_append, timsL_len]; omega
              generalize P2 ++ timsL r = Q at S1 HTS hlq
              go_wp2
              go_loopw [3, 42] (fun q i wr => ∃ (k : Nat) (F : List Nat), k ≤ 61 ∧ i = .int .i64 k ∧ Sn w wr [⟨rowC (Q ++ timL r k), q, F⟩, boxI w.heap.size 34 [.int .i64 p.dl, .slice A1 p.acts.length c1, .slice A2 p.lks.length c2, .slice A3 p.ress.length c3, .slice A4 p.stk.length c4]]) (fun _ i _ => 61 - (intOf i).toNat)
              case atStart => exact ⟨0, _, Nat.zero_le _, rfl, by simpa [timL] using S1.out⟩
              case round =>
                obtain ⟨k, F, hkl, rfl, hS⟩ := hrel
                have S2 := Lib.hid hS
                clear hS S1
                by_cases hlt : k < 61
                · have hlt' : (k : Int) < 61 := by omega
                  have hlen : (Q ++ timL r k).length ≤ 1000 := by rw [List.length_append, timL_len]; omega
                  have HT := Lib.hid (show Q ++ timL r (k + 1) = (Q ++ timL r k) ++ [Cd.tim (r : Int) (k : Int)] from by rw [timL_succ, List.append_assoc])
                  generalize Q ++ timL r k = l at S2 hlen HT
                  have OW := Lib.hid S2.out.ownC
                  have hz := S2.out.1.size
                  go_wp2_with (first | (at_builtin; refine wpList_append_own_at _ rfl (.tmp 45) (.tmp 50) 86 rfl w.heap.size 89 i0 (.nilIface) 1 16 Try.underlying86 hi0 hz0 hz1 hz2 rfl (by decide) _ (l).length ((l).map Cd.val) rfl (by exact OW.out.alloc _) ⟨wr.heap.size, 0, none⟩ 1 1 [.iface 150 (.agg #[.int .i64 (r : Int), .int .i64 (k : Int)])] rfl rfl ?c1 ?c2 ?c3 ?c4 ?c5 ?_) | fail)
                  try case c1 => exact one_cell _ _ _
                  case c2 => simp [Value.oneCell']
                  case c3 => unfold maxLen; omega
                  case c4 => omega
                  case c5 => first | omega | (simp; omega)
                  intro v' w8 hown8 hg8 _ hat8
                  obtain ⟨F9, h9⟩ := S2.out.appC (Cd.tim (r : Int) (k : Int)) ((Below.refl _ _).alloc (Nat.le_refl _) _) hown8 hg8 (by simpa using hat8)
                  have S9 := Lib.hid h9
                  clear hown8 hg8 hat8 h9 OW S2
                  go_wp2
                  go_roundw
                  case rel => exact ⟨k + 1, F9, by omega, by go_num, by rw [HT.out]; exact S9.out⟩
                  case measure => simp [intOf]; omega
                · have hge : ¬ (k : Int) < 61 := by omega
                  obtain rfl : k = 61 := by omega
                  rw [← HTS.out] at S2
                  go_wp2
                  go_roundw
                  case rel => exact ⟨r + 1, F, by omega, by go_num, S2.out⟩
                  case measure => simp [intOf]; omega
            · have hge : ¬ (r : Int) < (p.ress.length : Int) := by omega
              obtain rfl : r = p.ress.length := by omega
              obtain ⟨P3, hP3⟩ : ∃ l, l = P2 ++ timsL p.ress.length := ⟨_, rfl⟩
              have hlP3 : P3.length ≤ 201 := by rw [hP3]; rw [List.length_append, timsL_len]; omega
              rw [← hP3] at S1
              have HP3 := Lib.hid hP3
              clear hP3
              obtain ⟨e0, e1, e2, e3, e4, ef⟩ := (S1.out.bk 1 rfl).c5
              go_wp2
              clear e0 e1 e2 e3 e4 ef
              go_loopw [3, 57] (fun q i wr => ∃ (k : Nat) (F : List Nat), k ≤ p.ress.length ∧ i = .int .i64 k ∧ Sn w wr [⟨rowC (P3 ++ pairsL p k), q, F⟩, boxI w.heap.size 34 [.int .i64 p.dl, .slice A1 p.acts.length c1, .slice A2 p.lks.length c2, .slice A3 p.ress.length c3, .slice A4 p.stk.length c4]]) (fun _ i _ => p.ress.length - (intOf i).toNat)
              case atStart => exact ⟨0, _, Nat.zero_le _, rfl, by simpa [pairsL] using S1.out⟩
              case round =>
                obtain ⟨r, F, hrl, rfl, hS⟩ := hrel
                have S2 := Lib.hid hS
                clear hS S1
                by_cases hlr : r < p.ress.length
                · have hlr' : (r : Int) < (p.ress.length : Int) := by omega
                  have HT := Lib.hid (show P3 ++ pairsL p (r + 1) = (P3 ++ pairsL p r) ++ pairL p r from by rw [pairsL_succ, List.append_assoc])
                  have hlq : (P3 ++ pairsL p r).length ≤ 400 := by
                    have h1 := pairsL_len p r
                    have h2 := sq_le n2 (k := r) (by omega)
                    rw [List.length_append]; omega
                  have hlp : (pairL p r).length ≤ 36 := Nat.le_trans (pairL_len p r) (Nat.mul_le_mul n2 n2)
                  generalize P3 ++ pairsL p r = l at S2 HT hlq
                  obtain ⟨e0, e1, e2, e3, e4, ef⟩ := (S2.out.bk 1 rfl).c5
                  go_wp2_with fail
                  clear e0 e1 e2 e3 e4 ef
                  refine (pairCond_any p r _ _ (by exact S2.out.old HV.out) n2).mono ?_
                  rintro e w5 ⟨u, F2, rfl, o, h, bb⟩
                  have S3 := Lib.hid (S2.out.new o h bb)
                  clear o h bb S2
                  generalize pairL p r = m at S3 HT hlp
                  have RD := Lib.hid (rd_flat (S3.out.rd 0 rfl))
                  have NO := Lib.hid (nilOk_own S3.out.ownC)
                  have S4 := Lib.hid (S3.out.pick 1 rfl)
                  have OW := Lib.hid S4.out.ownC
                  have hz := S4.out.1.size
                  clear S3
                  go_wp2_with (first | (at_builtin; refine app_rdV rfl (.tmp 60) (.tmp 63) 86 89 i0 .nilIface 16 rfl Try.underlying86 hi0 hz0 hz1 hz2 rfl (by decide) w.heap.size _ _ (l.map Cd.val) (m.map Cd.val) rfl rfl (by rw [List.length_map]; exact OW.out) RD.out (val_one m) NO.out (by rw [List.length_map, List.length_map]; omega) hz ?_) | fail)
                  intro v' w8 hown8 hg8 hat8
                  obtain ⟨F9, h9⟩ := S4.out.appCs (Below.refl _ _) hown8 hg8 hat8
                  have S9 := Lib.hid (h9.drop 1)
                  clear hown8 hg8 hat8 h9 OW S4 RD NO
                  go_wp2
                  go_roundw
                  case rel => exact ⟨r + 1, F9, by omega, by go_num, by rw [HT.out]; exact S9.out⟩
                  case measure => simp [intOf]; omega
                · have hge : ¬ (r : Int) < (p.ress.length : Int) := by omega
                  obtain rfl : r = p.ress.length := by omega
                  obtain ⟨P4, hP4⟩ : ∃ l, l = P3 ++ pairsL p p.ress.length := ⟨_, rfl⟩
                  have hlP4 : P4.length ≤ 309 := by rw [hP4]; have h1 := pairsL_len p p.ress.length; have h2 := sq_le n2 n3; rw [List.length_append]; omega
                  rw [← hP4] at S2
                  have HP4 := Lib.hid hP4
                  clear hP4
                  obtain ⟨e0, e1, e2, e3, e4, ef⟩ := (S2.out.bk 1 rfl).c5
                  go_wp2
                  clear e0 e1 e2 e3 e4 ef
                  go_loopw [3, 69] (fun q i wr => ∃ (k : Nat) (F : List Nat), k ≤ p.stk.length ∧ i = .int .i64 k ∧ Sn w wr [⟨rowC (P4 ++ stkL k), q, F⟩, boxI w.heap.size 34 [.int .i64 p.dl, .slice A1 p.acts.length c1, .slice A2 p.lks.length c2, .slice A3 p.ress.length c3, .slice A4 p.stk.length c4]]) (fun _ i _ => p.stk.length - (intOf i).toNat)
                  case atStart => exact ⟨0, _, Nat.zero_le _, rfl, by simpa [stkL] using S2.out⟩
                  case round =>
                    obtain ⟨k, F, hkl, rfl, hS⟩ := hrel
                    clear S2
                    have S1 := Lib.hid hS
                    clear hS
                    by_cases hlt : k < p.stk.length
                    · have hlt' : (k : Int) < (p.stk.length : Int) := by omega
                      have hlen : (P4 ++ stkL k).length ≤ 1000 := by rw [List.length_append, stkL_len]; omega
                      have HT := Lib.hid (show P4 ++ stkL (k + 1) = (P4 ++ stkL k) ++ [Cd.stk (k : Int)] from by rw [stkL_succ, List.append_assoc])
                      generalize P4 ++ stkL k = l at S1 hlen HT
                      have OW := Lib.hid S1.out.ownC
                      have hz := S1.out.1.size
                      go_wp2_with (first | (at_builtin; refine wpList_append_own_at _ rfl (.tmp 72) (.tmp 76) 86 rfl w.heap.size 89 i0 (.nilIface) 1 16 Try.underlying86 hi0 hz0 hz1 hz2 rfl (by decide) _ (l).length ((l).map Cd.val) rfl (by exact OW.out.alloc _) ⟨wr.heap.size, 0, none⟩ 1 1 [.iface 153 (.agg #[.int .i64 (k : Int)])] rfl rfl ?c1 ?c2 ?c3 ?c4 ?c5 ?_) | fail)
                      try case c1 => exact one_cell _ _ _
                      case c2 => simp [Value.oneCell']
                      case c3 => unfold maxLen; omega
                      case c4 => omega
                      case c5 => first | omega | (simp; omega)
                      intro v' w8 hown8 hg8 _ hat8
                      obtain ⟨F9, h9⟩ := S1.out.appC (Cd.stk (k : Int)) ((Below.refl _ _).alloc (Nat.le_refl _) _) hown8 hg8 (by simpa using hat8)
                      have S9 := Lib.hid h9
                      clear hown8 hg8 hat8 h9 OW S1
                      go_wp2
                      go_roundw
                      case rel => exact ⟨k + 1, F9, by omega, by go_num, by rw [HT.out]; exact S9.out⟩
                      case measure => simp [intOf]; omega
                    · have hge : ¬ (k : Int) < (p.stk.length : Int) := by omega
                      obtain rfl : k = p.stk.length := by omega
                      have HR2 := Lib.hid (show res = P4 ++ stkL p.stk.length from by rw [HR.out, HP4.out, HP3.out, HP2.out, HP1.out, HP0.out]; simp)
                      go_wp2
                      go_ret
                      first
                        | exact ⟨_, rfl, _, by rw [HR2.out]; exact (S1.out.own 0 rfl).1, (S1.out.own 0 rfl).2, S1.out.1⟩
                        | exact ⟨_, by rw [HR2.out]; exact (S1.out.own 0 rfl).1, (S1.out.own 0 rfl).2, S1.out.1⟩
                        | exact ⟨_, _, rfl, by rw [HR2.out]; exact (S1.out.own 0 rfl).1, (S1.out.own 0 rfl).2, S1.out.1⟩
end Go.Proofs.Ytaglfdkeomjpdab
end

section
namespace Go.Proofs.Ytaglfdkeomjpdab
open Go.RowKit Go.Shelf
set_option linter.unusedVariables false

theorem metAll_no {p : Pj} {s : Sc} {l : List Cd} {k : Nat} (hk : k < l.length) (h : failC p s l[k] = true) : l.all (fun c => !failC p s c) = false := by
  rw [List.all_eq_false]
  exact ⟨l[k], List.getElem_mem hk, by simp [h]⟩
theorem metAll_yes {p : Pj} {s : Sc} {l : List Cd} (h : ∀ j, (hj : j < l.length) → failC p s l[j] = false) : l.all (fun c => !failC p s c) = true := by
  rw [List.all_eq_true]
  intro c hc
  obtain ⟨j, hj, rfl⟩ := List.getElem_of_mem hc
  simp [h j hj]
theorem sched_all {p : Pj} {s : Sc} (h : formB p s = true) : schedB p s = (listC p).all (fun c => !failC p s c) := by
  rcases ha : (listC p).all (fun c => !failC p s c) with _ | _
  · rw [List.all_eq_false] at ha
    obtain ⟨c, hc, hf⟩ := ha
    exact sched_no h hc (by simpa using hf)
  · rw [List.all_eq_true] at ha
    exact sched_yes h fun c hc => by simpa using ha c hc

set_option maxRecDepth 100000 in
set_option maxHeartbeats 8000000 in
theorem areMet_any (l : List Cd) (p : Pj) (s : Sc) (x v u : Value) (w : World) (hx : Rd w x (l.map Cd.val)) (hv : (trPj p).rd w v) (hk : (trPj p).ok) (hs : (trSc s).rd w u) (hf : formB p s = true) (ht : ∀ c ∈ l, thereC p c = true) :
    Calls Try.prog 46 #[x, v, u] w fun e w' => e = .returned (.bool (l.all (fun c => !failC p s c))) ∧ Below w.heap.size w w' := by
  have HK := Lib.hid hk
  clear hk
  obtain ⟨hl, X, cx, rfl, _⟩ := id hx
  rw [List.length_map] at hl hx ⊢
  unfold maxLen at hl
  have HX := Lib.hid hx
  have HF := Lib.hid hf
  have HT := Lib.hid ht
  have MN := Lib.hid (fun k => @metAll_no p s l k)
  have MY := Lib.hid (@metAll_yes p s l)
  generalize l.all (fun c => !failC p s c) = res at MN MY ⊢
  clear hx hf ht
  have HV := Lib.hid hv
  obtain ⟨A1, c1, A2, c2, A3, c3, A4, c4, rfl, _⟩ := rdProject_t hv
  have HQ := Lib.hid hs
  obtain ⟨E1, f1, E2, f2, rfl, _⟩ := rdSchedule_t hs
  clear hv hs
  have S0 := Lib.hid (((Sn.start w).box 34 [.int .i64 p.dl, .slice A1 p.acts.length c1, .slice A2 p.lks.length c2, .slice A3 p.ress.length c3, .slice A4 p.stk.length c4]).box 41 [.slice E1 s.st.length f1, .slice E2 s.mo.length f2])
  simp only [World.size_alloc] at S0
  go_enter Try.func46, Try.ntmps46
  go_wp2
  go_loopw [11] (fun i wr => ∃ (k : Nat), k ≤ l.length ∧ i = .int .i64 k ∧ Hid (∀ j, (hj : j < l.length) → j < k → failC p s l[j] = false) ∧ Sn w wr [boxI (w.heap.size + 1) 41 [.slice E1 s.st.length f1, .slice E2 s.mo.length f2], boxI w.heap.size 34 [.int .i64 p.dl, .slice A1 p.acts.length c1, .slice A2 p.lks.length c2, .slice A3 p.ress.length c3, .slice A4 p.stk.length c4]]) (fun i _ => l.length - (intOf i).toNat)
  case atStart => exact ⟨0, Nat.zero_le _, rfl, Lib.hid (fun j _ h => by omega), S0.out⟩
  case round =>
    obtain ⟨k, hkl, rfl, hall, hS⟩ := hrel
    have S1 := Lib.hid hS
    clear hS S0
    by_cases hlt : k < l.length
    · have hlt' : (k : Int) < (l.length : Int) := by omega
      obtain ⟨b8, o8, rfl, hb8, hc8⟩ := (rdV HX.out).2 k hlt
      have y8 := (S1.out.1.cell (p := ⟨b8, o8 + k, none⟩) hb8).trans (hc8 k hlt)
      have M1 := Lib.hid (MN.out k hlt)
      have TH := Lib.hid (HT.out _ (List.getElem_mem hlt))
      have AN := Lib.hid (fun (h : failC p s l[k] = false) => show ∀ j, (hj : j < l.length) → j < k + 1 → failC p s l[j] = false from fun j hj hjk => by
        by_cases e : j = k
        · subst e; exact h
        · exact hall.out j hj (by omega))
      generalize l[k] = c at y8 M1 TH AN
      have y9 : wr.cell? ⟨b8, o8 + k, none⟩ = some (.iface c.ty (.agg ⟨c.cs⟩)) := y8
      clear hc8 y8 hall MN
      have hm := metF_method c
      have hn := metF_enter c
      obtain ⟨e0, e1, e2, e3, e4, ef⟩ := (S1.out.bk 1 rfl).c5
      obtain ⟨q0, q1, qf⟩ := (S1.out.bk 0 rfl).c2
      go_wp2_with fail
      clear e0 e1 e2 e3 e4 ef
      clear q0 q1 qf
      clear hm hn y9
      refine (met_any c p s _ _ _ (by exact S1.out.old HV.out) HK.out (by exact S1.out.old HQ.out) HF.out TH.out).mono ?_
      rintro e w2 ⟨rfl, b⟩
      have S2 := Lib.hid (S1.out.go b)
      clear S1 b
      generalize failC p s c = fc at M1 AN ⊢
      rcases fc with _ | _
      · have A2 := Lib.hid (AN.out rfl)
        go_wp2
        go_roundw
        case rel => exact ⟨k + 1, by omega, by go_num, A2, S2.out⟩
        case measure => simp [intOf]; omega
      · have A2 := Lib.hid (M1.out rfl)
        go_wp2
        go_ret
        exact ⟨ret_bZ A2.out.symm, S2.out.1⟩
    · have hge : ¬ (k : Int) < (l.length : Int) := by omega
      obtain rfl : k = l.length := by omega
      have A2 := Lib.hid (MY.out fun j hj => hall.out j hj hj)
      go_wp2
      go_ret
      exact ⟨ret_bZ A2.out.symm, S1.out.1⟩

set_option maxRecDepth 100000 in
set_option maxHeartbeats 8000000 in
theorem implSchedOk_any (p : Pj) (s : Sc) (v u : Value) (w : World) (hv : (trPj p).rd w v) (hk : (trPj p).ok) (hs : (trSc s).rd w u) :
    Calls Try.prog 14 #[v, u] w fun e w' => e = .returned (.bool (schedB p s)) ∧ Below w.heap.size w w' := by
  have HK := Lib.hid hk
  clear hk
  generalize hres : schedB p s = res
  have RES := Lib.hid hres
  clear hres
  have HV := Lib.hid hv
  obtain ⟨A1, c1, A2, c2, A3, c3, A4, c4, rfl, _⟩ := rdProject_t hv
  have HQ := Lib.hid hs
  obtain ⟨E1, f1, E2, f2, rfl, _⟩ := rdSchedule_t hs
  clear hv hs
  have S0 := Lib.hid (((Sn.start w).box 34 [.int .i64 p.dl, .slice A1 p.acts.length c1, .slice A2 p.lks.length c2, .slice A3 p.ress.length c3, .slice A4 p.stk.length c4]).box 41 [.slice E1 s.st.length f1, .slice E2 s.mo.length f2])
  simp only [World.size_alloc] at S0
  go_enter Try.func14, Try.ntmps14
  go_wp2_with fail
  generalize World.alloc (World.alloc w _) _ = wv at S0 ⊢
  obtain ⟨p0, p1, p2, p3, p4, pf⟩ := (S0.out.bk 1 rfl).c5
  obtain ⟨q0, q1, qf⟩ := (S0.out.bk 0 rfl).c2
  have hl0 := (S0.out.bk 0 rfl).lt
  have hl1 := (S0.out.bk 1 rfl).lt
  have S1 := Lib.hid S0.out.drew1
  have CE := Lib.hid (fun (W : World) (h : Wr [] wv.drew W) => show Hid (Wr [] wv.drew W) ∧ W.cell? ⟨w.heap.size, 0, none⟩ = some (.int .i64 p.dl) ∧ W.cell? ⟨w.heap.size, 1, none⟩ = some (.slice A1 p.acts.length c1) ∧ W.cell? ⟨w.heap.size, 2, none⟩ = some (.slice A2 p.lks.length c2) ∧ W.cell? ⟨w.heap.size, 3, none⟩ = some (.slice A3 p.ress.length c3) ∧ W.cell? ⟨w.heap.size, 4, none⟩ = some (.slice A4 p.stk.length c4) ∧ W.cell? ⟨w.heap.size + 1, 0, none⟩ = some (.slice E1 s.st.length f1) ∧ W.cell? ⟨w.heap.size + 1, 1, none⟩ = some (.slice E2 s.mo.length f2) from ⟨Lib.hid h, (wr_cell h (p := ⟨w.heap.size, 0, none⟩) hl1 (by simp)).trans (by simpa using p0), (wr_cell h (p := ⟨w.heap.size, 1, none⟩) hl1 (by simp)).trans (by simpa using p1), (wr_cell h (p := ⟨w.heap.size, 2, none⟩) hl1 (by simp)).trans (by simpa using p2), (wr_cell h (p := ⟨w.heap.size, 3, none⟩) hl1 (by simp)).trans (by simpa using p3), (wr_cell h (p := ⟨w.heap.size, 4, none⟩) hl1 (by simp)).trans (by simpa using p4), (wr_cell h (p := ⟨w.heap.size + 1, 0, none⟩) hl0 (by simp)).trans (by simpa using q0), (wr_cell h (p := ⟨w.heap.size + 1, 1, none⟩) hl0 (by simp)).trans (by simpa using q1)⟩)
  have INIT := Lib.hid (CE.out _ (Wr.refl _ _))
  have KW := Lib.hid (fun (W2 W : World) (hb : Below W.heap.size W W2) (h : Hid (Wr [] wv.drew W) ∧ W.cell? ⟨w.heap.size, 0, none⟩ = some (.int .i64 p.dl) ∧ W.cell? ⟨w.heap.size, 1, none⟩ = some (.slice A1 p.acts.length c1) ∧ W.cell? ⟨w.heap.size, 2, none⟩ = some (.slice A2 p.lks.length c2) ∧ W.cell? ⟨w.heap.size, 3, none⟩ = some (.slice A3 p.ress.length c3) ∧ W.cell? ⟨w.heap.size, 4, none⟩ = some (.slice A4 p.stk.length c4) ∧ W.cell? ⟨w.heap.size + 1, 0, none⟩ = some (.slice E1 s.st.length f1) ∧ W.cell? ⟨w.heap.size + 1, 1, none⟩ = some (.slice E2 s.mo.length f2)) => CE.out W2 (h.1.out.trans (Wr.of_below hb (Nat.le_refl _))))
  clear p0 p1 p2 p3 p4 pf q0 q1 qf hl0 hl1
  refine wp_region_held_drew (S := fun W => Hid (Wr [] wv.drew W) ∧ W.cell? ⟨w.heap.size, 0, none⟩ = some (.int .i64 p.dl) ∧ W.cell? ⟨w.heap.size, 1, none⟩ = some (.slice A1 p.acts.length c1) ∧ W.cell? ⟨w.heap.size, 2, none⟩ = some (.slice A2 p.lks.length c2) ∧ W.cell? ⟨w.heap.size, 3, none⟩ = some (.slice A3 p.ress.length c3) ∧ W.cell? ⟨w.heap.size, 4, none⟩ = some (.slice A4 p.stk.length c4) ∧ W.cell? ⟨w.heap.size + 1, 0, none⟩ = some (.slice E1 s.st.length f1) ∧ W.cell? ⟨w.heap.size + 1, 1, none⟩ = some (.slice E2 s.mo.length f2)) (by kernel_rfl) INIT.out (fun hHeld => ?_)
  refine wpAnyH_take (i := 0) (v := ?_) rfl (by kernel_rfl) (by kernel_rfl) (by kernel_rfl) (fun _ _ _ h => h) (Or.inl ⟨by rfl, ?_⟩) (by assumption) ?_
  rotate_left
  · (intro W hSw; (try dsimp only at hSw); go_simp <;> with_reducible rfl)
  (try simp only [Act.put, List.getElem_toArray, List.getElem_cons_zero, List.setIfInBounds_toArray, List.set_cons_succ, List.set_cons_zero])
  refine wpAnyH_take (i := 1) (v := ?_) rfl (by kernel_rfl) (by kernel_rfl) (by kernel_rfl) (fun _ _ _ h => h) (Or.inl ⟨by rfl, ?_⟩) (by assumption) ?_
  rotate_left
  · (intro W hSw; (try dsimp only at hSw); go_simp <;> with_reducible rfl)
  (try simp only [Act.put, List.getElem_toArray, List.getElem_cons_succ, List.getElem_cons_zero, List.setIfInBounds_toArray, List.set_cons_succ, List.set_cons_zero])
  refine wpAnyH_ready (rs := [2]) (by kernel_rfl) (by simp) ?_
  refine AllReadyH.cons rfl (fun K hK => ?_) AllReadyH.nil
  go_simp
  go_at_call 15
  refine (implForm_any p s _ _ _ (by exact S1.out.old HV.out) HK.out (by exact S1.out.old HQ.out)).mono ?_
  rintro e w2 ⟨rfl, bb⟩
  have S2 := Lib.hid (S1.out.go bb)
  (first | done | go_wp2_with fail)
  refine hK.out _ _ (KW.out _ _ bb (by assumption)) (fun hHeld2 => ?_)
  clear hK K bb S1
  rcases hf : formB p s with _ | _
  · have HN := Lib.hid (sched_bad hf)
    clear hf
    refine wpAnyH_take (i := 3) (v := ?_) rfl (by kernel_rfl) (by kernel_rfl) (by kernel_rfl) (fun _ _ _ h => h) (Or.inl ⟨by rfl, ?_⟩) (by assumption) ?_
    rotate_left
    · (intro W hSw; (try dsimp only at hSw); go_simp <;> with_reducible rfl)
    (try simp only [Act.put, List.getElem_toArray, List.getElem_cons_succ, List.getElem_cons_zero, List.setIfInBounds_toArray, List.set_cons_succ, List.set_cons_zero])
    refine wpAnyH_take (i := 4) (v := undef) rfl (by kernel_rfl) (by kernel_rfl) (by kernel_rfl) (fun _ _ _ h => h) (Or.inr ⟨by rfl, rfl⟩) (by assumption) ?_
    (try simp only [Act.put, List.getElem_toArray, List.getElem_cons_succ, List.getElem_cons_zero, List.setIfInBounds_toArray, List.set_cons_succ, List.set_cons_zero])
    refine wpAnyH_take (i := 5) (v := undef) rfl (by kernel_rfl) (by kernel_rfl) (by kernel_rfl) (fun _ _ _ h => h) (Or.inr ⟨by rfl, rfl⟩) (by assumption) ?_
    (try simp only [Act.put, List.getElem_toArray, List.getElem_cons_succ, List.getElem_cons_zero, List.setIfInBounds_toArray, List.set_cons_succ, List.set_cons_zero])
    refine wpAnyH_take (i := 6) (v := undef) rfl (by kernel_rfl) (by kernel_rfl) (by kernel_rfl) (fun _ _ _ h => h) (Or.inr ⟨by rfl, rfl⟩) (by assumption) ?_
    (try simp only [Act.put, List.getElem_toArray, List.getElem_cons_succ, List.getElem_cons_zero, List.setIfInBounds_toArray, List.set_cons_succ, List.set_cons_zero])
    refine wpAnyH_take (i := 7) (v := undef) rfl (by kernel_rfl) (by kernel_rfl) (by kernel_rfl) (fun _ _ _ h => h) (Or.inr ⟨by rfl, rfl⟩) (by assumption) ?_
    (try simp only [Act.put, List.getElem_toArray, List.getElem_cons_succ, List.getElem_cons_zero, List.setIfInBounds_toArray, List.set_cons_succ, List.set_cons_zero])
    refine wpAnyH_take (i := 8) (v := undef) rfl (by kernel_rfl) (by kernel_rfl) (by kernel_rfl) (fun _ _ _ h => h) (Or.inr ⟨by rfl, rfl⟩) (by assumption) ?_
    (try simp only [Act.put, List.getElem_toArray, List.getElem_cons_succ, List.getElem_cons_zero, List.setIfInBounds_toArray, List.set_cons_succ, List.set_cons_zero])
    refine wpAnyH_take (i := 9) (v := ?_) rfl (by kernel_rfl) (by kernel_rfl) (by kernel_rfl) (fun _ _ _ h => h) (Or.inl ⟨by rfl, ?_⟩) (by assumption) ?_
    rotate_left
    · (intro W hSw; (try dsimp only at hSw); go_simp <;> with_reducible rfl)
    (try simp only [Act.put, List.getElem_toArray, List.getElem_cons_succ, List.getElem_cons_zero, List.setIfInBounds_toArray, List.set_cons_succ, List.set_cons_zero])
    refine wpAnyH_take (i := 10) (v := ?_) rfl (by kernel_rfl) (by kernel_rfl) (by kernel_rfl) (fun _ _ _ h => h) (Or.inl ⟨by rfl, ?_⟩) (by assumption) ?_
    rotate_left
    · (intro W hSw; (try dsimp only at hSw); go_simp <;> with_reducible rfl)
    (try simp only [Act.put, List.getElem_toArray, List.getElem_cons_succ, List.getElem_cons_zero, List.setIfInBounds_toArray, List.set_cons_succ, List.set_cons_zero])
    refine wpAnyH_done (by kernel_rfl) ?_ _
    clear hHeld hHeld2 CE INIT KW
    go_wp2
    go_ret
    exact ⟨by rw [← RES.out, HN.out]; rfl, S2.out.1⟩
  · have HN := Lib.hid (sched_all hf)
    have HF := Lib.hid hf
    have HP := Lib.hid (form_of hf).ok
    clear hf
    refine wpAnyH_take (i := 3) (v := ?_) rfl (by kernel_rfl) (by kernel_rfl) (by kernel_rfl) (fun _ _ _ h => h) (Or.inl ⟨by rfl, ?_⟩) (by assumption) ?_
    rotate_left
    · (intro W hSw; (try dsimp only at hSw); go_simp <;> with_reducible rfl)
    (try simp only [Act.put, List.getElem_toArray, List.getElem_cons_succ, List.getElem_cons_zero, List.setIfInBounds_toArray, List.set_cons_succ, List.set_cons_zero])
    refine wpAnyH_take (i := 4) (v := ?_) rfl (by kernel_rfl) (by kernel_rfl) (by kernel_rfl) (fun _ _ _ h => h) (Or.inl ⟨by rfl, ?_⟩) (by assumption) ?_
    rotate_left
    · (intro W hSw; (try dsimp only at hSw); go_simp <;> with_reducible rfl)
    (try simp only [Act.put, List.getElem_toArray, List.getElem_cons_succ, List.getElem_cons_zero, List.setIfInBounds_toArray, List.set_cons_succ, List.set_cons_zero])
    refine wpAnyH_take (i := 6) (v := ?_) rfl (by kernel_rfl) (by kernel_rfl) (by kernel_rfl) (fun _ _ _ h => h) (Or.inl ⟨by rfl, ?_⟩) (by assumption) ?_
    rotate_left
    · (intro W hSw; (try dsimp only at hSw); go_simp <;> with_reducible rfl)
    (try simp only [Act.put, List.getElem_toArray, List.getElem_cons_succ, List.getElem_cons_zero, List.setIfInBounds_toArray, List.set_cons_succ, List.set_cons_zero])
    refine wpAnyH_take (i := 7) (v := ?_) rfl (by kernel_rfl) (by kernel_rfl) (by kernel_rfl) (fun _ _ _ h => h) (Or.inl ⟨by rfl, ?_⟩) (by assumption) ?_
    rotate_left
    · (intro W hSw; (try dsimp only at hSw); go_simp <;> with_reducible rfl)
    (try simp only [Act.put, List.getElem_toArray, List.getElem_cons_succ, List.getElem_cons_zero, List.setIfInBounds_toArray, List.set_cons_succ, List.set_cons_zero])
    refine wpAnyH_ready (rs := [5]) (by kernel_rfl) (by simp) ?_
    refine AllReadyH.cons rfl (fun K hK => ?_) AllReadyH.nil
    go_simp
    go_at_call 43
    refine (listed_any p _ _ (by exact S2.out.old HV.out) HP.out).mono ?_
    rintro e w3 ⟨u3, F3, rfl, o, h, bb⟩
    have S3 := Lib.hid (S2.out.new o h bb)
    (first | done | go_wp2_with fail)
    refine hK.out _ _ (KW.out _ _ bb (by assumption)) (fun hHeld3 => ?_)
    clear hK K bb S2 o h
    refine wpAnyH_ready (rs := [8]) (by kernel_rfl) (by simp) ?_
    refine AllReadyH.cons rfl (fun K hK => ?_) AllReadyH.nil
    go_simp
    go_at_call 46
    refine (areMet_any (listC p) p s _ _ _ _ (rd_flat (by exact S3.out.rd 0 rfl)) (by exact S3.out.old HV.out) HK.out (by exact S3.out.old HQ.out) HF.out (fun c hc => mem_listC hc)).mono ?_
    rintro e w4 ⟨rfl, bb⟩
    have S4 := Lib.hid (S3.out.go bb)
    (first | done | go_wp2_with fail)
    refine hK.out _ _ (KW.out _ _ bb (by assumption)) (fun hHeld4 => ?_)
    clear hK K bb S3
    refine wpAnyH_take (i := 9) (v := ?_) rfl (by kernel_rfl) (by kernel_rfl) (by kernel_rfl) (fun _ _ _ h => h) (Or.inl ⟨by rfl, ?_⟩) (by assumption) ?_
    rotate_left
    · (intro W hSw; (try dsimp only at hSw); go_simp <;> with_reducible rfl)
    (try simp only [Act.put, List.getElem_toArray, List.getElem_cons_succ, List.getElem_cons_zero, List.setIfInBounds_toArray, List.set_cons_succ, List.set_cons_zero])
    refine wpAnyH_take (i := 10) (v := ?_) rfl (by kernel_rfl) (by kernel_rfl) (by kernel_rfl) (fun _ _ _ h => h) (Or.inl ⟨by rfl, ?_⟩) (by assumption) ?_
    rotate_left
    · (intro W hSw; (try dsimp only at hSw); go_simp <;> with_reducible rfl)
    (try simp only [Act.put, List.getElem_toArray, List.getElem_cons_succ, List.getElem_cons_zero, List.setIfInBounds_toArray, List.set_cons_succ, List.set_cons_zero])
    refine wpAnyH_done (by kernel_rfl) ?_ _
    clear hHeld hHeld2 hHeld3 hHeld4 CE INIT KW
    go_wp2
    go_ret
    exact ⟨by rw [← RES.out, HN.out]; rfl, S4.out.1⟩

set_option maxRecDepth 100000 in
set_option maxHeartbeats 8000000 in
theorem implViolated_any (p : Pj) (s : Sc) (v u : Value) (w : World) (hv : (trPj p).rd w v) (hk : (trPj p).ok) (hs : (trSc s).rd w u) :
    Calls Try.prog 12 #[v, u] w fun e w' => ∃ u F, e = .returned u ∧ (trRus (violsB p s)).own w' w.heap.size u F ∧ F.Nodup ∧ Below w.heap.size w w' := by
  have HK := Lib.hid hk
  clear hk
  have HV0 := Lib.hid (@viols_bad p s)
  have HV1 := Lib.hid (@viols_yes p s)
  generalize violsB p s = res at HV0 HV1 ⊢
  obtain ⟨i0, hi0, hz0, hz1, hz2⟩ := info_parts infoRule_t
  have HV := Lib.hid hv
  obtain ⟨A1, c1, A2, c2, A3, c3, A4, c4, rfl, _⟩ := rdProject_t hv
  have HQ := Lib.hid hs
  obtain ⟨E1, f1, E2, f2, rfl, _⟩ := rdSchedule_t hs
  clear hv hs
  have S0 := Lib.hid (((Sn.start w).box 34 [.int .i64 p.dl, .slice A1 p.acts.length c1, .slice A2 p.lks.length c2, .slice A3 p.ress.length c3, .slice A4 p.stk.length c4]).box 41 [.slice E1 s.st.length f1, .slice E2 s.mo.length f2])
  simp only [World.size_alloc] at S0
  go_enter Try.func12, Try.ntmps12
  go_wp2_with fail
  refine (implForm_any p s _ _ _ (by exact S0.out.old HV.out) HK.out (by exact S0.out.old HQ.out)).mono ?_
  rintro e w1 ⟨rfl, b⟩
  have S1 := Lib.hid (S0.out.go b)
  clear S0 b
  rcases hf : formB p s with _ | _
  · have HN := Lib.hid (show trRus res = rowR [] from by rw [HV0.out hf, rowR_tr]; rfl)
    have S2 := Lib.hid S1.out.nilRu
    clear hf
    go_wp2
    go_ret
    first
      | exact ⟨_, rfl, _, by rw [HN.out]; exact (S2.out.own 0 rfl).1, (S2.out.own 0 rfl).2, S2.out.1⟩
      | exact ⟨_, by rw [HN.out]; exact (S2.out.own 0 rfl).1, (S2.out.own 0 rfl).2, S2.out.1⟩
      | exact ⟨_, _, rfl, by rw [HN.out]; exact (S2.out.own 0 rfl).1, (S2.out.own 0 rfl).2, S2.out.1⟩
  have HF := Lib.hid hf
  have HP := Lib.hid (form_of hf).ok
  have HN := Lib.hid (show trRus res = rowR (violL p s (listC p)) from by rw [HV1.out hf, rowR_tr])
  clear hf HV0 HV1
  obtain ⟨e0, e1, e2, e3, e4, ef⟩ := (S1.out.bk 1 rfl).c5
  go_wp2_with fail
  clear e0 e1 e2 e3 e4 ef
  refine (listed_any p _ _ (by exact S1.out.old HV.out) HP.out).mono ?_
  rintro e w2 ⟨u2, F2, rfl, o, h, bb⟩
  have S2 := Lib.hid ((S1.out.new o h bb).nilRu)
  have HLL := Lib.hid (listC_len HP.out)
  have HT := Lib.hid (fun c hc => @mem_listC p c hc)
  generalize listC p = l at S2 HN HLL HT
  have hll : l.length ≤ 400 := HLL.out
  obtain ⟨hlm, U, cu, rfl, _⟩ := rd_flat (S2.out.rd 1 rfl)
  rw [List.length_map] at S2 ⊢
  clear o h bb S1 hlm
  go_wp2
  go_loopw [5, 15] (fun q i wr => ∃ (k : Nat) (F : List Nat), k ≤ l.length ∧ i = .int .i64 k ∧ Sn w wr [⟨rowR (violL p s (l.take k)), q, F⟩, ⟨rowC l, .slice U l.length cu, F2⟩, boxI (w.heap.size + 1) 41 [.slice E1 s.st.length f1, .slice E2 s.mo.length f2], boxI w.heap.size 34 [.int .i64 p.dl, .slice A1 p.acts.length c1, .slice A2 p.lks.length c2, .slice A3 p.ress.length c3, .slice A4 p.stk.length c4]]) (fun _ i _ => l.length - (intOf i).toNat)
  case atStart => exact ⟨0, _, Nat.zero_le _, rfl, by simpa [violL] using S2.out⟩
  case round =>
    obtain ⟨k, F, hkl, rfl, hS⟩ := hrel
    have S3 := Lib.hid hS
    clear hS S2
    by_cases hlt : k < l.length
    · have hlt' : (k : Int) < (l.length : Int) := by omega
      obtain ⟨b8, o8, rfl, hb8, hc8⟩ := (rdV (rd_flat (S3.out.rd 1 rfl))).2 k hlt
      have y8 := hc8 k hlt
      have VY := Lib.hid (violL_yes (p := p) (s := s) hlt)
      have VN := Lib.hid (violL_no (p := p) (s := s) hlt)
      have TH := Lib.hid (HT.out _ (List.getElem_mem hlt))
      have hlen : (violL p s (l.take k)).length ≤ 400 := Nat.le_trans (violL_len _ _ _) (by rw [List.length_take]; omega)
      generalize l[k] = c at y8 VY VN TH
      generalize violL p s (l.take k) = vs at S3 VY VN hlen
      have y9 : wr.cell? ⟨b8, o8 + k, none⟩ = some (.iface c.ty (.agg ⟨c.cs⟩)) := y8
      clear hc8 y8
      have hm := metF_method c
      have hn := metF_enter c
      obtain ⟨e0, e1, e2, e3, e4, ef⟩ := (S3.out.bk 3 rfl).c5
      obtain ⟨q0, q1, qf⟩ := (S3.out.bk 2 rfl).c2
      go_wp2_with fail
      clear e0 e1 e2 e3 e4 ef
      clear q0 q1 qf
      clear hm hn y9
      refine (met_any c p s _ _ _ (by exact S3.out.old HV.out) HK.out (by exact S3.out.old HQ.out) HF.out TH.out).mono ?_
      rintro e w3 ⟨rfl, b⟩
      have S4 := Lib.hid (S3.out.go b)
      clear S3 b
      generalize failC p s c = fc at VY VN ⊢
      rcases fc with _ | _
      · have A2 := Lib.hid (VN.out rfl)
        clear VN VY
        go_wp2
        go_roundw
        case rel => exact ⟨k + 1, _, by omega, by go_num, by rw [A2.out]; exact S4.out⟩
        case measure => simp [intOf]; omega
      · have A2 := Lib.hid (VY.out rfl)
        clear VN VY
        go_wp2_with fail
        refine (ruleOf_any c _).mono ?_
        rintro e w4 ⟨rfl, bb⟩
        have S5 := Lib.hid (S4.out.go bb)
        clear S4 bb
        unfold ruV
        have OW := Lib.hid S5.out.ownR
        have hz := S5.out.1.size
        go_wp2_with (first | (at_builtin; refine wpList_append_own_at _ rfl (.tmp 24) (.tmp 27) 43 rfl w.heap.size 46 i0 (.agg #[.int .i64 0, .int .i64 0, .int .i64 0, .int .i64 0]) 4 32 Try.underlying43 hi0 hz0 hz1 hz2 rfl (by decide) _ vs.length (cells4 (vs.map Cd.ru)) rfl (by exact OW.out.alloc _) ⟨w4.heap.size, 0, none⟩ 1 1 [.int .i64 c.ru.ki, .int .i64 c.ru.a, .int .i64 c.ru.b, .int .i64 c.ru.c] rfl rfl ?c1 ?c2 ?c3 ?c4 ?c5 ?_) | fail)
        try case c1 => exact four_cells _ _ _ _ _ _
        case c2 => simp [Value.oneCell']
        case c3 => unfold maxLen; omega
        case c4 => omega
        case c5 => first | omega | (simp; omega)
        intro v' w8 hown8 hg8 _ hat8
        obtain ⟨F9, h9⟩ := S5.out.appR c ((Below.refl _ _).alloc (Nat.le_refl _) _) hown8 rfl hg8 (by simpa using hat8)
        have S9 := Lib.hid h9
        clear hown8 hg8 hat8 h9 OW S5
        go_wp2
        go_roundw
        case rel => exact ⟨k + 1, F9, by omega, by go_num, by rw [A2.out]; exact S9.out⟩
        case measure => simp [intOf]; omega
    · have hge : ¬ (k : Int) < (l.length : Int) := by omega
      obtain rfl : k = l.length := by omega
      rw [List.take_length] at S3
      go_wp2
      go_ret
      first
        | exact ⟨_, rfl, _, by rw [HN.out]; exact (S3.out.own 0 rfl).1, (S3.out.own 0 rfl).2, S3.out.1⟩
        | exact ⟨_, by rw [HN.out]; exact (S3.out.own 0 rfl).1, (S3.out.own 0 rfl).2, S3.out.1⟩
        | exact ⟨_, _, rfl, by rw [HN.out]; exact (S3.out.own 0 rfl).1, (S3.out.own 0 rfl).2, S3.out.1⟩
end Go.Proofs.Ytaglfdkeomjpdab
end
