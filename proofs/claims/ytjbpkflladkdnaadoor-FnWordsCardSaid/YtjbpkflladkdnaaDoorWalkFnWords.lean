/- DERIVED. The walk of the law FnWords, by contracts. -/
import Derived.Test.YtjbpkflladkdnaaDoorWordsMath
import Derived.Test.YtjbpkflladkdnaaDoorAny
import Derived.Test.YtjbpkflladkdnaaDoorBts
import Derived.Test.YtjbpkflladkdnaaDoorSt
import Derived.Test.YtjbpkflladkdnaaDoorSum
import Derived.Test.YtjbpkflladkdnaaDoorSetE
import Derived.Test.YtjbpkflladkdnaaDoorPars
import Derived.Test.YtjbpkflladkdnaaDoorFmts
import Derived.Test.YtjbpkflladkdnaaDoorJoinI
import Derived.Test.YtjbpkflladkdnaaDoorLines
import Derived.Test.YtjbpkflladkdnaaDoorName
import Derived.ArgAppend
namespace Go.Proofs.YtjbpkflladkdnaaDoor
open Go.RowKit

theorem rd_pre {w : World} {A : Option Addr} {c n : Nat} {xs ys : List Value} (h : Rd w (.slice A n c) (xs ++ ys)) : Rd w (.slice A xs.length c) xs := by
  obtain ⟨hl, A', c', he, hx⟩ := h
  simp only [Value.slice.injEq] at he
  obtain ⟨rfl, _, rfl⟩ := he
  rw [List.length_append] at hl
  refine ⟨by omega, _, _, rfl, ?_⟩
  rcases hx with hx | ⟨b, o, rfl, hb, hc⟩
  · exact .inl (List.append_eq_nil_iff.1 hx).1
  · exact .inr ⟨b, o, rfl, hb, fun j hj => by rw [hc j (by rw [List.length_append]; omega), List.getElem_append_left]⟩

/-- append of one int to a row of the call's own: the old slice reads as before. -/
theorem app_keep {w : World} {ops : Array Oper} {rest : List Oper} {o : Oper} {a : Act} {Q : Exit → Act → World → Prop} (hgd : o.guard = none) (s x : Operand) (t : TypeId)
    (ho : o.op = .call { callee := .builtin .append, args := #[s, x], argTypes := #[t, t] }) (ht : Tryd.prog.underlying t = some (.slice 3))
    (base : Nat) (v : Value) (ad : Addr) (c : Nat) (xs : List Int) (y : Int) (hs : a.eval s = v) (hx : a.eval x = .slice (some ad) 1 c) (hown : w.ownsRow base 3 1 v xs.length (xs.map (.int .i64)))
    (hc : ∀ j u, ([y].map (Value.int .i64))[j]? = some u → w.cell? (ad.add j) = some u)
    (hlen : xs.length ≤ 1000000) (hbase : base ≤ w.heap.size)
    (h : ∀ v' w', w'.ownsRow base 3 1 v' (xs ++ [y]).length ((xs ++ [y]).map (.int .i64)) → Rd w' v (xs.map (.int .i64)) → w.grownBy w' v.ownBlock → wpList Tryd.prog ops Q rest (a.put o.dst v') w') :
    wpList Tryd.prog ops Q (o :: rest) a w := by
  obtain ⟨i0, hi, hz0, hz1, hz2⟩ := info_parts infoInt
  have hone : ∀ u ∈ [y].map (Value.int .i64), u.oneCell' = true := by intro u hu; simp at hu; subst hu; rfl
  have hrd : Rd w v (xs.map (.int .i64)) := own_rd hown (by unfold maxLen; omega)
  rcases hown.2 with ⟨rfl, h0⟩ | ⟨g, cap, cur, rfl, hg, hh, hnc, hcm, hcs, htake⟩
  · have hx0 : xs.length = 0 := by simpa using h0
    refine wpList_append_grows w hgd s x t ho 3 i0 (.int .i64 0) 1 8 ht hi hz0 hz1 hz2 rfl (by decide) none 0 0 [] hs (fun _ => ⟨rfl, rfl⟩) rfl (by intro b hb; cases hb) ad 1 c ([y].map (.int .i64)) hx (by simp) hc hone (by omega) (by unfold maxLen; omega) (by omega) ?_
    intro v' w' h1 h2
    have hx1 : xs = [] := List.eq_nil_of_length_eq_zero hx0
    subst hx1
    exact h v' w' (own_base h1 hbase) ⟨by simp, none, 0, rfl, .inl rfl⟩ h2
  · by_cases hfit : xs.length + 1 ≤ cap
    · refine wpList_append_fits w hgd s x t ho base 3 i0 1 ht hi hz1 g xs.length cap (xs.map (.int .i64)) hs hown ad 1 c ([y].map (.int .i64)) hx (by simp) hc hone hfit ?_
      intro w' h1 h2
      have h3 : w'.ownsRow base 3 1 (.slice (some ⟨g, 0, none⟩) (xs.length + 1) cap) (xs ++ [y]).length ((xs ++ [y]).map (.int .i64)) := by simpa using h1
      have h4 := own_rd h1 (by unfold maxLen; omega)
      have h5 := rd_pre h4
      rw [List.length_map] at h5
      exact h _ w' h3 h5 h2
    · refine wpList_append_grows w hgd s x t ho 3 i0 (.int .i64 0) 1 8 ht hi hz0 hz1 hz2 rfl (by decide) (some ⟨g, 0, none⟩) xs.length cap (xs.map (.int .i64)) hs (fun e => by cases e) (by simp) (fun b hb j u hj => by cases hb; exact hown.cells (g := g) rfl j u hj) ad 1 c ([y].map (.int .i64)) hx (by simp) hc hone (by omega) (by unfold maxLen; omega) (by omega) ?_
      intro v' w' h1 h2
      have hb : Below w.heap.size w w' := ⟨h2.os, h2.tape, h2.output, h2.size, fun i hi => h2.block i hi (by simp)⟩
      refine h v' w' (own_base (by simpa using h1) hbase) (hrd.below hb (Nat.le_refl _)) ⟨h2.os, h2.tape, h2.output, h2.size, fun i hi _ => h2.block i hi (by simp)⟩

theorem tot_bound : ∀ (l : List ByteArray) (m : Nat), (∀ p ∈ l, p.size ≤ m) → tot l ≤ l.length * m
  | [], m, _ => by simp [tot]
  | x :: l, m, h => by
    have h1 := h x (by simp)
    have h2 := tot_bound l m (fun p hp => h p (by simp [hp]))
    simp only [tot, List.length_cons, List.map_cons, List.sum_cons] at h2 ⊢
    rw [Nat.add_mul]
    omega
theorem fmts_size (l : List Int) (h : l.length ≤ 6) : (fmtsB l).size ≤ 100 := by
  unfold fmtsB
  split
  · decide
  · split
    · decide
    · have h1 := jn_size (l.map fmtB) ⟨#[44]⟩ _ (Nat.le_refl _)
      have h2 := fmts_tot l
      rw [List.take_length] at h1
      have h3 : (⟨#[44]⟩ : ByteArray).size = 1 := rfl
      unfold joinB
      rw [h3, Nat.mul_one] at h1
      rw [List.length_map] at h1 ⊢
      omega
theorem split_tot (s : ByteArray) (h : s.size ≤ 100) : tot (splitB s comma) ≤ 1073741824 ∧ (splitB s comma).length ≤ 101 := by
  have h1 := (splitB_len s comma).2
  have h2 := tot_bound (splitB s comma) 100 (fun p hp => Nat.le_trans (parts_size s p hp) h)
  have h3 : (splitB s comma).length * 100 ≤ 101 * 100 := Nat.mul_le_mul_right _ (by omega)
  omega
theorem nm_yes : nmB ⟨#[120, 49]⟩ = true := by decide
theorem nm_no : nmB ⟨#[49, 120]⟩ = false := by decide
theorem lines_two : (linesB ⟨#[97, 10, 98, 10]⟩).length = 2 := by decide
theorem few_range {a : List Int} (h : Few a) {n : Int} (h1 : -1000 ≤ n) (h2 : n < 1000) : ∀ x ∈ a ++ [n], -9223372036854775808 ≤ x ∧ x ≤ 9223372036854775807 := fun x hx => by
  rcases List.mem_append.1 hx with hx | hx
  · have := h.2 x hx; omega
  · simp at hx; omega

set_option maxRecDepth 100000 in
set_option maxHeartbeats 4000000 in
theorem walkFnWords (c0 : Option Addr) (len0 cap0 : Nat) (zs0 : List Int) (w : World) (hz0 : IsBytes w c0 len0 cap0 zs0) (ht : TB w) :
    Calls Tryd.prog 3 #[.slice c0 len0 cap0] w fun e w' => e = .returned (.bool true) ∧ Below w.heap.size w w' := by
  have hlz0 := (isBytes_rd hz0).1
  have hr0 := (isBytes_rd hz0).2
  generalize hxs0 : zs0.take len0 = bs at hr0
  have hlen0 : bs.length = len0 := by rw [← hxs0]; simp; omega
  have hlm0 : bs.length ≤ maxLen := by simpa using hr0.1.1
  unfold maxLen at hlm0
  clear hz0 hxs0
  have HR := Lib.hid hr0
  have T0 := Lib.hid ht
  clear hr0 ht
  subst hlen0
  by_cases hbig0 : (1048576 : Int) < bs.length
  · go_enter Tryd.func3, Tryd.ntmps3
    go_wp2
    go_ret
    exact ⟨rfl, Below.refl _ _⟩
  have hl0 : bs.length ≤ 1048576 := by omega
  clear hbig0
  have S0 := Lib.hid (St.start w)
  go_enter Tryd.func3, Tryd.ntmps3
  go_wp2_with fail
  refine (makeNum_big 2000 (by omega) (by omega) c0 _ bs _ (by exact S0.out.old HR.out.1) HR.out.2 hl0).mono ?_
  rintro e w1 ⟨r, rfl, hn0, hn8, b⟩
  have S1 := Lib.hid (S0.out.go b)
  clear S0 b
  go_wp2_with fail
  refine (makeList_any 1 c0 _ bs _ (by exact S1.out.old HR.out.1) HR.out.2 hl0).mono ?_
  rintro e w2 ⟨va, a, rfl, hfa, o, b⟩
  have S2 := Lib.hid (S1.out.new o b)
  have hla : a.length ≤ 5 := hfa.1
  have FA := Lib.hid hfa
  clear S1 o b hfa
  obtain ⟨n, hn⟩ : ∃ n : Int, r - 1000 = n := ⟨_, rfl⟩
  have hn1 : -1000 ≤ n := by omega
  have hn2 : n < 1000 := by omega
  rw [hn]
  clear hn hn0 hn8
  have EP := Lib.hid (parse_fmt (n := n) (by omega) (by omega))
  have EF := Lib.hid (parses_fmts (l := a) (fun x hx => by have := FA.out.2 x hx; omega))
  go_wp2_with fail
  refine (implFmt_any n _ (by omega) (by omega) (by exact T0.out.below S2.out.1 (Nat.le_refl _))).mono ?_
  rintro e w3 ⟨rfl, b⟩
  have S3 := Lib.hid (S2.out.go b)
  clear S2 b
  have hfs := fmtB_size n
  go_wp2_with fail
  refine (implParse_any (fmtB n) _ (by unfold maxLen; omega) (by exact T0.out.below S3.out.1 (Nat.le_refl _))).mono ?_
  rintro e w4 ⟨hp, b⟩
  unfold ParRes at hp
  rw [EP.out] at hp
  subst hp
  have S4 := Lib.hid (S3.out.go b)
  clear S3 b hfs EP
  go_wp2_with fail
  refine (implFmts_any a va _ (by exact S4.out.rd 0 rfl (by unfold maxLen; omega)) (by omega) (fun x hx => by have := FA.out.2 x hx; omega) (by exact T0.out.below S4.out.1 (Nat.le_refl _))).mono ?_
  rintro e w5 ⟨rfl, b⟩
  have S5 := Lib.hid (S4.out.go b)
  clear S4 b
  have hfs := fmts_size a (by omega)
  go_wp2_with fail
  refine (implPars_any (fmtsB a) _ (by omega) (by exact T0.out.below S5.out.1 (Nat.le_refl _))).mono ?_
  rintro e w6 ⟨vm, rfl, o, b⟩
  rw [EF.out] at o ⊢
  have S6 := Lib.hid (S5.out.new o b)
  clear S5 o b hfs EF
  go_wp2_with (first
    | (at_builtin; refine app_keep rfl (.tmp 30) (.tmp 32) 24 rfl rfl w.heap.size va _ _ a n rfl rfl (by exact (S6.out.own 1 rfl).alloc _) (by exact new_cell _ _ _) (by omega) (by have := S6.out.1.size; simp; omega) ?_; intro vp w7 hp hr hg
       have S7 := Lib.hid (And.intro hp (And.intro hr (And.intro (step_below S6.out.1 hg S6.out.1.size (own_mem (S6.out.own 1 rfl))) (own_grown ((S6.out.own 0 rfl).alloc _) hg (fun k hk => .inr (fun e => S6.out.2.2.1 _ (List.mem_singleton.2 rfl) k e hk))))))
       clear hp hr hg)
    | fail)
  have hlan : (a ++ [n]).length ≤ 6 := by simp; omega
  refine (implFmts_any (a ++ [n]) vp _ (own_rd S7.out.1 (by unfold maxLen; omega)) (by omega) (few_range FA.out hn1 hn2) (by exact T0.out.below S7.out.2.2.1 (Nat.le_refl _))).mono ?_
  rintro e w8 ⟨rfl, b⟩
  have hfs := fmts_size (a ++ [n]) hlan
  generalize fmtsB (a ++ [n]) = s at hfs
  have S8 := Lib.hid (And.intro (S7.out.2.1.below b (Nat.le_refl _)) (And.intro (S7.out.2.2.1.trans (b.mono S7.out.2.2.1.size)) (own_below S7.out.2.2.2 b (Nat.le_refl _))))
  clear S7 S6 b
  -- SetEqual(m, l)
  go_wp2_with fail
  refine (implEqual_any a a vm va _ (own_rd S8.out.2.2 (by unfold maxLen; omega)) S8.out.1).mono ?_
  rintro e w9 ⟨rfl, b⟩
  rw [show eqB a a = true by simp [eqB]]
  have S9 := Lib.hid (And.intro (S8.out.1.below b (Nat.le_refl _)) (And.intro (S8.out.2.1.trans (b.mono S8.out.2.1.size)) (own_below S8.out.2.2 b (Nat.le_refl _))))
  clear S8 b
  -- Join(SplitAny(s, ","), ",")
  have EJ := Lib.hid (show joinB (splitB s ⟨#[44]⟩) ⟨#[44]⟩ = s from join_split s)
  have EL := Lib.hid (show tot (splitB s ⟨#[44]⟩) ≤ 1073741824 ∧ (splitB s ⟨#[44]⟩).length ≤ 101 from split_tot s hfs)
  go_wp2_with fail
  refine (implSplitAny_any s ⟨#[44]⟩ _ (by omega)).mono ?_
  rintro e w10 ⟨vs, rfl, o, b⟩
  have S10 := Lib.hid (And.intro (S9.out.1.below b (Nat.le_refl _)) (And.intro (S9.out.2.1.trans (b.mono S9.out.2.1.size)) (And.intro (own_below S9.out.2.2 b (Nat.le_refl _)) o)))
  clear S9 b o
  go_wp2_with fail
  refine (implJoin_any (splitB s ⟨#[44]⟩) ⟨#[44]⟩ vs _ (own_rd S10.out.2.2.2 (by have := EL.out.2; unfold maxLen; omega)) EL.out.1 (by have := EL.out.2; omega) (by decide)).mono ?_
  rintro e w11 ⟨rfl, b⟩
  rw [EJ.out]
  have S11 := Lib.hid (And.intro (S10.out.1.below b (Nat.le_refl _)) (And.intro (S10.out.2.1.trans (b.mono S10.out.2.1.size)) (own_below S10.out.2.2.1 b (Nat.le_refl _))))
  clear S10 b EJ EL
  -- IsName
  go_wp2_with fail
  refine (implIsName_any ⟨#[120, 49]⟩ _ (by decide)).mono ?_
  rintro e w12 ⟨rfl, b⟩
  rw [nm_yes]
  have S12 := Lib.hid (And.intro (S11.out.1.below b (Nat.le_refl _)) (And.intro (S11.out.2.1.trans (b.mono S11.out.2.1.size)) (own_below S11.out.2.2 b (Nat.le_refl _))))
  clear S11 b
  go_wp2_with fail
  refine (implIsName_any ⟨#[49, 120]⟩ _ (by decide)).mono ?_
  rintro e w13 ⟨rfl, b⟩
  rw [nm_no]
  have S13 := Lib.hid (And.intro (S12.out.1.below b (Nat.le_refl _)) (And.intro (S12.out.2.1.trans (b.mono S12.out.2.1.size)) (own_below S12.out.2.2 b (Nat.le_refl _))))
  clear S12 b
  -- SplitLines
  go_wp2_with fail
  refine (implSplitLines_any ⟨#[97, 10, 98, 10]⟩ _ (by decide)).mono ?_
  rintro e w14 ⟨vl, rfl, o, b⟩
  have S14 := Lib.hid (And.intro (S13.out.1.below b (Nat.le_refl _)) (And.intro (S13.out.2.1.trans (b.mono S13.out.2.1.size)) (own_below S13.out.2.2 b (Nat.le_refl _))))
  obtain ⟨_, Al, cl, rfl, _⟩ := own_rd o (by rw [lines_two]; unfold maxLen; omega)
  rw [List.length_map, lines_two]
  clear S13 b o
  -- ClampedSum
  go_wp2_with fail
  refine (implSum_any a vm _ (own_rd S14.out.2.2 (by unfold maxLen; omega)) (by omega)).mono ?_
  rintro e w15 ⟨rfl, hw⟩
  obtain rfl := hw
  go_wp2_with fail
  refine (implSum_any a va _ S14.out.1 (by omega)).mono ?_
  rintro e w16 ⟨rfl, hw⟩
  obtain rfl := hw
  go_wp2
  go_ret
  exact ⟨rfl, S14.out.2.1⟩
end Go.Proofs.YtjbpkflladkdnaaDoor
