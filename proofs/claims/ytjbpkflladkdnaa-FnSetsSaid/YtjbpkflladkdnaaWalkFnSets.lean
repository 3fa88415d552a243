/- DERIVED. The walk of the law FnSets, by contracts. -/
import Derived.Test.YtjbpkflladkdnaaSetE
import Derived.Test.YtjbpkflladkdnaaSetF
import Derived.Test.YtjbpkflladkdnaaSetB
import Derived.Test.YtjbpkflladkdnaaAny
import Derived.Test.YtjbpkflladkdnaaBts
import Derived.Test.YtjbpkflladkdnaaSt
namespace Go.Proofs.Ytjbpkflladkdnaa
open Go.RowKit

theorem law_asc (a b : List Int) : ascB (setB (a ++ b)) = true := ascB_of (asc_setB _)
theorem law_sub1 (a b : List Int) : subB a (setB (a ++ b)) = true := by
  simp only [subB, List.all_eq_true]
  intro x hx
  simp [mem_setB, hx]
theorem law_sub2 (a b : List Int) : subB (interB a b) b = true := by
  simp only [subB, List.all_eq_true]
  intro x hx
  simp [interB, mem_setB] at hx
  simp [hx.2]
theorem law_eq1 (a b : List Int) : setB (diffB a b ++ interB a b) = setB a :=
  asc_eq (asc_setB _) (asc_setB _) fun x => by
    simp only [mem_setB, List.mem_append, diffB, interB, List.mem_filter, Bool.not_eq_true', List.contains_eq_mem, decide_eq_false_iff_not, decide_eq_true_eq]
    constructor
    · rintro (h | h)
      · exact h.1
      · exact h.1
    · intro h
      by_cases hb : x ∈ b
      · exact .inr ⟨h, hb⟩
      · exact .inl ⟨h, hb⟩
theorem law_eq2 (a b : List Int) : setB (b ++ a) = setB (a ++ b) :=
  asc_eq (asc_setB _) (asc_setB _) fun x => by simp only [mem_setB, List.mem_append]; exact Or.comm
theorem law_none (a b : List Int) : interB (diffB a b) b = [] := by
  rw [List.eq_nil_iff_forall_not_mem]
  intro x hx
  simp [interB, diffB, mem_setB] at hx
  exact hx.1.2 hx.2
theorem law_add (a : List Int) (n : Int) : hasB (putB (setB a) n) n = true := by
  simp [hasB, mem_putB]
theorem law_rem (a : List Int) (n : Int) : hasB (pickB (neB n) a) n = false := by
  simp [hasB, pickB, neB]
theorem law_up (n : Int) (h0 : 0 ≤ n) (h8 : n < 8) : ((rangeB n).length : Int) = n := by
  unfold rangeB
  rw [if_pos ⟨h0, by omega⟩, upB_len]
  omega
theorem eqB_self (a : List Int) : eqB a a = true := by simp [eqB]

set_option maxRecDepth 100000 in
set_option maxHeartbeats 4000000 in
theorem walkFnSets (c0 : Option Addr) (len0 cap0 : Nat) (zs0 : List Int) (w : World) (hz0 : IsBytes w c0 len0 cap0 zs0) :
    Calls Try.prog 3 #[.slice c0 len0 cap0] w fun e w' => e = .returned (.bool true) ∧ Below w.heap.size w w' := by
  have hlz0 := (isBytes_rd hz0).1
  have hr0 := (isBytes_rd hz0).2
  generalize hxs0 : zs0.take len0 = bs at hr0
  have hlen0 : bs.length = len0 := by rw [← hxs0]; simp; omega
  have hlm0 : bs.length ≤ maxLen := by simpa using hr0.1.1
  unfold maxLen at hlm0
  clear hz0 hxs0
  have HR := Lib.hid hr0
  clear hr0
  subst hlen0
  by_cases hbig0 : (1048576 : Int) < bs.length
  · go_enter Try.func3, Try.ntmps3
    go_wp2
    go_ret
    exact ⟨rfl, Below.refl _ _⟩
  have hl0 : bs.length ≤ 1048576 := by omega
  clear hbig0
  have S0 := Lib.hid (St.start w)
  go_enter Try.func3, Try.ntmps3
  go_wp2_with fail
  refine (makeList_any 1 c0 _ bs _ (by exact S0.out.old HR.out.1) HR.out.2 hl0).mono ?_
  rintro e w1 ⟨va, a, rfl, hfa, o, b⟩
  have S1 := Lib.hid (S0.out.new o b)
  have hla : a.length ≤ 5 := hfa.1
  clear S0 o b hfa
  go_wp2_with fail
  refine (makeList_any 2 c0 _ bs _ (by exact S1.out.old HR.out.1) HR.out.2 hl0).mono ?_
  rintro e w2 ⟨vb, b, rfl, hfb, o, bb⟩
  have S2 := Lib.hid (S1.out.new o bb)
  have hlb : b.length ≤ 5 := hfb.1
  clear S1 o bb hfb
  have E1 := Lib.hid (law_asc a b)
  have E2 := Lib.hid (law_sub1 a b)
  have E3 := Lib.hid (law_sub2 a b)
  have E4 := Lib.hid (law_eq1 a b)
  have E5 := Lib.hid (law_eq2 a b)
  have E6 := Lib.hid (law_none a b)
  have E7 := Lib.hid (law_add a)
  have E8 := Lib.hid (law_rem a)
  have lj : (setB (a ++ b)).length ≤ 10 := by have := len_setB (a ++ b); simp at this; omega
  have lm : (interB a b).length ≤ 5 := Nat.le_trans (len_setB _) (Nat.le_trans (List.length_filter_le _ _) hla)
  have ll : (diffB a b).length ≤ 5 := Nat.le_trans (len_setB _) (Nat.le_trans (List.length_filter_le _ _) hla)
  go_wp2_with fail
  refine (implUnion_any a b va vb _ (by exact S2.out.rd 1 rfl (by unfold maxLen; omega)) (by exact nilOk_own (S2.out.own 1 rfl)) (by exact S2.out.rd 0 rfl (by unfold maxLen; omega)) (by exact nilOk_own (S2.out.own 0 rfl)) (by omega)).mono ?_
  rintro e w3 ⟨vj, rfl, o, bb⟩
  have S3 := Lib.hid (S2.out.new o bb)
  clear S2 o bb
  go_wp2_with fail
  refine (implInter_any a b va vb _ (by exact S3.out.rd 2 rfl (by unfold maxLen; omega)) (by exact nilOk_own (S3.out.own 2 rfl)) (by exact S3.out.rd 1 rfl (by unfold maxLen; omega)) (by exact nilOk_own (S3.out.own 1 rfl)) (by omega) (by omega)).mono ?_
  rintro e w4 ⟨vm, rfl, o, bb⟩
  have S4 := Lib.hid (S3.out.new o bb)
  clear S3 o bb
  go_wp2_with fail
  refine (implDiff_any a b va vb _ (by exact S4.out.rd 3 rfl (by unfold maxLen; omega)) (by exact nilOk_own (S4.out.own 3 rfl)) (by exact S4.out.rd 2 rfl (by unfold maxLen; omega)) (by exact nilOk_own (S4.out.own 2 rfl)) (by omega) (by omega)).mono ?_
  rintro e w5 ⟨vl, rfl, o, bb⟩
  have S5 := Lib.hid (S4.out.new o bb)
  clear S4 o bb
  go_wp2_with fail
  refine (makeNum_small 8 (by omega) (by omega) c0 _ bs _ (by exact S5.out.old HR.out.1) HR.out.2 hl0).mono ?_
  rintro e w6 ⟨n, rfl, hn0, hn8, bb⟩
  have S6 := Lib.hid (S5.out.go bb)
  clear S5 bb
  generalize hj : setB (a ++ b) = j at S6 E1 E2 E5 lj
  generalize hm : interB a b = m at S6 E3 E4 lm
  generalize hd : diffB a b = l at S6 E4 E6 ll
  have EJ := Lib.hid hj
  clear hj hm hd
  -- SetOk(j)
  go_wp2_with fail
  refine (implOk_any j vj _ (by exact S6.out.rd 2 rfl (by unfold maxLen; omega))).mono ?_
  rintro e w7 ⟨rfl, bb⟩
  rw [E1.out]
  have S7 := Lib.hid (S6.out.go bb)
  clear S6 bb
  -- SetSubset(a, j)
  go_wp2_with fail
  refine (implSubset_any a j va vj _ (by exact S7.out.rd 4 rfl (by unfold maxLen; omega)) (by exact nilOk_own (S7.out.own 4 rfl)) (by exact S7.out.rd 2 rfl (by unfold maxLen; omega)) (by exact nilOk_own (S7.out.own 2 rfl)) (by omega) (by omega)).mono ?_
  rintro e w8 ⟨rfl, bb⟩
  rw [E2.out]
  have S8 := Lib.hid (S7.out.go bb)
  clear S7 bb
  -- SetSubset(m, b)
  go_wp2_with fail
  refine (implSubset_any m b vm vb _ (by exact S8.out.rd 1 rfl (by unfold maxLen; omega)) (by exact nilOk_own (S8.out.own 1 rfl)) (by exact S8.out.rd 3 rfl (by unfold maxLen; omega)) (by exact nilOk_own (S8.out.own 3 rfl)) (by omega) (by omega)).mono ?_
  rintro e w9 ⟨rfl, bb⟩
  rw [E3.out]
  have S9 := Lib.hid (S8.out.go bb)
  clear S8 bb
  -- SetUnion(l, m)
  go_wp2_with fail
  refine (implUnion_any l m vl vm _ (by exact S9.out.rd 0 rfl (by unfold maxLen; omega)) (by exact nilOk_own (S9.out.own 0 rfl)) (by exact S9.out.rd 1 rfl (by unfold maxLen; omega)) (by exact nilOk_own (S9.out.own 1 rfl)) (by omega)).mono ?_
  rintro e w10 ⟨vq, rfl, o, bb⟩
  rw [E4.out] at o
  have S10 := Lib.hid (S9.out.new o bb)
  clear S9 o bb
  have lq := len_setB a
  go_wp2_with fail
  refine (implSetOf_any a va _ (by exact S10.out.rd 5 rfl (by unfold maxLen; omega)) (by exact nilOk_own (S10.out.own 5 rfl)) (by omega)).mono ?_
  rintro e w11 ⟨vs, rfl, o, bb⟩
  have S11 := Lib.hid (S10.out.new o bb)
  clear S10 o bb
  go_wp2_with fail
  refine (implEqual_any (setB a) (setB a) vq vs _ (by exact S11.out.rd 1 rfl (by unfold maxLen; omega)) (by exact S11.out.rd 0 rfl (by unfold maxLen; omega))).mono ?_
  rintro e w12 ⟨rfl, bb⟩
  rw [eqB_self]
  have S12 := Lib.hid (S11.out.go bb)
  clear S11 bb
  -- SetUnion(b, a)
  go_wp2_with fail
  refine (implUnion_any b a vb va _ (by exact S12.out.rd 5 rfl (by unfold maxLen; omega)) (by exact nilOk_own (S12.out.own 5 rfl)) (by exact S12.out.rd 6 rfl (by unfold maxLen; omega)) (by exact nilOk_own (S12.out.own 6 rfl)) (by omega)).mono ?_
  rintro e w13 ⟨vk, rfl, o, bb⟩
  rw [E5.out] at o
  have S13 := Lib.hid (S12.out.new o bb)
  clear S12 o bb
  go_wp2_with fail
  refine (implEqual_any j j vj vk _ (by exact S13.out.rd 5 rfl (by unfold maxLen; omega)) (by exact S13.out.rd 0 rfl (by unfold maxLen; omega))).mono ?_
  rintro e w14 ⟨rfl, bb⟩
  rw [eqB_self]
  have S14 := Lib.hid (S13.out.go bb)
  clear S13 bb
  -- SetIntersection(l, b)
  go_wp2_with fail
  refine (implInter_any l b vl vb _ (by exact S14.out.rd 3 rfl (by unfold maxLen; omega)) (by exact nilOk_own (S14.out.own 3 rfl)) (by exact S14.out.rd 6 rfl (by unfold maxLen; omega)) (by exact nilOk_own (S14.out.own 6 rfl)) (by omega) (by omega)).mono ?_
  rintro e w15 ⟨vz, rfl, o, bb⟩
  rw [E6.out] at o
  have S15 := Lib.hid (S14.out.new o bb)
  obtain ⟨_, Az, cz, rfl, _⟩ := own_rd o (by simp)
  clear S14 o bb
  simp only [List.map_nil, List.length_nil] at S15
  -- SetAdd(a, n)
  go_wp2_with fail
  refine (implAdd_any a n va _ (by exact S15.out.rd 8 rfl (by unfold maxLen; omega)) (by exact nilOk_own (S15.out.own 8 rfl)) (by omega)).mono ?_
  rintro e w16 ⟨vp, rfl, o, bb⟩
  have S16 := Lib.hid (S15.out.new o bb)
  have lp := len_put (setB a) n
  have EP := Lib.hid (E7.out n)
  clear S15 o bb E7
  generalize putB (setB a) n = p at S16 lp EP
  go_wp2_with fail
  refine (implHas_any p n vp _ (by exact S16.out.rd 0 rfl (by unfold maxLen; omega))).mono ?_
  rintro e w17 ⟨rfl, hw⟩
  obtain rfl := hw
  rw [EP.out]
  have S17 := S16
  clear S16
  -- SetRemove(a, n)
  go_wp2_with fail
  refine (implRemove_any a n va _ (by exact S17.out.rd 9 rfl (by unfold maxLen; omega)) (by omega)).mono ?_
  rintro e w18 ⟨vr, rfl, o, bb⟩
  have S18 := Lib.hid (S17.out.new o bb)
  have lr : (pickB (neB n) a).length ≤ 5 := Nat.le_trans (List.length_filter_le _ _) hla
  have ER := Lib.hid (E8.out n)
  clear S17 o bb E8
  generalize pickB (neB n) a = r at S18 lr ER
  go_wp2_with fail
  refine (implHas_any r n vr _ (by exact S18.out.rd 0 rfl (by unfold maxLen; omega))).mono ?_
  rintro e w19 ⟨rfl, hw⟩
  obtain rfl := hw
  rw [ER.out]
  have S19 := S18
  clear S18
  -- IntRange(n)
  go_wp2_with fail
  refine (implRange_any n _).mono ?_
  rintro e w20 ⟨vu, rfl, o, bb⟩
  have S20 := Lib.hid (S19.out.go bb)
  obtain ⟨_, Au, cu, rfl, _⟩ := own_rd o (by have := law_up n hn0 hn8; unfold maxLen; omega)
  clear S19 o bb
  have hu := law_up n hn0 hn8
  rw [List.length_map]
  generalize (rangeB n).length = q at hu ⊢
  subst hu
  go_wp2
  go_ret
  exact ⟨rfl, S20.out.1⟩
end Go.Proofs.Ytjbpkflladkdnaa
