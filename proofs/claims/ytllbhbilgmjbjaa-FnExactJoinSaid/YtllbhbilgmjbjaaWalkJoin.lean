/- DERIVED. The walk of the law FnExactJoin, by contracts. -/
import Derived.Test.YtllbhbilgmjbjaaJoinI
import Derived.Test.YtllbhbilgmjbjaaToS
import Derived.Test.YtllbhbilgmjbjaaStrS
namespace Go.Proofs.Ytllbhbilgmjbjaa
open Go.RowKit
set_option maxRecDepth 100000 in
set_option maxHeartbeats 2000000 in
theorem walkFnExactJoin (a : Option Addr) (len cap : Nat) (zs : List ByteArray) (b : ByteArray) (w : World) (hz : IsStrs w a len cap zs) (hb : b.size ≤ maxLen) :
    Calls Try.prog 5 #[.slice a len cap, .string b] w fun e w' => e = .returned (.bool true) ∧ Below w.heap.size w w' := by
  have hb' := hb
  unfold maxLen at hb'
  have hlz := (isStrs_rd hz).1
  have hr := (isStrs_rd hz).2
  have hsz : ∀ x ∈ zs.take len, x.size ≤ maxLen := by
    rcases hz with ⟨rfl, rfl, rfl, rfl⟩ | ⟨_, _, _, _, _, _, _, h⟩
    · simp
    · exact fun x hx => h x (List.mem_of_mem_take hx)
  generalize hxs : zs.take len = xs at hr hsz
  have hlen : xs.length = len := by rw [← hxs]; simp; omega
  have hlm : xs.length ≤ maxLen := by simpa using hr.1
  unfold maxLen at hlm
  clear hz hxs
  have HR := Lib.hid hr
  have HS := Lib.hid hsz
  clear hr hsz
  subst hlen
  by_cases hbig : (1048576 : Int) < b.size
  · go_enter Try.func5, Try.ntmps5
    go_wp2
    go_ret
    exact ⟨rfl, Below.refl _ _⟩
  by_cases hfit : xs.length + tot xs ≤ 1048576
  · have hv := szV_yes hfit
    have hpos : ¬ szV xs 1048576 < 0 := by rw [hv]; omega
    clear hv
    have ht : tot xs ≤ 1073741824 := by omega
    have hl1 : xs.length ≤ 1048576 := by omega
    generalize hsv : szV xs 1048576 = sv at hpos
    have HV := Lib.hid hsv
    have HT := Lib.hid ht
    clear hsv ht hfit
    have hb1 : b.size ≤ 1048576 := by omega
    go_enter Try.func5, Try.ntmps5
    go_wp2_with fail
    refine (szS_any xs _ 1048576 _ HR.out (by omega) HS.out).mono ?_
    rintro e w' ⟨rfl, rfl⟩
    rw [HV.out]
    go_wp2_with fail
    refine (toS_any xs _ _ HR.out (by omega)).mono ?_
    rintro e w1 ⟨v1, rfl, o1, b1⟩
    have R1 := Lib.hid (own_rd o1 (by unfold maxLen; omega)); clear o1
    have A1 := Lib.hid (HR.out.below b1 (Nat.le_refl _))
    have B1 := Lib.hid b1; clear b1
    go_wp2_with fail
    refine (specJoin_any xs b _ _ R1.out HT.out hl1 hb1).mono ?_
    rintro e w' ⟨rfl, rfl⟩
    go_wp2_with fail
    refine (toS_any xs _ _ A1.out (by omega)).mono ?_
    rintro e w2 ⟨v2, rfl, o2, b2⟩
    have R2 := Lib.hid (own_rd o2 (by unfold maxLen; omega)); clear o2
    have A2 := Lib.hid (A1.out.below b2 (Nat.le_refl _))
    have B2 := Lib.hid (B1.out.trans (b2.mono B1.out.size)); clear b2
    go_wp2_with fail
    refine (implJoin_any xs b _ _ R2.out HT.out hl1 hb1).mono ?_
    rintro e w3 ⟨rfl, b3⟩
    have R3 := Lib.hid (R2.out.below b3 (Nat.le_refl _))
    have A3 := Lib.hid (A2.out.below b3 (Nat.le_refl _))
    have B3 := Lib.hid (B2.out.trans (b3.mono B2.out.size)); clear b3
    generalize joinB xs b = jb
    go_wp2_with fail
    refine (toS_any xs _ _ A3.out (by omega)).mono ?_
    rintro e w4 ⟨v4, rfl, o4, b4⟩
    have R4 := Lib.hid (own_rd o4 (by unfold maxLen; omega)); clear o4
    have R5 := Lib.hid (R3.out.below b4 (Nat.le_refl _))
    have B4 := Lib.hid (B3.out.trans (b4.mono B3.out.size)); clear b4
    go_wp2_with fail
    refine (eqS_any xs xs _ _ _ R5.out R4.out).mono ?_
    rintro e w5 ⟨rfl, n5, rfl⟩
    rw [decide_eq_true rfl]
    have B5 := Lib.hid (below_drewN B4.out n5)
    go_wp2
    go_ret
    exact ⟨rfl, B5.out⟩
  · have hv := szV_no (xs := xs) (left := 1048576) (by omega)
    have HV := Lib.hid hv
    clear hv
    go_enter Try.func5, Try.ntmps5
    go_wp2_with fail
    refine (szS_any xs _ 1048576 _ HR.out (by omega) HS.out).mono ?_
    rintro e w' ⟨rfl, rfl⟩
    rw [HV.out]
    go_wp2
    go_ret
    exact ⟨rfl, Below.refl _ _⟩
end Go.Proofs.Ytllbhbilgmjbjaa
