/- DERIVED. CONTRACTS: spec.MakeNum, spec.l02Any, spec.MakeList. -/
import Derived.Test.YtnbkiobbacaaiaaGreatDoorCur
import Derived.Test.YtnbkiobbacaaiaaGreatDoorSets
import Derived.Test.YtnbkiobbacaaiaaGreatDoorNum
namespace Go.Proofs.YtnbkiobbacaaiaaGreatDoor
open Go.RowKit

/-- A short list of small numbers. -/
def Few (xs : List Int) : Prop := xs.length ≤ 5 ∧ ∀ x ∈ xs, 0 ≤ x ∧ x < 8
theorem few_set {xs : List Int} (h : Few xs) : Few (setB xs) :=
  ⟨Nat.le_trans (len_setB _) h.1, fun x hx => h.2 x ((mem_setB _ _).1 hx)⟩
theorem few_snoc {xs : List Int} {m : Nat} {r : Int} (h : Few xs) (hm : xs.length + (m + 1) ≤ 5) (h0 : 0 ≤ r) (h8 : r < 8) : Few (xs ++ [r]) :=
  ⟨by simp; omega, fun x hx => by
    rcases List.mem_append.1 hx with hx | hx
    · exact h.2 x hx
    · simp at hx; subst hx; exact ⟨h0, h8⟩⟩

set_option maxRecDepth 100000 in
set_option maxHeartbeats 2000000 in
theorem any_any (g : Nat) (A : Option Addr) (c : Nat) (bs : List Int) (W0 w : World) (h : Drw W0 w g A c bs) :
    Calls Tryz.prog 23 #[.pointer (some ⟨g, 0, none⟩)] w fun e w' => ∃ v' xs, e = .returned v' ∧ Few xs ∧ w'.ownsRow w.heap.size 3 1 v' xs.length (xs.map (.int .i64)) ∧ Drw W0 w' g A c bs ∧ w.grownBy w' (some g) := by
  have hg0 : g < w.heap.size := h.cur.lt
  have hown0 : (w.alloc (.cells #[] 3)).ownsRow w.heap.size 3 1 (.slice (some ⟨w.heap.size, 0, none⟩) 0 0) 0 [] := World.ownsRow_made w #[] 0 (Nat.le_refl _) (by decide) rfl
  have H0 := Lib.hid (And.intro hown0 (And.intro (h.below ((Below.refl _ _).alloc (Nat.le_refl _) (.cells #[] 3))) (World.grownBy_alloc w (.cells #[] 3) (some g))))
  clear h hown0
  go_enter Tryz.func23, Tryz.ntmps23
  go_wp2_with fail
  refine (below_small 6 (by omega) (by omega) g A c bs W0 _ H0.out.2.1).mono ?_
  rintro e w1 ⟨r, rfl, hr1, hr2, hd, hg⟩
  have H1 := Lib.hid (And.intro (own_grown H0.out.1 hg (fun k hk => .inr (by cases hk; simp [Value.ownBlock]; omega))) (And.intro hd (H0.out.2.2.trans hg)))
  clear hd hg H0
  obtain ⟨m, rfl⟩ : ∃ m : Nat, r = m := ⟨r.toNat, by omega⟩
  go_wp2
  go_loopw [3, 4] (fun out i wr => ∃ (q : Nat) (xs : List Int), i = .int .i64 q ∧ xs.length + q ≤ 5 ∧ Few xs ∧ wr.ownsRow w.heap.size 3 1 out xs.length (xs.map (.int .i64)) ∧ Drw W0 wr g A c bs ∧ w.grownBy wr (some g)) (fun _ i _ => (intOf i).toNat)
  case atStart => exact ⟨m, [], rfl, by simp; omega, ⟨by simp, by simp⟩, H1.out.1, H1.out.2.1, H1.out.2.2⟩
  case round =>
    obtain ⟨q, xs, rfl, hq, hf, hown, hd, hg⟩ := hrel
    have HF := Lib.hid hf
    have HD := Lib.hid (And.intro hd hg)
    have HO := Lib.hid hown
    clear hf hd hg hown
    by_cases hq0 : q = 0
    · subst hq0
      go_wp2_with fail
      refine (once_any 2 (by omega) (by omega) g A c bs W0 _ HD.out.1).mono ?_
      rintro e w2 ⟨r, rfl, hd2, hg2⟩
      have H2 := Lib.hid (And.intro (own_grown HO.out hg2 (fun k hk => .inr (by cases hk; intro e; have := own_mem HO.out _ e; omega))) (And.intro hd2 (HD.out.2.trans hg2)))
      clear hd2 hg2
      rcases r with _ | _
      · go_wp2
        go_ret
        exact ⟨_, xs, rfl, HF.out, H2.out.1, H2.out.2.1, H2.out.2.2⟩
      · have hlx : xs.length ≤ 5 := HF.out.1
        go_wp2_with fail
        refine (specSetOf_any xs _ _ (own_rd H2.out.1 (by unfold maxLen; omega)) (by omega)).mono ?_
        rintro e w3 ⟨v3, rfl, o3, _, b3⟩
        have H3 := Lib.hid (And.intro (own_base o3 H2.out.2.2.size) (And.intro (H2.out.2.1.below b3) (H2.out.2.2.trans (grown_below b3 (Nat.le_refl _) _))))
        clear o3 b3
        go_wp2
        go_ret
        exact ⟨_, _, rfl, few_set HF.out, H3.out.1, H3.out.2.1, H3.out.2.2⟩
    · obtain ⟨p, rfl⟩ : ∃ p, q = p + 1 := ⟨q - 1, by omega⟩
      have hpos : (0 : Int) < ((p + 1 : Nat) : Int) := by omega
      clear hq0
      go_wp2_with fail
      refine (below_small 8 (by omega) (by omega) g A c bs W0 _ HD.out.1).mono ?_
      rintro e w2 ⟨r, rfl, hr1, hr2, hd2, hg2⟩
      have H2 := Lib.hid (And.intro (own_grown HO.out hg2 (fun k hk => .inr (by cases hk; intro e; have := own_mem HO.out _ e; omega))) (And.intro hd2 (HD.out.2.trans hg2)))
      have F2 := Lib.hid (few_snoc HF.out hq hr1 hr2)
      clear hd2 hg2
      go_wp2_with (first
        | (at_builtin; refine app_rd rfl (.tmp 12) (.tmp 15) 26 rfl rfl w.heap.size _ _ xs [r] rfl rfl (by exact H2.out.1.alloc _) (by exact rd_new _ r _) (nilOk_some _ _ _) (by simp; omega) (by have := H2.out.2.2.size; simp; omega) ?_; intro v3 w3 hown3 hg3 _
           have S3 := Lib.hid (And.intro hown3 (And.intro ((H2.out.2.1.below ((Below.refl _ _).alloc (Nat.le_refl _) _)).kept hg3 (fun i hi => Nat.le_trans H2.out.2.1.le (Nat.le_trans (Nat.le_of_lt hg0) (own_mem H2.out.1 i hi))) (fun e => absurd (own_mem H2.out.1 _ e) (by omega))) (grown_then (H2.out.2.2.trans (World.grownBy_alloc _ _ _)) hg3 (fun j hj => .inl (own_mem H2.out.1 j hj)))))
           clear hown3 hg3))
      go_roundw
      case rel => exact ⟨p, xs ++ [r], by go_num, by simp; omega, F2.out, S3.out.1, S3.out.2.1, S3.out.2.2⟩
      case measure => simp [intOf]

theorem makeList_any (turn : Int) (A : Option Addr) (c : Nat) (bs : List Int) (w : World) (hr : Rd w (.slice A bs.length c) (bs.map (.int .u8))) (hu : ∀ b ∈ bs, 0 ≤ b ∧ b ≤ 255) (hl : bs.length ≤ 1048576) :
    Calls Tryz.prog 7 #[.slice A bs.length c, .int .i64 turn] w fun e w' => ∃ v' xs, e = .returned v' ∧ Few xs ∧ w'.ownsRow w.heap.size 3 1 v' xs.length (xs.map (.int .i64)) ∧ Below w.heap.size w w' := by
  have H0 := Lib.hid (new_any A c bs w hr hu hl)
  clear hr hu
  go_enter Tryz.func7, Tryz.ntmps7
  go_wp2_with fail
  refine H0.out.mono ?_
  rintro e w1 ⟨rfl, hd, hb⟩
  obtain ⟨h, hseed⟩ := hd.cur.seed
  have hf2 := hd.cur.fr.2
  have K := Lib.hid (fun x => hd.step (hd.cur.setSeed x) (grown_set (World.grownBy.refl w1 (some w.heap.size)) ⟨w.heap.size, 2, none⟩ rfl (.int .i64 x)))
  clear hd hb H0
  go_wp2_with fail
  generalize hW : World.setCell w1 ⟨w.heap.size, 2, none⟩ _ = w2
  have K2 := Lib.hid (show Drw w w2 w.heap.size A c bs by rw [← hW]; exact K.out _)
  clear hW K hseed hf2
  refine (any_any _ A c bs w _ K2.out).mono ?_
  rintro e w3 ⟨v3, xs, rfl, hf, ho, hd3, hg3⟩
  have K3 := Lib.hid (And.intro hf (And.intro (own_base ho K2.out.bel.size) hd3.bel))
  clear hf ho hd3 hg3
  go_wp2
  go_ret
  exact ⟨_, _, rfl, K3.out.1, K3.out.2.1, K3.out.2.2⟩
end Go.Proofs.YtnbkiobbacaaiaaGreatDoor
