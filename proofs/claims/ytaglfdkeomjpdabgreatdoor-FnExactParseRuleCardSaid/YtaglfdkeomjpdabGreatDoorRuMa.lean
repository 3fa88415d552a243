/- DERIVED. Mathematics: a schedule that violates no listed rule violates none; what is violated is a rule. No dump. -/
import Derived.Test.YtaglfdkeomjpdabGreatDoorCore
import Derived.Test.YtaglfdkeomjpdabGreatDoorDats
import Derived.Test.YtaglfdkeomjpdabGreatDoorMaths
import Derived.Test.YtaglfdkeomjpdabGreatDoorRuA

section
namespace Go.Proofs.YtaglfdkeomjpdabGreatDoor
open Go.RowKit
set_option linter.unusedVariables false

def ruNames : List ByteArray := [⟨#[110, 111, 110, 101]⟩, ⟨#[108, 105, 110, 107]⟩, ⟨#[101, 110, 100]⟩, ⟨#[116, 105, 109, 101]⟩, ⟨#[119, 111, 114, 107]⟩, ⟨#[112, 97, 105, 114]⟩, ⟨#[115, 116, 111, 99, 107]⟩]
def ruNm (k : Int) : ByteArray := if 0 ≤ k ∧ k ≤ 6 then ruNames.getD k.toNat ⟨#[]⟩ else ⟨#[]⟩
theorem ruNm_no {k : Int} (h : ¬ (0 ≤ k ∧ k ≤ 6)) : ruNm k = ⟨#[]⟩ := by rw [ruNm, if_neg h]
theorem ruNm_yes {n : Nat} (h : n < ruNames.length) : ruNm (n : Int) = ruNames[n] := by
  have h7 : ruNames.length = 7 := rfl
  rw [ruNm, if_pos (by omega), List.getD, Int.toNat_natCast, List.getElem?_eq_getElem h]; rfl
theorem ret_strZ {a b : ByteArray} (h : a = b) : Ending.returned (.string a) = Ending.returned (.string b) := by rw [h]

set_option maxRecDepth 100000 in
set_option maxHeartbeats 8000000 in
theorem elemS_no (l : List ByteArray) (i : Int) (v : Value) (w : World) (hr : Rd w v (l.map .string)) (h : ¬ (0 ≤ i ∧ i < (l.length : Int))) :
    Calls Tryz.prog 72 #[v, .int .i64 i] w fun e w' => e = .returned (.tuple #[.string ⟨#[]⟩, .bool false]) ∧ w = w' := by
  obtain ⟨hl, A, c, rfl, _⟩ := hr
  rw [List.length_map]
  clear hl
  by_cases h0 : i < 0
  · clear h
    go_enter Tryz.func72, Tryz.ntmps72
    go_wp2
    go_ret2
    exact ⟨rfl, rfl⟩
  · have h1 : (l.length : Int) ≤ i := by omega
    clear h
    go_enter Tryz.func72, Tryz.ntmps72
    go_wp2
    go_ret2
    exact ⟨rfl, rfl⟩
set_option maxRecDepth 100000 in
set_option maxHeartbeats 8000000 in
theorem elemS_yes (l : List ByteArray) (n : Nat) (hn : n < l.length) (v : Value) (w : World) (hr : Rd w v (l.map .string)) :
    Calls Tryz.prog 72 #[v, .int .i64 (n : Int)] w fun e w' => e = .returned (.tuple #[.string l[n], .bool true]) ∧ w = w' := by
  obtain ⟨A, c, rfl, ha⟩ := rdS_at hr
  obtain ⟨b, o, rfl, hb, hc⟩ := ha n hn
  have hx := hc n hn
  have h0 : (0 : Int) ≤ (n : Int) := by omega
  have h1 : (n : Int) < (l.length : Int) := by omega
  clear ha hc hr
  generalize l[n] = x at hx ⊢
  go_enter Tryz.func72, Tryz.ntmps72
  go_wp2
  go_ret2
  exact ⟨rfl, rfl⟩
theorem newRow_any (w : World) (T : TypeId) (l : List ByteArray) (hl : l.length ≤ maxLen) : Rd (w.alloc (.cells ⟨l.map .string⟩ T)) (.slice (some ⟨w.heap.size, 0, none⟩) l.length l.length) (l.map .string) :=
  ⟨by simpa using hl, _, _, by rw [List.length_map], .inr ⟨w.heap.size, 0, rfl, by simp, fun j hj => by
    rw [World.cell?_alloc_at _ _ _ _ rfl]
    have hj' : j < l.length := by simpa using hj
    simp [hj']⟩⟩
set_option maxRecDepth 100000 in
set_option maxHeartbeats 8000000 in
theorem ruleNames_any (w : World) :
    Calls Tryz.prog 26 #[] w fun e w' => ∃ u, e = .returned u ∧ Rd w' u (ruNames.map .string) ∧ Below w.heap.size w w' := by
  go_enter Tryz.func26, Tryz.ntmps26
  go_wp2
  go_ret
  first
    | exact ⟨_, rfl, newRow_any w _ ruNames (by decide), (Below.refl _ _).alloc (Nat.le_refl _) _⟩
    | exact ⟨newRow_any w _ ruNames (by decide), (Below.refl _ _).alloc (Nat.le_refl _) _⟩
set_option maxRecDepth 100000 in
set_option maxHeartbeats 8000000 in
theorem implRuleName_any (k : Int) (w : World) :
    Calls Tryz.prog 48 #[.int .i64 k] w fun e w' => e = .returned (.string (ruNm k)) ∧ Below w.heap.size w w' := by
  generalize hres : ruNm k = res
  have RES := Lib.hid hres
  clear hres
  go_enter Tryz.func48, Tryz.ntmps48
  go_wp2_with fail
  refine (ruleNames_any _).mono ?_
  rintro e w1 ⟨u, rfl, hr, b⟩
  have HR := Lib.hid hr
  have HB := Lib.hid b
  clear hr b
  go_wp2_with fail
  by_cases hk : 0 ≤ k ∧ k < (ruNames.length : Int)
  · obtain ⟨n, rfl⟩ : ∃ n : Nat, k = (n : Int) := ⟨k.toNat, by omega⟩
    have hn : n < ruNames.length := by omega
    have HN := Lib.hid (ruNm_yes hn)
    refine (elemS_yes ruNames n hn _ _ HR.out).mono ?_
    rintro e w2 ⟨rfl, rfl⟩
    generalize ruNames[n] = x at HN
    clear hk hn
    go_wp2
    go_ret
    exact ⟨ret_strZ (by rw [← RES.out, HN.out]), HB.out⟩
  · have HN := Lib.hid (ruNm_no (k := k) (by have h7 : ruNames.length = 7 := rfl; omega))
    refine (elemS_no ruNames k _ _ HR.out hk).mono ?_
    rintro e w2 ⟨rfl, rfl⟩
    clear hk
    go_wp2
    go_ret
    exact ⟨ret_strZ (by rw [← RES.out, HN.out]), HB.out⟩
set_option maxRecDepth 100000 in
set_option maxHeartbeats 8000000 in
theorem specRuleName_any (k : Int) (w : World) :
    Calls Tryz.prog 15 #[.int .i64 k] w fun e w' => e = .returned (.string (ruNm k)) ∧ Below w.heap.size w w' := by
  by_cases hk : 0 ≤ k ∧ k ≤ 6
  · obtain ⟨n, rfl⟩ : ∃ n : Nat, k = (n : Int) := ⟨k.toNat, by omega⟩
    have hn : n = 0 ∨ n = 1 ∨ n = 2 ∨ n = 3 ∨ n = 4 ∨ n = 5 ∨ n = 6 := by omega
    rcases hn with rfl | rfl | rfl | rfl | rfl | rfl | rfl
    all_goals
      clear hk
      go_enter Tryz.func15, Tryz.ntmps15
      go_wp2_with fail
      refine (l01In_any _ 0 6 _).mono ?_
      rintro e w2 ⟨rfl, rfl⟩
      go_wp2
      go_ret
      exact ⟨rfl, (Below.refl _ _).alloc (Nat.le_refl _) _⟩
  · rw [ruNm_no hk]
    go_enter Tryz.func15, Tryz.ntmps15
    go_wp2_with fail
    refine (l01In_any k 0 6 _).mono ?_
    rintro e w2 ⟨rfl, rfl⟩
    rw [show (decide (0 ≤ k) && decide (k ≤ 6)) = false from inB_no hk]
    go_wp2
    go_ret
    exact ⟨rfl, Below.refl _ _⟩
end Go.Proofs.YtaglfdkeomjpdabGreatDoor
end

section
namespace Go.Proofs.YtaglfdkeomjpdabGreatDoor
open Go.RowKit
set_option linter.unusedVariables false

theorem list_lnk {p : Pj} {k : Nat} (h : k < p.lks.length) : Cd.lnk (k : Int) ∈ listC p := by
  simp only [listC, List.mem_append]
  exact .inl (.inl (.inl (.inl (List.mem_map.2 ⟨k, List.mem_range.2 h, rfl⟩))))
theorem list_fin {p : Pj} {k : Nat} (h : k < p.acts.length) : Cd.fin (k : Int) ∈ listC p := by
  simp only [listC, List.mem_append]
  exact .inl (.inl (.inl (.inr (List.mem_map.2 ⟨k, List.mem_range.2 h, rfl⟩))))
theorem list_tim {p : Pj} {r t : Nat} (h : r < p.ress.length) (ht : t ≤ 60) : Cd.tim (r : Int) (t : Int) ∈ listC p := by
  simp only [listC, List.mem_append]
  exact .inl (.inl (.inr (List.mem_flatMap.2 ⟨r, List.mem_range.2 h, List.mem_map.2 ⟨t, List.mem_range.2 (by omega), rfl⟩⟩)))
theorem list_par {p : Pj} {r b c : Nat} (h : r < p.ress.length) (hm : machB p (r : Int) = true) (hb : b < c) (hc : c < p.acts.length) : Cd.par (r : Int) (b : Int) (c : Int) ∈ listC p := by
  simp only [listC, List.mem_append]
  refine .inl (.inr (List.mem_flatMap.2 ⟨r, List.mem_range.2 h, ?_⟩))
  rw [pairL, if_pos hm]
  refine List.mem_flatMap.2 ⟨b, List.mem_range.2 (by omega), List.mem_map.2 ⟨c - (b + 1), List.mem_range.2 (by omega), ?_⟩⟩
  rw [show b + 1 + (c - (b + 1)) = c from by omega]
theorem list_stk {p : Pj} {k : Nat} (h : k < p.stk.length) : Cd.stk (k : Int) ∈ listC p := by
  simp only [listC, List.mem_append]
  exact .inr (List.mem_map.2 ⟨k, List.mem_range.2 h, rfl⟩)
theorem nat_of {a : Int} {n : Nat} (h : inB a 0 ((n : Int) - 1) = true) : ∃ k : Nat, a = (k : Int) ∧ k < n := by
  have := inB_iff.1 h
  exact ⟨a.toNat, by omega, by omega⟩
theorem nat_le {a m : Int} (h : 0 ≤ a ∧ a ≤ m) : ∃ k : Nat, a = (k : Int) := ⟨a.toNat, by omega⟩
/-- The work is at most the capacity, if the usage is at each time. -/
theorem work_le {p : Pj} {s : Sc} {r : Nat} {x : Int} {xs : List Pr} {n : Nat} : ∀ k : Nat, (∀ j : Nat, j < k → useK p s r (x + j) n ≤ atP xs (x + j)) → wrkT p s r x n k ≤ foldT (fun n c => n + c) (atP xs) 0 x k
  | 0, _ => by simp [wrkT, foldT, tabP]
  | k + 1, h => by
    have i := work_le k (fun j hj => h j (by omega))
    have := h k (by omega)
    rw [wrkT, foldT_succ]
    show _ ≤ _ + _
    omega
theorem valid_all {p : Pj} {s : Sc} (hl : ∀ c ∈ listC p, failC p s c = false) {c : Cd} (ht : thereC p c = true) : failC p s c = false := by
  cases c with
  | lnk a => obtain ⟨k, rfl, hk⟩ := nat_of ht; exact hl _ (list_lnk hk)
  | fin a => obtain ⟨k, rfl, hk⟩ := nat_of ht; exact hl _ (list_fin hk)
  | tim a b =>
    simp only [thereC, Bool.and_eq_true] at ht
    obtain ⟨k, rfl, hk⟩ := nat_of ht.1
    have hb := inB_iff.1 ht.2
    obtain ⟨t, rfl⟩ := nat_le hb
    exact hl _ (list_tim hk (by omega))
  | wrk a b c =>
    simp only [thereC, Bool.and_eq_true, decide_eq_true_eq] at ht
    obtain ⟨k, rfl, hk⟩ := nat_of ht.1
    have hb := inB_iff.1 ht.2.1
    have hc := inB_iff.1 ht.2.2.1
    have hbc := ht.2.2.2
    obtain ⟨x, rfl⟩ := nat_le hb
    have hw := work_le (p := p) (s := s) (r := k) (x := (x : Int)) (xs := (rsA p k).st) (n := p.acts.length) (c - (x : Int)).toNat (fun j hj => by
      have h1 := hl _ (list_tim (p := p) (r := k) (t := x + j) hk (by omega))
      have h2 : ¬ atP (rsA p k).st ((x + j : Nat) : Int) < useK p s k ((x + j : Nat) : Int) p.acts.length := of_decide_eq_false h1
      rw [show ((x + j : Nat) : Int) = (x : Int) + (j : Int) from by omega] at h2
      omega)
    exact decide_eq_false (fun h => by
      have h3 : sumT (rsA p k).st (x : Int) c < wrkT p s k (x : Int) p.acts.length (c - (x : Int)).toNat := h
      unfold sumT at h3
      omega)
  | par a b c =>
    simp only [thereC, Bool.and_eq_true] at ht
    obtain ⟨k, rfl, hk⟩ := machB_in ht.1
    obtain ⟨j, rfl, hj⟩ := nat_of ht.2.2
    have hb := inB_iff.1 ht.2.1
    obtain ⟨i, rfl⟩ : ∃ i : Nat, b = (i : Int) := ⟨b.toNat, by omega⟩
    exact hl _ (list_par hk ht.1 (by omega) hj)
  | stk a => obtain ⟨k, rfl, hk⟩ := nat_of ht; exact hl _ (list_stk hk)
theorem none_viol {p : Pj} {s : Sc} {r : Ru} (hf : formB p s = true) (hz : (violsB p s).length = 0) : violB p s r = false := by
  have hl : ∀ c ∈ listC p, failC p s c = false := fun c hc => by
    rcases h : failC p s c with _ | _
    · rfl
    · have : c ∈ violL p s (listC p) := List.mem_filter.2 ⟨hc, h⟩
      rw [viols_yes hf, List.length_map] at hz
      rw [List.eq_nil_of_length_eq_zero hz] at this
      cases this
  rcases hok : ruOkB p r with _ | _
  · exact viol_not hok
  · obtain ⟨c, _, ht, hv⟩ := viol_ok hf hok
    rw [hv]
    exact valid_all hl ht
theorem ruNm_cd (c : Cd) : (ruNm c.ru.ki).toList.isEmpty = false := by
  rw [ByteArray.toList_eq]
  cases c with
  | lnk a => show (ruNm 1).data.toList.isEmpty = false; rfl
  | fin a => show (ruNm 2).data.toList.isEmpty = false; rfl
  | tim a b => show (ruNm 3).data.toList.isEmpty = false; rfl
  | wrk a b c => show (ruNm 4).data.toList.isEmpty = false; rfl
  | par a b c => show (ruNm 5).data.toList.isEmpty = false; rfl
  | stk a => show (ruNm 6).data.toList.isEmpty = false; rfl
theorem viols_mem {p : Pj} {s : Sc} (hf : formB p s = true) {x : Ru} (h : x ∈ violsB p s) : ruOkB p x = true ∧ violB p s x = true ∧ (ruNm x.ki).toList.isEmpty = false := by
  rw [viols_yes hf] at h
  obtain ⟨c, hc, rfl⟩ := List.mem_map.1 h
  obtain ⟨hc, hx⟩ := List.mem_filter.1 hc
  have ht := mem_listC hc
  refine ⟨by rw [ruOk_ru (form_of hf).ok]; exact ht, by rw [viol_yes hf (cond_ru c) ht]; exact hx, ruNm_cd c⟩
end Go.Proofs.YtaglfdkeomjpdabGreatDoor
end
