/- DERIVED. CONTRACTS: spec.l04Name, spec.l04Draw: an activity drawn. -/
import Derived.Test.YtdbnhdiboemmiacGreatSd
import Derived.Test.YtdbnhdiboemmiacGreatDats
import Derived.Test.YtdbnhdiboemmiacGreatActB
import Derived.Test.YtdbnhdiboemmiacGreatShp
import Derived.Deep.AppendLies
import Derived.Deep.RegionLaw
import Derived.Maps.AppendAt
import Derived.Test.YtdbnhdiboemmiacGreatModT
namespace Go.Proofs.YtdbnhdiboemmiacGreat
open Go.RowKit

theorem wr_grown {w w' : World} {g : Nat} (h : Wr [g] w w') : w.grownBy w' (some g) := ⟨h.os, h.tape, h.output, h.size, fun k hk hne => h.block k hk (by simp; intro e; exact hne (by rw [e]))⟩

/-- A number appended to the newest own row of ints. -/
theorem Sd.appI {W0 w W w6 : World} {g : Nat} {A : Option Addr} {c : Nat} {bs : List Int} {L : List Item} {us : List Int} {v : Value} {F : List Nat} {r : Int} {g' c' n : Nat} {T : TypeId} {o : Array Value}
    (h : Sd W0 w g A c bs (⟨trI us, v, F⟩ :: L) W) (hown : w6.ownsRow w.heap.size 3 1 (.slice (some ⟨g', 0, none⟩) n c') n (us.map (.int .i64) ++ [.int .i64 r]))
    (hg : (W.alloc (.cells o T)).grownBy w6 v.ownBlock) (hat : v.ownBlock = some g' ∨ g' = W.heap.size + 1) : ∃ F', Sd W0 w g A c bs (⟨trI (us ++ [r]), .slice (some ⟨g', 0, none⟩) n c', F'⟩ :: L) w6 := by
  have h1 := h.go ((Below.refl W.heap.size W).alloc (Nat.le_refl _) (.cells o T))
  have hF : F = v.ownBlock.toList := (own_flat h1.items.1).2
  have hw : Wr F (W.alloc (.cells o T)) w6 := hF ▸ Wr.of_grown hg
  refine ⟨_, h1.turn (t' := trI (us ++ [r])) (flat_own (by simpa using hown)).1 (flat_own (by simpa using hown)).2 (fun k hk => ?_) hw⟩
  have hk2 := mem_own.1 hk
  simp only [Value.ownBlock, Option.some.injEq] at hk2
  rcases hat with h2 | h2
  · left; show k ∈ F; rw [hF, mem_own, h2, hk2]
  · right; rw [World.size_alloc]; omega

def nameAt (i : Nat) : ByteArray := match i with | 0 => ⟨#[97]⟩ | 1 => ⟨#[98]⟩ | 2 => ⟨#[99]⟩ | 3 => ⟨#[100]⟩ | 4 => ⟨#[101, 49]⟩ | _ => ⟨#[102]⟩
set_option maxRecDepth 100000 in
set_option maxHeartbeats 1000000 in
theorem name_any (cv : Value) (i : Nat) (hi : i < 6) (w : World) :
    Calls Tryz.prog 71 #[cv, .int .i64 (i : Int)] w fun e w' => e = .returned (.string (nameAt i)) ∧ Below w.heap.size w w' := by
  match i, hi with
  | 0, _ =>
    go_enter Tryz.func71, Tryz.ntmps71
    go_wp2
    go_ret
    exact ⟨rfl, (Below.refl _ _).alloc (Nat.le_refl _) _⟩
  | 1, _ =>
    go_enter Tryz.func71, Tryz.ntmps71
    go_wp2
    go_ret
    exact ⟨rfl, (Below.refl _ _).alloc (Nat.le_refl _) _⟩
  | 2, _ =>
    go_enter Tryz.func71, Tryz.ntmps71
    go_wp2
    go_ret
    exact ⟨rfl, (Below.refl _ _).alloc (Nat.le_refl _) _⟩
  | 3, _ =>
    go_enter Tryz.func71, Tryz.ntmps71
    go_wp2
    go_ret
    exact ⟨rfl, (Below.refl _ _).alloc (Nat.le_refl _) _⟩
  | 4, _ =>
    go_enter Tryz.func71, Tryz.ntmps71
    go_wp2
    go_ret
    exact ⟨rfl, (Below.refl _ _).alloc (Nat.le_refl _) _⟩
  | 5, _ =>
    go_enter Tryz.func71, Tryz.ntmps71
    go_wp2
    go_ret
    exact ⟨rfl, (Below.refl _ _).alloc (Nat.le_refl _) _⟩

theorem name_ok (i : Nat) (hi : i < 6) : nmB (nameAt i) = true ∧ (nameAt i).size ≤ 8 := by
  match i, hi with
  | 0, _ => exact ⟨nmB_all (by decide) (by decide) (fun j hj => by match j, hj with | 0, _ => rfl), by decide⟩
  | 1, _ => exact ⟨nmB_all (by decide) (by decide) (fun j hj => by match j, hj with | 0, _ => rfl), by decide⟩
  | 2, _ => exact ⟨nmB_all (by decide) (by decide) (fun j hj => by match j, hj with | 0, _ => rfl), by decide⟩
  | 3, _ => exact ⟨nmB_all (by decide) (by decide) (fun j hj => by match j, hj with | 0, _ => rfl), by decide⟩
  | 4, _ => exact ⟨nmB_all (by decide) (by decide) (fun j hj => by match j, hj with | 0, _ => rfl | 1, _ => rfl), by decide⟩
  | 5, _ => exact ⟨nmB_all (by decide) (by decide) (fun j hj => by match j, hj with | 0, _ => rfl), by decide⟩
/-- Amounts as they are drawn. -/
def DrI (us : List Int) : Prop := ∀ x ∈ us, 0 ≤ x ∧ x < 3
theorem DrI.snoc {us : List Int} (h : DrI us) {r : Int} (h0 : 0 ≤ r) (h3 : r < 3) : DrI (us ++ [r]) := by
  intro x hx
  rcases List.mem_append.1 hx with hx | hx
  · exact h x hx
  · simp at hx; subst hx; exact ⟨h0, h3⟩
theorem DrI.ok {us : List Int} (h : DrI us) {R : Nat} (hl : us.length = R) : numsB us R = true := by
  unfold numsB
  rw [Bool.and_eq_true, List.all_eq_true]
  exact ⟨fun x hx => inB_yes (by have := h x hx; omega), decide_eq_true (by omega)⟩

/-- A mode as it is drawn. -/
def DrM (R S : Nat) (m : Md) : Prop := 1 ≤ m.du ∧ m.du ≤ 4 ∧ m.us.length = R ∧ m.co.length = S ∧ DrI m.us ∧ DrI m.co
theorem DrM.ok {R S : Nat} {m : Md} (h : DrM R S m) : mokB m R S = true := by
  unfold mokB
  rw [inB_yes (by have := h.1; have := h.2.1; omega), h.2.2.2.2.1.ok h.2.2.1, h.2.2.2.2.2.ok h.2.2.2.1]
  rfl
/-- An activity as it is drawn. -/
def DrA (i R S : Nat) (a : Ac) : Prop := a.nm = nameAt i ∧ 0 ≤ a.fa ∧ a.fa < 2 ∧ 1 ≤ a.ms.length ∧ a.ms.length ≤ 2 ∧ ∀ m ∈ a.ms, DrM R S m
theorem DrA.ok {i R S : Nat} {a : Ac} (h : DrA i R S a) (hi : i < 6) : aokB a R S = true := by
  unfold aokB
  rw [List.all_eq_true.2 (fun m hm => (h.2.2.2.2.2 m hm).ok), h.1, (name_ok i hi).1, inB_yes (by have := h.2.1; have := h.2.2.1; omega), inB_yes (by have := h.2.2.2.1; have := h.2.2.2.2.1; omega)]
  rfl

theorem own_cellsM {w : World} {B : Nat} {m : Md} {u c : Value} {F G : List Nat} (hu : (trI m.us).own w B u F) (hc : (trI m.co).own w B c G) : ownL w B (cellsM m) [.int .i64 m.du, u, c] (F ++ G) :=
  ⟨_, _, [], _, rfl, ⟨rfl, rfl⟩, ⟨_, _, F, _, rfl, hu, ⟨_, _, G, [], rfl, hc, ⟨rfl, rfl⟩, rfl⟩, rfl⟩, by simp⟩
theorem new3_cell (w : World) (x y z : Value) (t : TypeId) : ∀ j u, [x, y, z][j]? = some u → (w.alloc (.cells #[x, y, z] t)).cell? ((⟨w.heap.size, 0, none⟩ : Addr).add j) = some u := by
  obtain ⟨h0, h1, h2, _⟩ := (Bk.new w t #[x, y, z]).c3
  intro j u hu
  match j, hu with
  | 0, hu => simp at hu; subst hu; simp [Addr.add]
  | 1, hu => simp at hu; subst hu; simp [Addr.add]
  | 2, hu => simp at hu; subst hu; simp [Addr.add]
/-- A mode appended to the modes of an activity that is being drawn. -/
theorem Sd.appM {W0 w W w8 : World} {g : Nat} {A : Option Addr} {c : Nat} {bs : List Int} {L : List Item} {us co : List Int} {u k v v' : Value} {Fu Fc Fm G : List Nat} {x : Item} {ms : List Md} {d : Int} {vs : List Value} {o : Array Value} {T : TypeId}
    (h : Sd W0 w g A c bs (⟨trI co, k, Fc⟩ :: ⟨trI us, u, Fu⟩ :: x :: ⟨trMs ms, v, Fm⟩ :: L) W) (ol : ownL W w.heap.size (ms.flatMap cellsM) vs G) (hF : Fm = v.ownBlock.toList ++ G)
    (hown : w8.ownsRow w.heap.size 103 3 v' (ms.length + 1) (vs ++ [.int .i64 d, u, k])) (hg : (W.alloc (.cells o T)).grownBy w8 v.ownBlock) (hat : v'.ownBlock = v.ownBlock ∨ v'.ownBlock = some (W.heap.size + 1)) :
    ∃ F', Sd W0 w g A c bs (⟨trMs (ms ++ [⟨d, us, co⟩]), v', F'⟩ :: L) w8 := by
  have h1 := h.merge3.go ((Below.refl W.heap.size W).alloc (Nat.le_refl _) (.cells o T))
  have hal := (Below.refl W.heap.size W).alloc (Nat.le_refl _) (.cells o T)
  have lo := h.items.lt
  have ou := (h.own 1 rfl).1
  have oc := (h.own 0 rfl).1
  have nm := (h.own 3 rfl).2
  have apu := h.items.apart (i := 1) (j := 3) rfl rfl (by omega)
  have apc := h.items.apart (i := 0) (j := 3) rfl rfl (by omega)
  have apk := h.items.apart (i := 0) (j := 1) rfl rfl (by omega)
  have hH : (Fu ++ Fc).Nodup := List.nodup_append.2 ⟨(h.own 1 rfl).2, (h.own 0 rfl).2, fun p hp q hq e => apk q hq (e ▸ hp)⟩
  have lol := ownL_lt _ _ _ ol
  obtain ⟨F', h2, h3, h4⟩ := rows_app (e := 103) (f := cellsM) (xs := ms) (x := ⟨d, us, co⟩) (n := ms.length + 1) (by simp) hown (ownL_keep _ _ _ ol (fun k hk => hal.block k (lol k hk).2)) (own_cellsM (m := ⟨d, us, co⟩) (Tr.own_below ou hal (Nat.le_refl _)) (Tr.own_below oc hal (Nat.le_refl _))) (hF ▸ nm) hH (fun p hp hq => by
      rw [← hF] at hp
      rcases List.mem_append.1 hq with hq | hq
      · exact apu p hq hp
      · exact apc p hq hp) hg (by rw [World.size_alloc]; exact hat)
  refine ⟨F', h1.turn h2 h3 (fun p hp => ?_) ((Wr.of_grown hg).sub (fun p hp => ?_))⟩
  · rcases h4 p hp with h5 | h5 | h5
    · left; rw [← hF] at h5; exact List.mem_append.2 (.inl h5)
    · left; show p ∈ Fm ++ (Fu ++ (Fc ++ [])); rw [List.append_nil]; exact List.mem_append.2 (.inr h5)
    · right; omega
  · show p ∈ Fm ++ (Fu ++ (Fc ++ []))
    rw [hF]
    exact List.mem_append.2 (.inl (List.mem_append.2 (.inl hp)))

def lenAt (w : World) (p : Addr) : Nat := match w.cell? p with
  | some (.slice _ n _) => n
  | _ => 0
theorem lenAt_eq {w : World} {p : Addr} {U : Option Addr} {n c : Nat} (h : w.cell? p = some (.slice U n c)) : lenAt w p = n := by unfold lenAt; rw [h]
theorem newI_cell (w : World) (x : Value) (t : TypeId) : ∀ j u, [x][j]? = some u → (w.alloc (.cells #[x] t)).cell? ((⟨w.heap.size, 0, none⟩ : Addr).add j) = some u := new_cell w x t

set_option maxRecDepth 100000 in
set_option maxHeartbeats 4000000 in
theorem draw4_any (g : Nat) (A : Option Addr) (c : Nat) (bs : List Int) (W0 w : World) (i R S : Nat) (hi : i < 6) (hR : R ≤ 100) (hS : S ≤ 100) (h : Drw W0 w g A c bs) :
    Calls Tryz.prog 40 #[.pointer (some ⟨g, 0, none⟩), .int .i64 (i : Int), .int .i64 (R : Int), .int .i64 (S : Int)] w fun e w' => ∃ v a F, e = .returned v ∧ DrA i R S a ∧ (trA a).own w' w.heap.size v F ∧ F.Nodup ∧ Drw W0 w' g A c bs ∧ w.grownBy w' (some g) := by
  obtain ⟨i0, hi0, hz0, hz1, hz2⟩ := info_parts infoInt
  obtain ⟨im, hm0, hmz, hms, hmb⟩ := info_parts infoMode
  have S0 := Lib.hid ((Sd.start h).box 55 [.string ⟨#[]⟩, .int .i64 0, .slice none 0 0])
  have hg0 : g < w.heap.size := h.cur.lt
  clear h
  go_enter Tryz.func40, Tryz.ntmps40
  go_wp2_with fail
  refine (name_any _ i hi _).mono ?_
  rintro e w1 ⟨rfl, b⟩
  have S1 := Lib.hid (S0.out.go b)
  clear S0 b
  go_wp2_with fail
  refine (below_small 2 (by omega) (by omega) g A c bs W0 _ S1.out.drw).mono ?_
  rintro e w2 ⟨fam, rfl, hf1, hf2, hd, hg⟩
  have S2 := Lib.hid ((S1.out.call hd hg).box 55 [.string (nameAt i), .int .i64 fam, .slice none 0 0])
  clear S1 hd hg
  go_wp2_with fail
  refine (below_small 4 (by omega) (by omega) g A c bs W0 _ S2.out.drw).mono ?_
  rintro e w3 ⟨r, rfl, hr1, hr2, hd, hg⟩
  have S3 := Lib.hid (S2.out.call hd hg)
  clear S2 hd hg
  obtain ⟨k, hk⟩ : ∃ k : Nat, r / 2 = k := ⟨(r / 2).toNat, by omega⟩
  have hk2 : k ≤ 1 := by omega
  go_wp2
  rw [hk]
  clear hk
  go_loopw [10] (fun kk wr => ∃ (q : Nat) (ms : List Md) (M : Option Addr) (cm : Nat) (Fm : List Nat), kk = .int .i64 q ∧ q + ms.length ≤ 2 ∧ 1 ≤ q + ms.length ∧ (∀ m ∈ ms, DrM R S m) ∧
    Sd W0 w g A c bs [⟨trMs ms, .slice M ms.length cm, Fm⟩, boxI w2.heap.size 55 [.string (nameAt i), .int .i64 fam, .slice M ms.length cm], boxI w.heap.size 55 [.string ⟨#[]⟩, .int .i64 0, .slice none 0 0]] wr) (fun kk _ => (intOf kk).toNat)
  case atStart => exact ⟨1 + k, [], none, 0, [], by go_num, by show 1 + k + 0 ≤ 2; omega, by show 1 ≤ 1 + k + 0; omega, fun m hm => (by cases hm), S3.out.nil _ _ _⟩
  case round =>
    obtain ⟨q, ms, M, cm, Fm, rfl, hq2, hq1, hms, hS⟩ := hrel
    have S4 := Lib.hid hS
    have HMS := Lib.hid hms
    clear hS hms
    by_cases hq0 : q = 0
    · subst hq0
      obtain ⟨z0, z1, z2, zf⟩ := (S4.out.bk 2 rfl).c3
      obtain ⟨y0, y1, y2, yf⟩ := (S4.out.bk 1 rfl).c3
      have SZ := Lib.hid (((S4.out.boxSet 2 rfl 0 (.string (nameAt i))).boxSet 2 rfl 1 (.int .i64 fam)).boxSet 2 rfl 2 (.slice M ms.length cm))
      go_wp2
      refine bodyPost_ret (v := .agg #[.string (nameAt i), .int .i64 fam, .slice M ms.length cm]) (by simp [results, Tryz.results40, go_sem, z0, z1, z2]) rfl ⟨_, ⟨nameAt i, fam, ms⟩, Fm, rfl, ⟨rfl, hf1, hf2, by show 1 ≤ ms.length; omega, by show ms.length ≤ 2; omega, HMS.out⟩, mk_ownA (a := ⟨nameAt i, fam, ms⟩) (SZ.out.own 0 rfl).1, (SZ.out.own 0 rfl).2, SZ.out.drw, wr_grown SZ.out.wr⟩
    · obtain ⟨p, rfl⟩ : ∃ p, q = p + 1 := ⟨q - 1, by omega⟩
      have hpos : (0 : Int) < ((p + 1 : Nat) : Int) := by omega
      go_wp2_with fail
      refine (below_small 4 (by omega) (by omega) g A c bs W0 _ S4.out.drw).mono ?_
      rintro e w4 ⟨r4, rfl, hr41, hr42, hd, hg⟩
      have S5 := Lib.hid (((S4.out.call hd hg).box 103 [.int .i64 (1 + r4), .slice none 0 0, .slice none 0 0]).nilF 3)
      clear S4 hd hg
      go_wp2
      go_loopw [] (fun wr => ∃ (us : List Int) (U : Option Addr) (cu : Nat) (Fu : List Nat), us.length ≤ R ∧ DrI us ∧
        Sd W0 w g A c bs [⟨trI us, .slice U us.length cu, Fu⟩, boxI w4.heap.size 103 [.int .i64 (1 + r4), .slice U us.length cu, .slice none 0 0], ⟨trMs ms, .slice M ms.length cm, Fm⟩, boxI w2.heap.size 55 [.string (nameAt i), .int .i64 fam, .slice M ms.length cm], boxI w.heap.size 55 [.string ⟨#[]⟩, .int .i64 0, .slice none 0 0]] wr) (fun wr => R - lenAt wr ⟨w4.heap.size, 1, none⟩)
      case atStart => exact ⟨[], none, 0, [], Nat.zero_le _, fun x hx => (by cases hx), S5.out⟩
      case round =>
        obtain ⟨us1, U1, cu1, Fu1, hul1, hud1, hS⟩ := hrel
        have S61 := Lib.hid hS
        have HUD1 := Lib.hid hud1
        clear hS hud1
        obtain ⟨c0, c1, c2, cf⟩ := (S61.out.bk 1 rfl).c3
        by_cases hlt : us1.length < R
        · have hlt' : (us1.length : Int) < (R : Int) := by omega
          have S6d := Lib.hid S61.out.drew
          have LEN := Lib.hid (lenAt_eq c1)
          go_wp2
          go_region_law (first
            | (refine step_append_lies _ (by rfl) (.tmp 36) (.tmp 39) 26 (by rfl) w.heap.size 3 i0 (.int .i64 0) 1 8 Tryz.underlying26 hi0 hz0 hz1 hz2 rfl (by decide) (.slice U1 us1.length cu1) us1.length (us1.map (.int .i64)) (by rfl) (by exact OW.out.alloc _) ⟨w7.heap.size, 0, none⟩ 1 1 [.int .i64 r7] (by rfl) (by rfl) (by exact newI_cell _ _ _) (by simp [Value.oneCell']) (by decide) (by unfold maxLen; omega) (by omega) (by have := S7.out.wr.size; simp; omega) (w7.heap.size + 1) (by simp) ?_; intro g' c' w8 hown8 hg8 hat8 hlt8; obtain ⟨F8, h8⟩ := S7.out.appI hown8 hg8 hat8; have S8 := Lib.hid h8; obtain ⟨d0, d1, d2, df⟩ := (S8.out.bk 1 rfl).c3)
            | (go_simp; go_at_call 17; refine (below_small 3 (by omega) (by omega) g A c bs W0 _ S6d.out.drw).mono ?_; rintro e w7 ⟨r7, rfl, hr71, hr72, hd7, hg7⟩; have S7 := Lib.hid (S6d.out.call hd7 hg7); have OW := Lib.hid (own_flat (S7.out.own 0 rfl).1).1; simp only [List.length_map] at OW; obtain ⟨e0, e1, e2, ef⟩ := (S7.out.bk 1 rfl).c3; have hb7 := (S7.out.bk 1 rfl).lt))
          all_goals
            have S9 := Lib.hid (S8.out.boxSet 1 rfl 1 (.slice (some ⟨g', 0, none⟩) (us1.length + 1) c'))
            have L9 := Lib.hid (lenAt_eq (S9.out.bk 1 rfl).c3.2.1)
            have HL := Lib.hid (show (us1 ++ [r7]).length = us1.length + 1 from by simp)
            clear S8 S7 S6d OW d0 d1 d2 df hown8 hg8 hat8 hlt8 h8
            go_wp2
            go_roundw
            case rel => exact ⟨us1 ++ [r7], some ⟨g', 0, none⟩, c', F8, by rw [HL.out]; omega, HUD1.out.snoc hr71 hr72, by rw [HL.out]; exact S9.out⟩
            case measure => rw [L9.out, LEN.out]; omega
        · have hge : ¬ (us1.length : Int) < (R : Int) := by omega
          have HX1 := Lib.hid (show us1.length = R from by omega)
          clear hlt
          go_wp2
          go_loopw [] (fun wr => ∃ (us : List Int) (U : Option Addr) (cu : Nat) (Fu : List Nat), us.length ≤ S ∧ DrI us ∧
            Sd W0 w g A c bs [⟨trI us, .slice U us.length cu, Fu⟩, ⟨trI us1, .slice U1 us1.length cu1, Fu1⟩, boxI w4.heap.size 103 [.int .i64 (1 + r4), .slice U1 us1.length cu1, .slice U us.length cu], ⟨trMs ms, .slice M ms.length cm, Fm⟩, boxI w2.heap.size 55 [.string (nameAt i), .int .i64 fam, .slice M ms.length cm], boxI w.heap.size 55 [.string ⟨#[]⟩, .int .i64 0, .slice none 0 0]] wr) (fun wr => S - lenAt wr ⟨w4.heap.size, 2, none⟩)
          case atStart => exact ⟨[], none, 0, [], Nat.zero_le _, fun x hx => (by cases hx), S61.out.nilF 3⟩
          case round =>
            obtain ⟨us2, U2, cu2, Fu2, hul2, hud2, hS⟩ := hrel
            have S62 := Lib.hid hS
            have HUD2 := Lib.hid hud2
            clear hS hud2
            obtain ⟨c0, c1, c2, cf⟩ := (S62.out.bk 2 rfl).c3
            by_cases hlt : us2.length < S
            · have hlt' : (us2.length : Int) < (S : Int) := by omega
              have S6d := Lib.hid S62.out.drew
              have LEN := Lib.hid (lenAt_eq c2)
              go_wp2
              go_region_law (first
                | (refine step_append_lies _ (by rfl) (.tmp 48) (.tmp 51) 26 (by rfl) w.heap.size 3 i0 (.int .i64 0) 1 8 Tryz.underlying26 hi0 hz0 hz1 hz2 rfl (by decide) (.slice U2 us2.length cu2) us2.length (us2.map (.int .i64)) (by rfl) (by exact OW.out.alloc _) ⟨w7.heap.size, 0, none⟩ 1 1 [.int .i64 r7] (by rfl) (by rfl) (by exact newI_cell _ _ _) (by simp [Value.oneCell']) (by decide) (by unfold maxLen; omega) (by omega) (by have := S7.out.wr.size; simp; omega) (w7.heap.size + 1) (by simp) ?_; intro g' c' w8 hown8 hg8 hat8 hlt8; obtain ⟨F8, h8⟩ := S7.out.appI hown8 hg8 hat8; have S8 := Lib.hid h8; obtain ⟨d0, d1, d2, df⟩ := (S8.out.bk 2 rfl).c3)
                | (go_simp; go_at_call 17; refine (below_small 3 (by omega) (by omega) g A c bs W0 _ S6d.out.drw).mono ?_; rintro e w7 ⟨r7, rfl, hr71, hr72, hd7, hg7⟩; have S7 := Lib.hid (S6d.out.call hd7 hg7); have OW := Lib.hid (own_flat (S7.out.own 0 rfl).1).1; simp only [List.length_map] at OW; obtain ⟨e0, e1, e2, ef⟩ := (S7.out.bk 2 rfl).c3; have hb7 := (S7.out.bk 2 rfl).lt))
              all_goals
                have S9 := Lib.hid (S8.out.boxSet 2 rfl 2 (.slice (some ⟨g', 0, none⟩) (us2.length + 1) c'))
                have L9 := Lib.hid (lenAt_eq (S9.out.bk 2 rfl).c3.2.2.1)
                have HL := Lib.hid (show (us2 ++ [r7]).length = us2.length + 1 from by simp)
                clear S8 S7 S6d OW d0 d1 d2 df hown8 hg8 hat8 hlt8 h8
                go_wp2
                go_roundw
                case rel => exact ⟨us2 ++ [r7], some ⟨g', 0, none⟩, c', F8, by rw [HL.out]; omega, HUD2.out.snoc hr71 hr72, by rw [HL.out]; exact S9.out⟩
                case measure => rw [L9.out, LEN.out]; omega
            · have hge : ¬ (us2.length : Int) < (S : Int) := by omega
              have HX2 := Lib.hid (show us2.length = S from by omega)
              clear hlt
              obtain ⟨y0, y1, y2, yf⟩ := (S62.out.bk 4 rfl).c3
              have hby := (S62.out.bk 4 rfl).lt
              have hbm := (S62.out.bk 2 rfl).lt
              obtain ⟨vs, G, ov, ol, hF⟩ := rows_raw (S62.out.own 3 rfl).1
              have OV := Lib.hid ov
              have OL := Lib.hid ol
              have HF := Lib.hid hF
              have hsz := S62.out.wr.size
              clear ov ol hF
              go_wp2_with (first | (at_builtin; refine wpList_append_own_at _ rfl (.tmp 55) (.tmp 57) 53 rfl w.heap.size 103 im (.agg #[.int .i64 0, .slice none 0 0, .slice none 0 0]) 3 56 Tryz.underlying53 hm0 hmz hms hmb rfl (by decide) (.slice M ms.length cm) ms.length vs rfl (by exact OV.out.alloc _) ⟨wr.heap.size, 0, none⟩ 1 1 [.int .i64 (1 + r4), .slice U1 us1.length cu1, .slice U2 us2.length cu2] rfl rfl ?c1 ?c2 ?c3 ?c4 ?c5 ?_))
              case c2 => simp [Value.oneCell']
              case c3 => unfold maxLen; omega
              case c4 => omega
              case c5 => omega
              intro v' w8 hown8 hg8 _ hat8
              obtain ⟨F9, h9⟩ := S62.out.appM (o := #[.int .i64 (1 + r4), .slice U1 us1.length cu1, .slice U2 us2.length cu2]) (T := 103) OL.out HF.out hown8 hg8 (by simpa using hat8)
              obtain ⟨_, M9, c9, hv9, _⟩ := rdMs (Tr.own_rd _ _ _ (h9.own 0 rfl).1)
              have HL9 := Lib.hid (show (ms ++ [(⟨1 + r4, us1, us2⟩ : Md)]).length = ms.length + 1 from by simp)
              rw [HL9.out] at hv9
              subst hv9
              have S9 := Lib.hid h9
              have HM9 := Lib.hid (show ∀ m ∈ ms ++ [(⟨1 + r4, us1, us2⟩ : Md)], DrM R S m from by
                intro m hm
                rcases List.mem_append.1 hm with hm | hm
                · exact HMS.out m hm
                · simp at hm; subst hm; exact ⟨by show 1 ≤ 1 + r4; omega, by show 1 + r4 ≤ 4; omega, HX1.out, HX2.out, HUD1.out, HUD2.out⟩)
              clear hown8 hg8 hat8 h9 y0 y1 y2 yf hby hbm c0 c1 c2 cf
              obtain ⟨y0, y1, y2, yf⟩ := (S9.out.bk 1 rfl).c3
              have SF := Lib.hid (S9.out.boxSet 1 rfl 2 (.slice M9 (ms.length + 1) c9))
              go_wp2
              go_roundw
              case rel => exact ⟨p, ms ++ [⟨1 + r4, us1, us2⟩], M9, c9, F9, by go_num, by rw [HL9.out]; omega, by rw [HL9.out]; omega, HM9.out, by rw [HL9.out]; exact SF.out⟩
              case measure => simp [intOf]
end Go.Proofs.YtdbnhdiboemmiacGreat
