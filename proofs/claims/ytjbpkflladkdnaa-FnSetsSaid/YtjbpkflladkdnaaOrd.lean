/- DERIVED. CONTRACTS: orderedOf and the operations that rest on it. -/
import Derived.Test.YtjbpkflladkdnaaConcat
import Derived.Test.YtjbpkflladkdnaaSetD
import Derived.Lib.OwnBridge
import Derived.Sort.Grow
namespace Go.Proofs.Ytjbpkflladkdnaa
open Go.RowKit Go.Shelf Go.Sort Go.Lib

theorem below_grow {B : Nat} {a w : World} (h : Below B a w) (os : Array Obj) (hB : B ≤ w.heap.size) : Below B a (grow w os) :=
  ⟨h.os, h.tape, h.output, by have := h.size; simp [grow]; omega, fun k hk => by
    rw [← h.block k hk]
    have hk' : k < w.heap.size := by omega
    simp [grow, Array.getElem?_append, hk']⟩

/-- What the library's sort and compact leave of an own row of ints. -/
theorem sorted_left {w w1 : World} {base g cap nn q : Nat} {e : TypeId} {os : Array Obj} {zs s : List Int} (hs : s.length = zs.length) (hown : w1.ownsRow base e 1 (.slice (some ⟨g, 0, none⟩) zs.length cap) zs.length (zs.map (.int .i64))) (hbel : Below base w w1) (hb : base ≤ g) :
    (putRow (Value.int .i64) (Sort.ahead (grow (putRow (Value.int .i64) (Sort.ahead w1 nn) g 0 s.toArray) os) q) g 0 (compact s ++ List.replicate (s.length - (compact s).length) 0).toArray).ownsRow base e 1 (.slice (some ⟨g, 0, none⟩) (compact s).length cap) (compact s).length ((compact s).map (.int .i64)) ∧
    Below base w (putRow (Value.int .i64) (Sort.ahead (grow (putRow (Value.int .i64) (Sort.ahead w1 nn) g 0 s.toArray) os) q) g 0 (compact s ++ List.replicate (s.length - (compact s).length) 0).toArray) := by
  have hle := compact_length_le s
  have h1 := ownsRow_putRow (q := nn) (k := zs.length) (ys := s) hown hs (Nat.le_refl _)
  rw [← hs, List.take_length, hs] at h1
  have hb1 : Below base w (putRow (Value.int .i64) (Sort.ahead w1 nn) g 0 s.toArray) := below_putRow hbel hb
  have hg1 : g < (putRow (Value.int .i64) (Sort.ahead w1 nn) g 0 s.toArray).heap.size := (h1.lt g rfl).2
  have h2 : (grow (putRow (Value.int .i64) (Sort.ahead w1 nn) g 0 s.toArray) os).ownsRow base e 1 (.slice (some ⟨g, 0, none⟩) zs.length cap) zs.length (s.map (.int .i64)) :=
    own_below h1 (below_grow (Below.refl _ _) os (Nat.le_refl _)) (Nat.le_refl _)
  have hb2 : Below base w (grow (putRow (Value.int .i64) (Sort.ahead w1 nn) g 0 s.toArray) os) := below_grow hb1 os (by omega)
  have h3 := ownsRow_putRow (q := q) (k := (compact s).length) (ys := compact s ++ List.replicate (s.length - (compact s).length) 0) h2 (by simp; omega) (by omega)
  rw [List.take_left] at h3
  exact ⟨h3, below_putRow hb2 hb⟩

set_option maxRecDepth 100000 in
set_option maxHeartbeats 2000000 in
theorem orderedOf_any (vs : List Value) (Ls : List (List Int)) (vl : Value) (w : World) (hr : Rd w vl vs) (hn : vs.length = Ls.length) (hn0 : 0 < vs.length)
    (hel : ∀ i, (h : i < vs.length) → Rd w vs[i] ((Ls[i]'(hn ▸ h)).map (.int .i64)) ∧ NilOk vs[i]) (hlen : (catB Ls).length ≤ 1073741824) :
    Calls Try.prog 45 #[vl] w fun e w' => ∃ v', e = .returned v' ∧ w'.ownsRow w.heap.size 3 1 v' (setB (catB Ls)).length ((setB (catB Ls)).map (.int .i64)) ∧ Below w.heap.size w w' := by
  have HCC := concat_any vs Ls vl w hr hn hn0 hel hlen
  clear hr hn hn0 hel
  generalize catB Ls = zs at HCC hlen
  rw [← sortB_eq]
  go_enter Try.func45, Try.ntmps45
  go_wp2_with fail
  refine HCC.mono ?_
  rintro e w1 ⟨v1, rfl, o1, b1⟩
  by_cases hv : v1 = .slice none 0 0
  · subst hv
    have hz : zs = [] := by
      rcases o1.2 with ⟨_, h0⟩ | ⟨g, cap, cur, h0, _⟩
      · exact List.eq_nil_of_length_eq_zero h0
      · cases h0
    subst hz
    have hB := Lib.hid b1
    clear o1 b1 HCC
    go_wp2_with fail
    refine (Try.slices_Sort_int_none none 0 _).mono ?_
    rintro e w2 ⟨rfl, rfl⟩
    go_wp2_with fail
    refine (Try.slices_Compact_int_empty none 0 _).mono ?_
    rintro e w3 ⟨rfl, rfl⟩
    go_wp2
    go_ret
    exact ⟨_, rfl, by rw [sortB_eq]; exact World.ownsRow_nil _ _ _ _, hB.out⟩
  · obtain ⟨g, cap, rfl, hbg, hgl, hncap, hcm, -, hH⟩ := Lib.holds_of_ownsRow o1 hv
    have hsort := Try.slices_Sort_int g 0 cap zs w1 hH hgl (by omega)
    have hs : (zs.mergeSort fun x y => decide (x ≤ y)).length = zs.length := List.length_mergeSort zs
    change Calls _ _ _ _ _ at hsort
    have hd : sortB zs = compact (zs.mergeSort fun x y => decide (x ≤ y)) := rfl
    generalize (zs.mergeSort fun x y => decide (x ≤ y)) = s at hsort hs hd
    have HD := Lib.hid hd
    clear hd
    have HO := Lib.hid (And.intro o1 (And.intro b1 hH))
    clear o1 b1 hv HCC hH
    go_wp2_with fail
    refine hsort.mono ?_
    rintro e w2 ⟨rfl, nn, os, rfl⟩
    have hH2 : Holds (Value.int .i64) (grow (putRow (Value.int .i64) (Sort.ahead w1 nn) g 0 s.toArray) os) g 0 s.toArray :=
      holds_grow _ _ os g 0 _ (by simpa [putRow, mapBlock, Sort.ahead] using hgl) (holds_putRow _ _ g 0 _ _ (holds_ahead _ w1 nn g 0 _ HO.out.2.2) (by simp [hs]))
    have hcomp := Try.slices_Compact_int g 0 cap s _ hH2 (by omega) (by omega)
    have HL := Lib.hid (fun q => sorted_left (nn := nn) (q := q) (os := os) hs HO.out.1 HO.out.2.1 hbg)
    clear hH2 hsort
    rw [hs] at hcomp
    simp only [hs] at HL
    generalize compact s = cs at hcomp HL HD
    generalize grow (putRow (Value.int .i64) (Sort.ahead w1 nn) g 0 s.toArray) os = w2 at hcomp HL ⊢
    go_wp2_with fail
    refine hcomp.mono ?_
    rintro e w3 ⟨rfl, q, rfl⟩
    have HQ := Lib.hid (HL.out q)
    generalize putRow (Value.int .i64) (Sort.ahead w2 q) g 0 _ = w3 at HQ ⊢
    go_wp2
    go_ret
    exact ⟨_, rfl, by rw [HD.out]; exact HQ.out.1, HQ.out.2⟩
end Go.Proofs.Ytjbpkflladkdnaa
