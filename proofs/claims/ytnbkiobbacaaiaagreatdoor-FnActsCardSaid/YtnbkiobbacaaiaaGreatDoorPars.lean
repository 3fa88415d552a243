/- DERIVED. CONTRACTS: spec.ParseInts, impl.ParseInts. -/
import Derived.Test.YtnbkiobbacaaiaaGreatDoorTxtMaths
import Derived.Test.YtnbkiobbacaaiaaGreatDoorPar
import Derived.Test.YtnbkiobbacaaiaaGreatDoorSplit
import Derived.Test.YtnbkiobbacaaiaaGreatDoorDats
import Derived.OwnWalk
namespace Go.Proofs.YtnbkiobbacaaiaaGreatDoor
open Go.RowKit

theorem str_ne1 {x : ByteArray} {c : UInt8} (h : x ≠ ⟨#[c]⟩) : (x.toList == [c]) = false := by
  have := str_ne h
  rwa [ByteArray.toList_eq ⟨#[c]⟩] at this
theorem pars_take {s : ByteArray} {k : Nat} (h : k < (partsB s).length) : ((partsB s).take (k + 1)).map parN = ((partsB s).take k).map parN ++ [parN (partsB s)[k]] := by
  rw [List.take_succ_eq_append_getElem h, List.map_append]; rfl
theorem map_snocI (l : List Int) (x : Int) : (l ++ [x]).map (Value.int .i64) = l.map (Value.int .i64) ++ [.int .i64 x] := by simp

set_option maxRecDepth 100000 in
set_option maxHeartbeats 2000000 in
theorem implPars_any (s : ByteArray) (w : World) (hs : s.size ≤ 1099511627776) (ht : TB w) :
    Calls Tryz.prog 30 #[.string s] w fun e w' => ∃ v, e = .returned (.tuple #[v, .bool (parsesB s).2]) ∧ w'.ownsRow w.heap.size 3 1 v (parsesB s).1.length ((parsesB s).1.map (.int .i64)) ∧ Below w.heap.size w w' := by
  obtain ⟨i0, hi, hz0, hz1, hz2⟩ := info_parts infoInt
  by_cases hd : s = ⟨#[45]⟩
  · subst hd
    clear ht
    have HP := Lib.hid pars_dash
    go_enter Tryz.func30, Tryz.ntmps30
    go_wp2
    go_ret2
    exact ⟨_, by rw [HP.out]; rfl, by rw [HP.out]; exact World.ownsRow_nil _ _ _ _, Below.refl _ _⟩
  · have hne := str_ne1 hd
    have hlen := (splitB_len s ⟨#[44]⟩).2
    have hpos := (splitB_len s ⟨#[44]⟩).1
    have HSZ := Lib.hid (parts_size s)
    have HBAD := Lib.hid (fun k => pars_bad (s := s) (k := k) hd)
    have HOK := Lib.hid (pars_ok (s := s) hd)
    have HTK := Lib.hid (fun k => pars_take (s := s) (k := k))
    change (partsB s).length ≤ s.size + 1 at hlen
    change 1 ≤ (partsB s).length at hpos
    generalize hps : partsB s = ps at hlen hpos HSZ HBAD HOK HTK
    have HPS := Lib.hid hps
    have HTB := Lib.hid ht
    clear ht
    clear hps hd
    go_enter Tryz.func30, Tryz.ntmps30
    go_wp2_with fail
    refine (implSplitAny_any s ⟨#[44]⟩ _ hs).mono ?_
    rintro e w1 ⟨vp, rfl, o1, b1⟩
    change w1.ownsRow _ _ _ vp (partsB s).length ((partsB s).map .string) at o1
    rw [HPS.out] at o1
    rcases o1.2 with ⟨_, h0⟩ | ⟨g, cap, cur, rfl, _⟩
    · omega
    have hbel1 := b1
    have hout0 : w1.ownsRow w.heap.size 3 1 (.slice none 0 0) 0 [] := World.ownsRow_nil _ _ _ _
    have O1 := Lib.hid o1
    have O0 := Lib.hid hout0
    clear o1 b1 hout0
    go_wp2
    go_loopw [4, 14] (fun out i wr => ∃ k : Nat, k ≤ ps.length ∧ i = .int .i64 k ∧ wr.ownsRow w.heap.size 3 1 out k (((ps.take k).map parN).map (.int .i64)) ∧ wr.ownsRow w.heap.size 9 1 (.slice (some ⟨g, 0, none⟩) ps.length cap) ps.length (ps.map .string) ∧ Below w.heap.size w wr ∧ ∀ j, (hj : j < ps.length) → j < k → (parseB ps[j]).2 = true) (fun _ i _ => ps.length - (intOf i).toNat)
    case atStart => exact ⟨0, Nat.zero_le _, rfl, O0.out, by have := O1.out; simpa using this, hbel1, fun j _ h => absurd h (by omega)⟩
    case round =>
      obtain ⟨k, hk, rfl, hown, hop, hbel, hall⟩ := hrel
      by_cases hlt : k < ps.length
      · have hlt' : (k : Int) < (ps.length : Int) := by omega
        have cx : wr.cell? ⟨g, k, none⟩ = some (.string ps[k]) := by
          rw [hop.cellAt k (by omega)]; simp [List.getElem?_eq_getElem hlt]
        have hpk := HSZ.out ps[k] (List.getElem_mem hlt)
        have HTr := Lib.hid (HTB.out.below hbel (Nat.le_refl _))
        by_cases hok : (parseB ps[k]).2 = true
        · have hall' : ∀ j, (hj : j < ps.length) → j < k + 1 → (parseB ps[j]).2 = true := fun j hj hjk => by
            by_cases e : j = k
            · subst e; exact hok
            · exact hall j hj (by omega)
          have HALL := Lib.hid hall'
          have HK := Lib.hid (HTK.out k hlt)
          have HO := Lib.hid hok
          clear hall hall' hok
          generalize ps[k] = p at cx hpk HK HO
          go_wp2_with fail
          refine (implParse_any p _ (by unfold maxLen; omega) HTr.out).mono ?_
          intro e w2 ⟨hp, hb2⟩
          unfold ParRes at hp
          rw [HO.out] at hp
          subst hp
          change Hid (_ = _ ++ [parN p]) at HK
          change Hid (_ = _ ++ [parN p]) at HK
          have hdef : (parseB p).1 = parN p := rfl
          rw [hdef]
          clear hdef
          generalize parN p = n at HK
          have hown2 := own_below hown hb2 (Nat.le_refl _)
          have hop2 := own_below hop hb2 (Nat.le_refl _)
          have hbel2 := hbel.trans (hb2.mono hbel.size)
          clear hown hop hb2
          go_wp2_with (at_builtin; refine wpList_append_own _ rfl (.tmp 25) (.tmp 27) 26 rfl w.heap.size 3 i0 (.int .i64 0) 1 8 Tryz.underlying26 hi hz0 hz1 hz2 rfl (by decide) _ k (((ps.take k).map parN).map (.int .i64)) rfl (by exact hown2.alloc _) ⟨w2.heap.size, 0, none⟩ 1 1 [.int .i64 n] rfl rfl (by exact new_cell _ _ _) (by simp [Value.oneCell']) (by unfold maxLen; omega) (by omega) (by have := hbel2.size; simp; omega) ?_; intro v' w3 hown3 hg3 _)
          have R : Hid (w3.ownsRow w.heap.size 3 1 v' (k + 1) (((ps.take (k + 1)).map parN).map (.int .i64)) ∧ w3.ownsRow w.heap.size 9 1 (.slice (some ⟨g, 0, none⟩) ps.length cap) ps.length (ps.map .string) ∧ Below w.heap.size w w3) := by
            rw [HK.out, map_snocI]
            exact Lib.hid ⟨hown3, own_grown (hop2.alloc _) hg3 (fun i hi => .inr (own_ne hown2 hop2 (by decide) i hi)), (hbel2.alloc hbel2.size _).grown hg3 (by have := hbel2.size; simp; omega) (fun i hi => (hown2.lt i hi).1)⟩
          clear hown3 hg3 hown2 hop2
          go_wp2
          go_roundw
          case rel => exact ⟨k + 1, by omega, by go_num, R.out.1, R.out.2.1, R.out.2.2, HALL.out⟩
          case measure => simp [intOf]; omega
        · have hok' : (parseB ps[k]).2 = false := by simpa using hok
          have HB := Lib.hid (HBAD.out k hlt hok')
          have HO := Lib.hid hok'
          clear hall hok hok' hown hop
          generalize ps[k] = p at cx hpk HO
          go_wp2_with fail
          refine (implParse_any p _ (by unfold maxLen; omega) HTr.out).mono ?_
          intro e w2 ⟨hp, hb2⟩
          unfold ParRes at hp
          rw [HO.out] at hp
          subst hp
          generalize (parseB p).1 = n
          go_wp2
          go_ret2
          exact ⟨_, by rw [HB.out]; rfl, by rw [HB.out]; exact World.ownsRow_nil _ _ _ _, hbel.trans (hb2.mono hbel.size)⟩
      · have hge : ¬ (k : Int) < (ps.length : Int) := by omega
        obtain rfl : k = ps.length := by omega
        rw [List.take_of_length_le (Nat.le_refl _)] at hown
        have HY := Lib.hid (HOK.out (fun j hj => hall j hj hj))
        have HOW := Lib.hid hown
        clear hall hown hop
        go_wp2
        go_ret2
        exact ⟨_, by rw [HY.out]; rfl, by rw [HY.out]; simpa using HOW.out, hbel⟩
end Go.Proofs.YtnbkiobbacaaiaaGreatDoor
