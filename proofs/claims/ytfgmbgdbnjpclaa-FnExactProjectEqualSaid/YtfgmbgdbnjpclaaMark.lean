/- DERIVED. CONTRACTS: markText. -/
import Derived.Test.YtfgmbgdbnjpclaaChecked
import Derived.Test.YtfgmbgdbnjpclaaRd
import Derived.WalkKit
import Derived.Lib.Hide
import Derived.Laws.BytesArg
import Derived.OwnWalk
import Derived.BigQuiet
import Derived.Deep.QuietTactic
import Derived.Outline
import Derived.Deep.RegionWith
namespace Go.Proofs.Ytfgmbgdbnjpclaa
open Go.RowKit

def mtDig (k : Nat) : ByteArray := strOfNums [48 + (k : Int) % 10]
theorem mtDig_size (k : Nat) : (mtDig k).size = 1 := by simp [mtDig, strOfNums, ByteArray.size]
def mtGo : Nat → Nat → ByteArray → ByteArray
  | 0, _, acc => acc
  | f + 1, k, acc => if k = 0 then acc else mtGo f (k / 10) (mtDig k ++ acc)
/-- What markText answers at k > 0. -/
def mtxt (k : Nat) : ByteArray := ⟨#[109]⟩ ++ mtGo k k ByteArray.empty

set_option maxRecDepth 100000 in
set_option maxHeartbeats 1000000 in
theorem markText_any (k0 : Nat) (w : World) (h0 : 0 < k0) (hk : k0 ≤ 1000000000) :
    Calls Try.prog 117 #[.int .i64 k0] w fun e w' => e = .returned (.string (mtxt k0)) ∧ Below w.heap.size w w' := by
  have h0' : ¬ (k0 : Int) ≤ 0 := by omega
  go_enter Try.func117, Try.ntmps117
  go_wp2
  go_loopw [0, 3] (fun i s wr => ∃ (k f : Nat) (acc : ByteArray), k ≤ f ∧ f ≤ k0 ∧ i = .int .i64 k ∧ s = .string acc ∧ Below w.heap.size w wr ∧ mtGo f k acc = mtGo k0 k0 ByteArray.empty ∧ acc.size ≤ k0 - f) (fun i _ _ => (intOf i).toNat)
  case atStart => exact ⟨k0, k0, ByteArray.empty, Nat.le_refl _, Nat.le_refl _, rfl, rfl, Below.refl _ _, rfl, Nat.zero_le _⟩
  case round =>
    obtain ⟨k, f, acc, hkf, hf, rfl, rfl, hb, hgo, hsz⟩ := hrel
    by_cases hz : 0 < k
    · have hz' : (0 : Int) < k := by omega
      have hcv : (convert 62 9 (.slice (some ⟨wr.heap.size, 0, none⟩) 1 1)).run Try.prog (wr.alloc (.cells #[.int .u8 (48 + (k : Int) % 10)] 5)) = .ok (.string (mtDig k)) (wr.alloc (.cells #[.int .u8 (48 + (k : Int) % 10)] 5)) :=
        run_convert_bytes_arg _ 62 5 Try.underlying62 Try.underlying5 wr.heap.size 0 1 1 [48 + (k : Int) % 10] rfl (fun i hi => by
          obtain rfl : i = 0 := by omega
          rw [World.cell?_alloc_at _ _ _ _ rfl]; rfl) 9 Try.underlying9
      have hds := mtDig_size k
      obtain ⟨f', rfl⟩ : ∃ f', f = f' + 1 := ⟨f - 1, by omega⟩
      have hnext : mtGo f' (k / 10) (mtDig k ++ acc) = mtGo k0 k0 ByteArray.empty := by rw [← hgo, mtGo, if_neg (by omega)]
      have HN := Lib.hid hnext
      clear hgo hnext
      generalize mtDig k = d at hcv hds HN
      have hsum : d.size + acc.size ≤ k0 - f' := by omega
      have hsum' : d.size + acc.size ≤ 9223372036854775807 := by omega
      have HS := Lib.hid hsum
      clear hds
      go_wp2
      go_roundw
      case rel => exact ⟨k / 10, f', d ++ acc, by omega, by omega, by go_num, rfl, hb.alloc hb.size _, HN.out, by rw [ByteArray.size_append]; exact HS.out⟩
      case measure => simp [intOf]; omega
    · obtain rfl : k = 0 := by omega
      have hend : mtGo f 0 acc = acc := by cases f <;> simp [mtGo]
      have HN : Hid (mtxt k0 = ⟨#[109]⟩ ++ acc) := Lib.hid (by rw [mtxt, ← hgo, hend])
      have hsum' : 1 + acc.size ≤ 9223372036854775807 := by omega
      clear hgo hend
      go_wp2
      go_ret
      exact ⟨by rw [HN.out]; rfl, hb⟩

def mkS (k : Nat) (i : Nat) : Value := .string (mtxt (k + i))
def marksS (k n : Nat) : List Value := (List.range n).map (mkS k)
theorem marksS_len (k n : Nat) : (marksS k n).length = n := by simp [marksS]

end Go.Proofs.Ytfgmbgdbnjpclaa
