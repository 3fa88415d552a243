/- DERIVED. CONTRACTS: spec.MakeNum. -/
import Derived.Test.YthcbndbfgpeokaaDoorCur
namespace Go.Proofs.YthcbndbfgpeokaaDoor
open Go.RowKit

theorem grown_then {a b c : World} {row row' : Option Nat} (h : a.grownBy b row) (k : b.grownBy c row') (hr : ∀ j, row' = some j → a.heap.size ≤ j ∨ row = some j) : a.grownBy c row :=
  ⟨k.os.trans h.os, k.tape.trans h.tape, k.output.trans h.output, Nat.le_trans h.size k.size, fun i hi hne => (k.block i (by have := h.size; omega) (fun e => by
    rcases hr i e.symm with h1 | h1
    · omega
    · exact hne h1.symm)).trans (h.block i hi hne)⟩

set_option maxRecDepth 100000 in
theorem makeNum_small (n : Int) (hn : 0 < n) (hn2 : n ≤ 256) (A : Option Addr) (c : Nat) (bs : List Int) (w : World) (hr : Rd w (.slice A bs.length c) (bs.map (.int .u8))) (hu : ∀ b ∈ bs, 0 ≤ b ∧ b ≤ 255) (hl : bs.length ≤ 1048576) :
    Calls Tryd.prog 7 #[.slice A bs.length c, .int .i64 n] w fun e w' => ∃ r : Int, e = .returned (.int .i64 r) ∧ 0 ≤ r ∧ r < n ∧ Below w.heap.size w w' := by
  have H0 := Lib.hid (new_any A c bs w hr hu hl)
  clear hr hu
  go_enter Tryd.func7, Tryd.ntmps7
  go_wp2_with fail
  refine H0.out.mono ?_
  rintro e w1 ⟨rfl, hd, hb⟩
  obtain ⟨h, hseed⟩ := hd.cur.seed
  have hf2 := hd.cur.fr.2
  have K := Lib.hid (fun x => hd.step (hd.cur.setSeed x) (grown_set (World.grownBy.refl w1 (some w.heap.size)) ⟨w.heap.size, 2, none⟩ rfl (.int .i64 x)))
  clear hd hb H0
  go_wp2_with fail
  generalize hW : World.setCell w1 ⟨w.heap.size, 2, none⟩ _ = w2
  have K2 := Lib.hid (show Drw w w2 w.heap.size A c bs by rw [← hW]; exact K.out _)
  clear hW K hseed hf2
  refine (below_small n hn hn2 _ A c bs w _ K2.out).mono ?_
  rintro e w3 ⟨r, rfl, hr1, hr2, hd3, hg3⟩
  have K3 := Lib.hid hd3.bel
  clear hd3 hg3
  go_wp2
  go_ret
  exact ⟨_, rfl, hr1, hr2, K3.out⟩

set_option maxRecDepth 100000 in
theorem makeNum_big (n : Int) (hn : 256 < n) (hn2 : n ≤ 1099511627776) (A : Option Addr) (c : Nat) (bs : List Int) (w : World) (hr : Rd w (.slice A bs.length c) (bs.map (.int .u8))) (hu : ∀ b ∈ bs, 0 ≤ b ∧ b ≤ 255) (hl : bs.length ≤ 1048576) :
    Calls Tryd.prog 7 #[.slice A bs.length c, .int .i64 n] w fun e w' => ∃ r : Int, e = .returned (.int .i64 r) ∧ 0 ≤ r ∧ r < n ∧ Below w.heap.size w w' := by
  have H0 := Lib.hid (new_any A c bs w hr hu hl)
  clear hr hu
  go_enter Tryd.func7, Tryd.ntmps7
  go_wp2_with fail
  refine H0.out.mono ?_
  rintro e w1 ⟨rfl, hd, hb⟩
  obtain ⟨h, hseed⟩ := hd.cur.seed
  have hf2 := hd.cur.fr.2
  have K := Lib.hid (fun x => hd.step (hd.cur.setSeed x) (grown_set (World.grownBy.refl w1 (some w.heap.size)) ⟨w.heap.size, 2, none⟩ rfl (.int .i64 x)))
  clear hd hb H0
  go_wp2_with fail
  generalize hW : World.setCell w1 ⟨w.heap.size, 2, none⟩ _ = w2
  have K2 := Lib.hid (show Drw w w2 w.heap.size A c bs by rw [← hW]; exact K.out _)
  clear hW K hseed hf2
  refine (below_big n hn hn2 _ A c bs w _ K2.out).mono ?_
  rintro e w3 ⟨r, rfl, hr1, hr2, hd3, hg3⟩
  have K3 := Lib.hid hd3.bel
  clear hd3 hg3
  go_wp2
  go_ret
  exact ⟨_, rfl, hr1, hr2, K3.out⟩
end Go.Proofs.YthcbndbfgpeokaaDoor
