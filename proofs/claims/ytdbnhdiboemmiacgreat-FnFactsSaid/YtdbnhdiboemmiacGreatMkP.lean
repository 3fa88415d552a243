/- DERIVED. CONTRACT: spec.MakeProject: a project made of bytes. -/
import Derived.Test.YtdbnhdiboemmiacGreatDr6
import Derived.Test.YtdbnhdiboemmiacGreatDats
namespace Go.Proofs.YtdbnhdiboemmiacGreat
open Go.RowKit
set_option linter.unusedVariables false

def box0 : List Value := [.int .i64 0, .slice none 0 0, .slice none 0 0, .slice none 0 0, .slice none 0 0]
theorem made_pj {W w w1 w3 : World} {t : TypeId} {g c : Nat} {A : Option Addr} {bs : List Int} {p : Pj} {v : Value} {F : List Nat} (S : Sn w W [boxI w.heap.size t box0]) (hd : Drw W w1 g A c bs) (ho : (trPj p).own w3 w1.heap.size v F) (hn : F.Nodup) (hd3 : Drw W w3 g A c bs) :
    Sn w w3 [⟨trPj p, v, F⟩, boxI w.heap.size t box0] := S.new (Tr.own_base hd.bel.size _ _ _ ho) hn hd3.bel
theorem made_end {w w3 : World} {t : TypeId} {p : Pj} {v : Value} {F : List Nat} (S : Sn w w3 [⟨trPj p, v, F⟩, boxI w.heap.size t box0]) (d a l r s : Value) :
    ∀ w4, w4 = (((((w3.setCell ⟨w.heap.size, 0, none⟩ d).setCell ⟨w.heap.size, 1, none⟩ a).setCell ⟨w.heap.size, 2, none⟩ l).setCell ⟨w.heap.size, 3, none⟩ r).setCell ⟨w.heap.size, 4, none⟩ s) →
      (trPj p).own w4 w.heap.size v F ∧ F.Nodup ∧ Below w.heap.size w w4 := by
  intro w4 e
  subst e
  generalize trPj p = T at *
  have SZ := ((((S.boxSet 1 rfl 0 d).boxSet 1 rfl 1 a).boxSet 1 rfl 2 l).boxSet 1 rfl 3 r).boxSet 1 rfl 4 s
  exact ⟨(SZ.own 0 rfl).1, (SZ.own 0 rfl).2, SZ.1⟩

set_option maxRecDepth 100000 in
set_option maxHeartbeats 400000 in
theorem makeProject_any (A : Option Addr) (c : Nat) (bs : List Int) (w : World) (hr : Rd w (.slice A bs.length c) (bs.map (.int .u8))) (hu : ∀ b ∈ bs, 0 ≤ b ∧ b ≤ 255) (hl : bs.length ≤ 1048576) :
    Calls Tryz.prog 4 #[.slice A bs.length c] w fun e w' => ∃ v p F, e = .returned v ∧ DrPj 3 p ∧ (trPj p).own w' w.heap.size v F ∧ F.Nodup ∧ Below w.heap.size w w' := by
  have S0 := Lib.hid ((Sn.start w).box 28 box0)
  have H0 := Lib.hid (new_any A c bs _ (hr.below ((Below.refl w.heap.size w).alloc (Nat.le_refl _) (.cells ⟨box0⟩ 28)) (Nat.le_refl _)) hu hl)
  clear hr hu
  go_enter Tryz.func4, Tryz.ntmps4
  go_wp2_with fail
  generalize hW : w.alloc _ = W
  have H1 := Lib.hid (show Calls Tryz.prog 14 #[.slice A bs.length c] W _ from hW ▸ H0.out)
  have S1 := Lib.hid (show Sn w W [boxI w.heap.size 28 box0] from hW ▸ S0.out)
  clear H0 S0 hW
  refine H1.out.mono ?_
  rintro e w1 ⟨rfl, hd, hb⟩
  have K2 := Lib.hid hd
  clear hd hb H1
  go_wp2_with fail
  refine (draw5_any 3 (by omega) _ A c bs _ _ K2.out).mono ?_
  rintro e w3 ⟨v3, p, F, rfl, hp, ho, hn, hd3, hg3⟩
  have S3 := Lib.hid (made_pj S1.out K2.out ho hn hd3)
  obtain ⟨A1, c1, A2, c2, A3, c3, A4, c4, rfl, _, _, _, _⟩ := rdProject_t (S3.out.rd 0 rfl)
  have HE := Lib.hid (made_end S3.out)
  obtain ⟨z0, z1, z2, z3, z4, zf⟩ := (S3.out.bk 1 rfl).c5
  have hbz := (S3.out.bk 1 rfl).lt
  have HP := Lib.hid hp
  clear hp ho hn hd3 hg3 S1 K2 S3
  go_wp2
  refine bodyPost_ret (v := .agg #[.int .i64 p.dl, .slice A1 p.acts.length c1, .slice A2 p.lks.length c2, .slice A3 p.ress.length c3, .slice A4 p.stk.length c4]) (by simp [results, Tryz.results4, go_sem, z0, z1, z2, z3, z4]) rfl ?_
  obtain ⟨e1, e2, e3⟩ := HE.out _ _ _ _ _ _ rfl
  exact ⟨_, p, F, rfl, HP.out, e1, e2, e3⟩
end Go.Proofs.YtdbnhdiboemmiacGreat
