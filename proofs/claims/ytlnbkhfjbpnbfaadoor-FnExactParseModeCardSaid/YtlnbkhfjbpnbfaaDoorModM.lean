/- DERIVED. CONTRACTS of the laws' helpers: markMode, heldMode; the state's boxes written. -/
import Derived.Test.YtlnbkhfjbpnbfaaDoorModK
import Derived.Test.YtlnbkhfjbpnbfaaDoorShp
namespace Go.Proofs.YtlnbkhfjbpnbfaaDoor
open Go.RowKit

/-- A mode whose two rows are marked from k on. -/
def marked1 (k : Nat) (m : Md) : Md := ⟨m.du, marksZ k m.us.length, marksZ (k + m.us.length) m.co.length⟩

set_option maxRecDepth 100000 in
set_option maxHeartbeats 1000000 in
theorem markM_any (k B : Nat) (m : Md) (v : Value) (F : List Nat) (w : World) (hown : (trM m).own w B v F) (hn : F.Nodup) (h0 : 0 < k) (hk : k + (m.us.length + m.co.length) ≤ 1000000000) :
    Calls Tryd.prog 12 #[v, .int .i64 k] w fun e w' => ∃ F', e = .returned (.int .i64 (k + (m.us.length + m.co.length) : Nat)) ∧ (trM (marked1 k m)).own w' B v F' ∧ F'.Nodup ∧ (∀ x ∈ F', x ∈ F) ∧ Wr F w w' := by
  obtain ⟨u, c, G, H, rfl, hu, hc, rfl⟩ := ownM hown
  have hltG := Tr.own_lt _ _ _ hu
  have hltH := Tr.own_lt _ _ _ hc
  obtain ⟨nG, nH, hGH⟩ := List.nodup_append.1 hn
  obtain ⟨ou, eG⟩ := own_flat hu
  obtain ⟨oc, eH⟩ := own_flat hc
  obtain ⟨A1, c1, rfl, _⟩ := rdI_slice (own_rd ou (own_le ou))
  obtain ⟨A2, c2, rfl, _⟩ := rdI_slice (own_rd oc (own_le oc))
  simp only [List.length_map] at ou oc
  obtain ⟨hb0, hk0, hs0⟩ := boxes1 w 27 #[.int .i64 m.du, .slice A1 m.us.length c1, .slice A2 m.co.length c2]
  have OU := Lib.hid (own_keep1 ou (fun j hj => hb0.block j (by have := (hltG j (by rw [eG, mem_own]; exact hj)).2; exact this)))
  have OC := Lib.hid (Tr.own_below hc hb0 (Nat.le_refl _))
  have EG := Lib.hid eG
  have EH := Lib.hid eH
  have GH := Lib.hid hGH
  have LG := Lib.hid hltG
  have LH := Lib.hid hltH
  have NN := Lib.hid hn
  clear hu hc hn ou oc hltG hltH nG nH hGH hown eG eH
  go_enter Tryd.func12, Tryd.ntmps12
  go_wp2_with fail
  generalize w.alloc (.cells #[.int .i64 m.du, .slice A1 m.us.length c1, .slice A2 m.co.length c2] 27) = w0 at hb0 hk0 hs0 OU OC ⊢
  refine (markI_any k m.us.length B _ _ _ OU.out h0 (by omega)).mono ?_
  rintro e w1 ⟨rfl, o1, g1⟩
  rw [marksZ_I] at o1
  have W1 := Lib.hid (show Wr G w0 w1 from EG.out ▸ Wr.of_grown g1)
  have hK1 := hk0.wr W1.out (fun e => by have := (LG.out _ e).2; omega)
  obtain ⟨e0, e1, e2, ef⟩ := hK1.c3
  have O1 := Lib.hid o1
  have OC1 := Lib.hid (Tr.own_keep _ _ _ OC.out (fun j hj => W1.out.block j (by have := (LH.out j hj).2; omega) (fun e => GH.out j e j hj rfl)))
  have HB0 := Lib.hid hb0
  clear o1 g1 hb0 hk0 hK1
  go_wp2_with fail
  refine (markI_any (k + m.us.length) m.co.length B _ _ _ (by simpa using (own_flat OC1.out).1) (by omega) (by omega)).mono ?_
  rintro e w2 ⟨rfl, o2, g2⟩
  rw [marksZ_I] at o2
  have W2 := Lib.hid (show Wr H w1 w2 from EH.out ▸ Wr.of_grown g2)
  have HU := Lib.hid (show (trI (marksZ k m.us.length)).own w2 B (.slice A1 m.us.length c1) G from Tr.own_keep _ _ _ (EG.out ▸ (flat_own O1.out).1) (fun j hj => W2.out.block j (by have := (LG.out j hj).2; have := W1.out.size; omega) (fun e => GH.out j hj j e rfl)))
  have HC := Lib.hid (show (trI (marksZ (k + m.us.length) m.co.length)).own w2 B (.slice A2 m.co.length c2) H from EH.out ▸ (flat_own o2).1)
  have WF := Lib.hid (((Wr.of_below HB0.out (Nat.le_refl _)).trans ((W1.out.sub (fun x hx => List.mem_append.2 (.inl hx))).trans (W2.out.sub (fun x hx => List.mem_append.2 (.inr hx))))) : Wr (G ++ H) w w2)
  clear o2 g2
  go_wp2
  go_ret
  exact ⟨G ++ H, ret_numZ (by omega), mk_ownM (m := marked1 k m) HU.out HC.out, NN.out, fun _ hx => hx, WF.out⟩

set_option maxRecDepth 100000 in
set_option maxHeartbeats 1000000 in
theorem heldM_any (k : Nat) (m : Md) (v : Value) (w : World) (hr : (trM (marked1 k m)).rd w v) (h0 : 0 < k) (hk : k + (m.us.length + m.co.length) ≤ 1000000000) :
    Calls Tryd.prog 13 #[v, .int .i64 k] w fun e w' => e = .returned (.int .i64 (k + (m.us.length + m.co.length) : Nat)) ∧ Below w.heap.size w w' := by
  obtain ⟨U, cu, C, cc, rfl, r1, r2⟩ := rdM hr
  clear hr
  have S0 := Lib.hid ((Sn.start w).box 27 [.int .i64 (marked1 k m).du, .slice U (marked1 k m).us.length cu, .slice C (marked1 k m).co.length cc])
  have R1 := Lib.hid (show Rd w (.slice U (marked1 k m).us.length cu) (marksI k m.us.length) from by rw [marksZ_I]; exact r1)
  have R2 := Lib.hid (show Rd w (.slice C (marked1 k m).co.length cc) (marksI (k + m.us.length) m.co.length) from by rw [marksZ_I]; exact r2)
  clear r1 r2
  generalize (marked1 k m).us.length = lu at S0 R1 ⊢
  generalize (marked1 k m).co.length = lc at S0 R2 ⊢
  generalize (marked1 k m).du = d at S0 ⊢
  go_enter Tryd.func13, Tryd.ntmps13
  go_wp2_with fail
  refine (heldI_any k m.us.length _ _ (R1.out.below S0.out.1 (Nat.le_refl _)) h0 (by omega)).mono ?_
  rintro e w1 ⟨rfl, b⟩
  have S1 := Lib.hid (S0.out.go b)
  clear S0 b
  obtain ⟨e0, e1, e2, ef⟩ := (S1.out.bk 0 rfl).c3
  go_wp2_with fail
  refine (heldI_any (k + m.us.length) m.co.length _ _ (R2.out.below S1.out.1 (Nat.le_refl _)) (by omega) (by omega)).mono ?_
  rintro e w2 ⟨rfl, b⟩
  have S2 := Lib.hid (S1.out.go b)
  clear S1 b
  go_wp2
  go_ret
  exact ⟨ret_numZ (by omega), S2.out.1⟩
end Go.Proofs.YtlnbkhfjbpnbfaaDoor
