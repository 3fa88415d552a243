/- DERIVED. CONTRACTS: append of one pair; spec.l03Low, spec.MergeSteps, impl.mergedSteps, impl.MergeSteps, StepsEqual. -/
import Derived.Test.YthcbndbfgpeokaaDoorStpB
import Derived.Test.YthcbndbfgpeokaaDoorStpS
import Derived.Test.YthcbndbfgpeokaaDoorApp
import Derived.OwnWalk
import Derived.Laws.AppendOwnNone
namespace Go.Proofs.YthcbndbfgpeokaaDoor
open Go.RowKit

/-- append of one pair onto a row of the call's own. -/
theorem appP1 {w : World} {ops : Array Oper} {rest : List Oper} {o : Oper} {a : Act} {Q : Exit → Act → World → Prop} (hgd : o.guard = none) (s x : Operand) (t : TypeId)
    (ho : o.op = .call { callee := .builtin .append, args := #[s, x], argTypes := #[t, t] }) (ht : Tryd.prog.underlying t = some (.slice 52))
    (base : Nat) (v : Value) (g : Nat) (xs : List Pr) (p : Pr) (hs : a.eval s = v) (hx : a.eval x = .slice (some ⟨g, 0, none⟩) 1 1) (hown : w.ownsRow base 52 2 v xs.length (cellsP xs))
    (hc0 : w.cell? ⟨g, 0, none⟩ = some (.int .i64 p.1)) (hc1 : w.cell? ⟨g, 1, none⟩ = some (.int .i64 p.2))
    (hlen : xs.length + 1 ≤ 1099511627776) (hbase : base ≤ w.heap.size)
    (h : ∀ v' w', w'.ownsRow base 52 2 v' (xs ++ [p]).length (cellsP (xs ++ [p])) → w.grownBy w' v.ownBlock → wpList Tryd.prog ops Q rest (a.put o.dst v') w') :
    wpList Tryd.prog ops Q (o :: rest) a w := by
  obtain ⟨i0, hi, hz0, hz1, hz2⟩ := info_parts infoStep
  refine wpList_append_own w hgd s x t ho base 52 i0 _ 2 16 ht hi hz0 hz1 hz2 rfl (by decide) v xs.length (cellsP xs) hs hown ⟨g, 0, none⟩ 1 1 [.int .i64 p.1, .int .i64 p.2] hx rfl ?_
    (by intro u hu; simp at hu; rcases hu with rfl | rfl <;> rfl) (by unfold maxLen; omega) (by omega) hbase ?_
  · intro j u hu
    match j, hu with
    | 0, hu => simp at hu; subst hu; exact hc0
    | 1, hu => simp at hu; subst hu; exact hc1
  · intro v' w' h1 h2 _
    refine h v' w' ?_ h2
    rw [List.length_append, cellsP_app]
    exact h1
theorem newP0 (w : World) (x y : Value) (t : TypeId) {n : Nat} (h : n = w.heap.size) : (w.alloc (.cells #[x, y] t)).cell? ⟨n, 0, none⟩ = some x := by rw [h, World.cell?_alloc_at _ _ _ _ rfl]; rfl
theorem newP1 (w : World) (x y : Value) (t : TypeId) {n : Nat} (h : n = w.heap.size) : (w.alloc (.cells #[x, y] t)).cell? ⟨n, 1, none⟩ = some y := by rw [h, World.cell?_alloc_at _ _ _ _ rfl]; rfl

theorem madeP0 (w : World) : (w.alloc (.cells #[] 52)).ownsRow w.heap.size 52 2 (.slice (some ⟨w.heap.size, 0, none⟩) 0 0) 0 (cellsP []) := World.ownsRow_made w #[] 0 (Nat.le_refl _) (by decide) rfl

/-- A row of the call's own grown in a later world. -/
theorem step_grown {w wr W w2 : World} {e : TypeId} {z : Nat} {v : Value} {n : Nat} {cs : List Value} (hB : Below w.heap.size w wr) (hown : wr.ownsRow w.heap.size e z v n cs) (hW : Below wr.heap.size wr W) (hg : W.grownBy w2 v.ownBlock) : Below w.heap.size w w2 :=
  (hB.trans (hW.mono hB.size)).grown hg (Nat.le_trans hB.size hW.size) (own_mem hown)

theorem low_keep {xs : List Pr} {k : Nat} (h : k < xs.length) (hk : 0 < k) (he : xs[k].2 = (xs[k - 1]'(by omega)).2) : lowP (xs.take (k + 1)) = lowP (xs.take k) := by
  rw [List.take_succ_eq_append_getElem h, lowP_snoc, endC_take hk (by omega), if_pos (by rw [he]), List.append_nil]
theorem low_add {xs : List Pr} {k : Nat} (h : k < xs.length) (hk : 0 < k) (he : xs[k].2 ≠ (xs[k - 1]'(by omega)).2) : lowP (xs.take (k + 1)) = lowP (xs.take k) ++ [xs[k]] := by
  rw [List.take_succ_eq_append_getElem h, lowP_snoc, endC_take hk (by omega), if_neg (by intro e; exact he (Option.some.inj e).symm)]
theorem low_first {xs : List Pr} (h : 0 < xs.length) : lowP (xs.take 1) = lowP (xs.take 0) ++ [xs[0]] := by
  rw [List.take_succ_eq_append_getElem h, lowP_snoc]; rfl
theorem low_last {xs : List Pr} {k : Nat} (hk : 0 < k) (h : k ≤ xs.length) : ∃ hn : 0 < (lowP (xs.take k)).length, ((lowP (xs.take k))[(lowP (xs.take k)).length - 1]'(by omega)).2 = (xs[k - 1]'(by omega)).2 := by
  have hn : 0 < (lowP (xs.take k)).length := by
    rw [List.length_pos_iff]
    intro e
    have := lowP_nil.1 e
    rw [List.take_eq_nil_iff] at this
    rcases this with rfl | rfl
    · omega
    · simp at h; omega
  refine ⟨hn, ?_⟩
  have h1 := lowP_end (xs.take k)
  rw [endC_getD hn, endC_take hk h] at h1
  exact Option.some.inj h1
theorem low_take_len (xs : List Pr) (k : Nat) : (lowP (xs.take k)).length ≤ xs.length := Nat.le_trans (lowP_len _) (by simp; omega)

set_option maxRecDepth 100000 in
set_option maxHeartbeats 2000000 in
theorem implMerged_any (xs : List Pr) (v : Value) (w : World) (hr : RdP w v xs) (hlen : xs.length ≤ 1073741823) :
    Calls Tryd.prog 29 #[v] w fun e w' => ∃ v', e = .returned v' ∧ w'.ownsRow w.heap.size 52 2 v' (lowP xs).length (cellsP (lowP xs)) ∧ Below w.heap.size w w' := by
  obtain ⟨A, c, rfl, HR⟩ := rdPk hr
  clear hr
  have HA := Lib.hid HR
  clear HR
  go_enter Tryd.func29, Tryd.ntmps29
  go_wp2
  go_loopw [3, 8] (fun out i wr => ∃ k : Nat, k ≤ xs.length ∧ i = .int .i64 k ∧ wr.ownsRow w.heap.size 52 2 out (lowP (xs.take k)).length (cellsP (lowP (xs.take k))) ∧ Below w.heap.size w wr) (fun _ i _ => xs.length - (intOf i).toNat)
  case atStart => exact ⟨0, Nat.zero_le _, rfl, World.ownsRow_nil _ _ _ _, Below.refl _ _⟩
  case round =>
    obtain ⟨k, hk, rfl, hown, hbel⟩ := hrel
    by_cases hlt : k < xs.length
    · have hlt' : (k : Int) < (xs.length : Int) := by omega
      obtain ⟨b, o, rfl, hb, hc⟩ := HA.out k hlt
      have hbw : b < wr.heap.size := by have := hbel.size; omega
      obtain ⟨cx0, cx1⟩ := hc k hlt
      replace cx0 := (hbel.cell (p := ⟨b, o + k * 2, none⟩) hb).trans cx0
      replace cx1 := (hbel.cell (p := ⟨b, o + k * 2 + 1, none⟩) hb).trans cx1
      have hl2 := low_take_len xs k
      have HB := Lib.hid hbel
      clear hbel
      by_cases hk0 : k = 0
      · have hk0e : ((k : Int) == 0) = true := by simpa using hk0
        have HF := Lib.hid (show lowP (xs.take (k + 1)) = lowP (xs.take k) ++ [(xs[k].1, xs[k].2)] from by subst hk0; exact low_first hlt)
        generalize lowP (xs.take k) = zs at hown HF hl2
        have HK := Lib.hid hk0
        clear hk0 hc
        generalize xs[k].1 = x0 at cx0 HF
        generalize xs[k].2 = x1 at cx1 HF
        go_wp2
        go_quiet (fail)
        go_wp2_with (at_builtin; refine appP1 rfl (.tmp 26) (.tmp 28) 23 rfl rfl w.heap.size _ _ zs (x0, x1) rfl rfl (by exact own_below hown ((below_drewN ((Below.refl _ _).alloc (Nat.le_refl _) _) _).alloc (by simp) _) (Nat.le_refl _)) (by exact newP0 _ _ _ _ (by simp)) (by exact newP1 _ _ _ _ (by simp)) (by omega) (by have := HB.out.size; simp; omega) ?_; intro v2 w2 hown2 hg2; have S2 := Lib.hid (And.intro hown2 (step_grown HB.out hown ((below_drewN ((Below.refl _ _).alloc (Nat.le_refl _) _) _).alloc (by simp) _) hg2)); rw [← HF.out] at S2; clear hown2 hg2 hown)
        go_roundw
        case rel => exact ⟨k + 1, by omega, by go_num, S2.out.1, S2.out.2⟩
        case measure => simp [intOf]; omega
      · have hk0e : ((k : Int) == 0) = false := by simpa using hk0
        have hk0n : 0 < k := by omega
        obtain ⟨k1, hk1⟩ : ∃ k1, k1 = k - 1 := ⟨_, rfl⟩
        have hlt1 : k1 < xs.length := by omega
        have hw : IntKind.i64.wrap ((k : Int) - 1) = (k1 : Int) := by rw [IntKind.wrap_i64]; omega
        have hltk : (k1 : Int) < (xs.length : Int) := by omega
        have hge1 : 0 ≤ (k1 : Int) := by omega
        have cz1 := (HB.out.cell (p := ⟨b, o + k1 * 2 + 1, none⟩) hb).trans (hc k1 hlt1).2
        by_cases he : xs[k].2 = xs[k1].2
        · have HF := Lib.hid (low_keep hlt hk0n (by rw [he]; congr 2))
          generalize lowP (xs.take k) = zs at hown HF hl2
          rw [← HF.out] at hown
          have S2 := Lib.hid (And.intro hown (((HB.out.alloc HB.out.size (.cells #[.int .i64 xs[k].1, .int .i64 xs[k].2] 52)))))
          have HO := Lib.hid hown
          have HK1 := Lib.hid hk1
          rw [he] at cx1
          clear hown hk0 hc he hk1
          generalize xs[k].1 = x0 at cx0 S2
          generalize xs[k1].2 = x1 at cx1 cz1
          go_wp2
          go_quiet (fail)
          go_wp2
          go_roundw
          case rel => exact ⟨k + 1, by omega, by go_num, own_below S2.out.1 (below_drewN ((Below.refl _ _).alloc (Nat.le_refl _) _) _) (Nat.le_refl _), below_drewN (HB.out.alloc HB.out.size _) _⟩
          case measure => simp [intOf]; omega
        · have HF := Lib.hid (show lowP (xs.take (k + 1)) = lowP (xs.take k) ++ [(xs[k].1, xs[k].2)] from low_add hlt hk0n (by subst hk1; exact he))
          generalize lowP (xs.take k) = zs at hown HF hl2
          have HK1 := Lib.hid hk1
          have he' : (xs[k].2 != xs[k1].2) = true := by simpa using he
          clear hk0 hc he hk1
          generalize xs[k].1 = x0 at cx0 HF
          generalize xs[k].2 = x1 at cx1 HF he'
          generalize xs[k1].2 = z1 at cz1 he'
          go_wp2
          go_quiet (fail)
          go_wp2_with (at_builtin; refine appP1 rfl (.tmp 26) (.tmp 28) 23 rfl rfl w.heap.size _ _ zs (x0, x1) rfl rfl (by exact own_below hown ((below_drewN ((Below.refl _ _).alloc (Nat.le_refl _) _) _).alloc (by simp) _) (Nat.le_refl _)) (by exact newP0 _ _ _ _ (by simp)) (by exact newP1 _ _ _ _ (by simp)) (by omega) (by have := HB.out.size; simp; omega) ?_; intro v2 w2 hown2 hg2; have S2 := Lib.hid (And.intro hown2 (step_grown HB.out hown ((below_drewN ((Below.refl _ _).alloc (Nat.le_refl _) _) _).alloc (by simp) _) hg2)); rw [← HF.out] at S2; clear hown2 hg2 hown)
          go_roundw
          case rel => exact ⟨k + 1, by omega, by go_num, S2.out.1, S2.out.2⟩
          case measure => simp [intOf]; omega
    · have hge : ¬ (k : Int) < (xs.length : Int) := by omega
      obtain rfl : k = xs.length := by omega
      rw [List.take_length] at hown
      have HO := Lib.hid (And.intro hown hbel)
      clear hown hbel
      go_wp2
      go_ret
      exact ⟨_, rfl, HO.out.1, HO.out.2⟩

theorem implMerge_any (xs : List Pr) (v : Value) (w : World) (hr : RdP w v xs) (hlen : xs.length ≤ 1073741823) :
    Calls Tryd.prog 16 #[v] w fun e w' => ∃ v', e = .returned v' ∧ w'.ownsRow w.heap.size 52 2 v' (mergeB xs).length (cellsP (mergeB xs)) ∧ Below w.heap.size w w' := by
  have HR := Lib.hid hr
  have HQ := Lib.hid (show mergeB xs = if okP xs then lowP xs else [] from rfl)
  clear hr
  generalize mergeB xs = ms at *
  go_enter Tryd.func16, Tryd.ntmps16
  go_wp2_with fail
  refine (implStepsOk_any xs _ _ HR.out).mono ?_
  rintro e w1 ⟨rfl, hb1⟩
  have HB := Lib.hid hb1
  clear hb1
  rcases hok : okP xs with _ | _
  · have HO := Lib.hid hok
    clear hok
    go_wp2
    go_ret
    refine ⟨_, rfl, ?_, HB.out⟩
    rw [HQ.out, HO.out]
    exact World.ownsRow_nil _ _ _ _
  · have HO := Lib.hid hok
    clear hok
    go_wp2_with fail
    refine (implMerged_any xs _ _ (HR.out.below HB.out (Nat.le_refl _)) hlen).mono ?_
    rintro e w2 ⟨v2, rfl, ho2, hb2⟩
    have H2 := Lib.hid (And.intro (own_base1 ho2 HB.out.size) (HB.out.trans (hb2.mono HB.out.size)))
    clear ho2 hb2
    go_wp2
    go_ret
    refine ⟨_, rfl, ?_, H2.out.2⟩
    rw [HQ.out, HO.out]
    exact H2.out.1
end Go.Proofs.YthcbndbfgpeokaaDoor
