/- DERIVED. Rows of literals: read, cut, appended whole, written one by one; the bridge to the sort's words. -/
import Derived.Test.YtgbpomakomddjabGreatDoorDmKG
import Derived.Test.YtgbpomakomddjabGreatDoorRegZ
import Derived.Maps.AppendAt
import Derived.Sort.Grow
import Derived.Lib.OwnBridge
import Derived.Shelf.SlSortCmp.InsertionK
namespace Go.Proofs.YtgbpomakomddjabGreatDoor
open Go.RowKit Go.Shelf Go.Sort
set_option linter.unusedVariables false

instance instInhLt : Inhabited Lt := ⟨litNone⟩
def encLt (x : Lt) : List Value := [.int .i64 x.ki, .int .i64 x.ac, .int .i64 x.va]
theorem encLt_len (x : Lt) : (encLt x).length = 3 := rfl
theorem encLt_one (x : Lt) : ∀ v ∈ encLt x, v.oneCell' = true := by
  intro v hv
  simp only [encLt, List.mem_cons, List.not_mem_nil, or_false] at hv
  rcases hv with rfl | rfl | rfl <;> rfl
theorem cells3_cons (x : Lt) (l : List Lt) : cells3 (x :: l) = encLt x ++ cells3 l := by simp [cells3, encLt]
theorem cells3_len : ∀ l : List Lt, (cells3 l).length = l.length * 3
  | [] => rfl
  | x :: l => by rw [cells3_cons, List.length_append, cells3_len l, encLt_len, List.length_cons]; omega
theorem cells3_one (l : List Lt) : ∀ u ∈ cells3 l, u.oneCell' = true := by
  intro u hu
  obtain ⟨x, _, h⟩ := List.mem_flatMap.1 hu
  exact encLt_one x u h
theorem cells3_take : ∀ (l : List Lt) (k : Nat), (cells3 l).take (k * 3) = cells3 (l.take k)
  | [], k => by simp [cells3]
  | x :: l, 0 => by simp [cells3]
  | x :: l, k + 1 => by
    rw [List.take_succ_cons, cells3_cons, cells3_cons, ← cells3_take l k, show (k + 1) * 3 = (encLt x).length + k * 3 from by rw [encLt_len]; omega, List.take_length_add_append]
theorem cells3_drop : ∀ (l : List Lt) (k : Nat), (cells3 l).drop (k * 3) = cells3 (l.drop k)
  | [], k => by simp [cells3]
  | x :: l, 0 => by simp
  | x :: l, k + 1 => by
    rw [List.drop_succ_cons, cells3_cons, ← cells3_drop l k, show (k + 1) * 3 = (encLt x).length + k * 3 from by rw [encLt_len]; omega, List.drop_length_add_append]
theorem cells3_at : ∀ (l : List Lt) (j : Nat) (h : j < l.length), (cells3 l)[j * 3]? = some (.int .i64 l[j].ki) ∧ (cells3 l)[j * 3 + 1]? = some (.int .i64 l[j].ac) ∧ (cells3 l)[j * 3 + 2]? = some (.int .i64 l[j].va)
  | x :: l, 0, _ => ⟨rfl, rfl, rfl⟩
  | x :: l, j + 1, h => by
    have := cells3_at l j (by simpa using h)
    rw [cells3_cons]
    have e : ∀ q, (encLt x ++ cells3 l)[(j + 1) * 3 + q]? = (cells3 l)[j * 3 + q]? := fun q => by
      rw [List.getElem?_append_right (by rw [encLt_len]; omega), encLt_len]
      congr 1; omega
    have e0 := e 0
    simp only [Nat.add_zero] at e0
    rw [e0, e 1, e 2]
    exact this
theorem cells3_set : ∀ (l : List Lt) (j : Nat) (h : j < l.length) (x : Lt), (((cells3 l).set (j * 3) (.int .i64 x.ki)).set (j * 3 + 1) (.int .i64 x.ac)).set (j * 3 + 2) (.int .i64 x.va) = cells3 (l.set j x)
  | y :: l, 0, _, x => rfl
  | y :: l, j + 1, h, x => by
    have := cells3_set l j (by simpa using h) x
    rw [List.set_cons_succ, cells3_cons, cells3_cons, ← this]
    have e : ∀ (m : List Value) q v, (encLt y ++ m).set ((j + 1) * 3 + q) v = encLt y ++ m.set (j * 3 + q) v := fun m q v => by
      rw [List.set_append_right _ _ (by rw [encLt_len]; omega), encLt_len]
      congr 2; omega
    have e0 := e (cells3 l) 0 (.int .i64 x.ki)
    simp only [Nat.add_zero] at e0
    rw [e0, e, e]

theorem rdT_N {w : World} {v : Value} {l : List Lt} (h : (trLts l).rd w v) : RdN 3 w v l.length (cells3 l) := by
  obtain ⟨vs, hN, hv⟩ := h
  rw [flat_lt] at hv
  have e := rdL_ones.1 hv
  subst e
  exact hN
theorem mk_rdT {w : World} {v : Value} {l : List Lt} (h : RdN 3 w v l.length (cells3 l)) : (trLts l).rd w v := ⟨cells3 l, h, by rw [flat_lt]; exact rdL_ones.2 rfl⟩
theorem ownT_row {w : World} {B : Nat} {v : Value} {F : List Nat} {l : List Lt} (h : (trLts l).own w B v F) : w.ownsRow B 55 3 v l.length (cells3 l) := by
  rw [← rowT_tr] at h
  exact (own_flatN h).1
theorem row_ownT {w : World} {B : Nat} {v : Value} {n : Nat} {l : List Lt} (h : w.ownsRow B 55 3 v n (cells3 l)) : (trLts l).own w B v v.ownBlock.toList ∧ v.ownBlock.toList.Nodup := by
  have hn : n = l.length := by have := h.1; rw [cells3_len] at this; omega
  subst hn
  rw [← rowT_tr]
  exact flatN_own h
/-- Where a row of one's own lies. -/
theorem ownsT_cases {w : World} {B n : Nat} {e : TypeId} {s : Nat} {v : Value} {xs : List Value} (h : w.ownsRow B e s v n xs) : (v = .slice none 0 0 ∧ n = 0) ∨ ∃ g c, v = .slice (some ⟨g, 0, none⟩) n c ∧ B ≤ g ∧ g < w.heap.size ∧ n ≤ c := by
  rcases h.2 with h0 | ⟨g, cap, cur, rfl, hb, hg, hn, hm, _, _⟩
  · exact .inl h0
  · exact .inr ⟨g, cap, rfl, hb, (Array.getElem?_eq_some_iff.1 hg).1, hn⟩
theorem nilOk_ownN {w : World} {base n s : Nat} {e : TypeId} {v : Value} {xs : List Value} (h : w.ownsRow base e s v n xs) : NilOk v := by
  rcases h.2 with ⟨rfl, _⟩ | ⟨g, cap, cur, rfl, _⟩
  · intro _ _ h; injection h with _ _ h; exact h.symm
  · intro _ _ h; injection h with h; cases h
theorem ownsRow_shrink {w : World} {B n cap k g s : Nat} {e : TypeId} {xs : List Value} (h : w.ownsRow B e s (.slice (some ⟨g, 0, none⟩) n cap) n xs) (hk : k ≤ n) : w.ownsRow B e s (.slice (some ⟨g, 0, none⟩) k cap) k (xs.take (k * s)) := by
  rcases h.2 with ⟨h', _⟩ | ⟨g', cap', cur, h', hb, hg, hnc, hcm, hcs, htake⟩
  · cases h'
  · injection h' with e1 _ e3
    injection e1 with e1
    injection e1 with e1
    subst e1 e3
    have hks : k * s ≤ n * s := Nat.mul_le_mul_right s hk
    refine ⟨by rw [List.length_take, h.1]; omega, .inr ⟨g, cap, cur, rfl, hb, hg, by omega, hcm, hcs, ?_⟩⟩
    rw [← htake, List.take_take, Nat.min_eq_left hks]
theorem ownsRow_tail {B n cap g s : Nat} {e : TypeId} {xs : List Value} : ∀ (vs : List Value) (o : Nat) (w : World), w.ownsRow B e s (.slice (some ⟨g, 0, none⟩) n cap) n xs → n * s ≤ o → (w.setCells g o vs).ownsRow B e s (.slice (some ⟨g, 0, none⟩) n cap) n xs
  | [], _, _, h, _ => h
  | v :: vs, o, w, h, ho => by
    have h1 := (h.stored o v).1
    rw [List.set_eq_of_length_le (by rw [h.1]; omega)] at h1
    exact ownsRow_tail vs (o + 1) _ h1 (by omega)
theorem wr_setCells {F : List Nat} {g : Nat} (hg : g ∈ F) : ∀ (vs : List Value) (o : Nat) (w : World), Wr F w (w.setCells g o vs)
  | [], _, w => Wr.refl F w
  | v :: vs, o, w => (Wr.setCell w ⟨g, o, none⟩ hg v).trans (wr_setCells hg vs (o + 1) _)
theorem ownsRow_put3 {w : World} {B n cap g : Nat} {e : TypeId} {l : List Lt} (h : w.ownsRow B e 3 (.slice (some ⟨g, 0, none⟩) n cap) n (cells3 l)) {k : Nat} (hk : k < l.length) (x : Lt) : (w.setCells g (k * 3) (encLt x)).ownsRow B e 3 (.slice (some ⟨g, 0, none⟩) n cap) n (cells3 (l.set k x)) := by
  have h1 := (h.stored (k * 3) (.int .i64 x.ki)).1
  have h2 := (h1.stored (k * 3 + 1) (.int .i64 x.ac)).1
  have h3 := (h2.stored (k * 3 + 2) (.int .i64 x.va)).1
  rw [cells3_set l k hk x] at h3
  exact h3
theorem cellN_at {w : World} {B n cap g : Nat} {e : TypeId} {xs : List Value} {s : Nat} (h : w.ownsRow B e s (.slice (some ⟨g, 0, none⟩) n cap) n xs) {j : Nat} {u : Value} (hj : xs[j]? = some u) : w.cell? ⟨g, j, none⟩ = some u := by
  have := h.cells (g := g) rfl j _ hj
  have hadd : (⟨g, 0, none⟩ : Addr).add j = ⟨g, j, none⟩ := by unfold Addr.add; split <;> simp_all
  rwa [hadd] at this
theorem frozenN_at {w : World} {B n cap g : Nat} {e : TypeId} {xs : List Value} {s : Nat} (h : w.ownsRow B e s (.slice (some ⟨g, 0, none⟩) n cap) n xs) (j : Nat) : w.frozen? ⟨g, j, none⟩ = false := h.frozenAt j
/-- A part of a row reads as the part of its literals. -/
theorem rdT_take {w : World} {A : Option Addr} {n c c' : Nat} {l : List Lt} (h : (trLts l).rd w (.slice A n c)) {k : Nat} (hk : k ≤ l.length) : (trLts (l.take k)).rd w (.slice A k c') := by
  obtain ⟨hl, hs, A', c1, he, hc⟩ := rdT_N h
  injection he with e1 e2 e3
  subst e1 e2 e3
  have ek : (l.take k).length = k := by rw [List.length_take]; omega
  refine mk_rdT ⟨by rw [ek]; omega, cells3_len _, A, c', by rw [ek], ?_⟩
  rcases hc with h0 | ⟨b, o, rfl, hb, hc⟩
  · left; omega
  · refine .inr ⟨b, o, rfl, hb, fun j hj => ?_⟩
    have hj2 := hj
    rw [cells3_len, ek] at hj2
    rw [hc j (by rw [cells3_len]; omega)]
    congr 1
    simp only [← cells3_take, List.getElem_take]
theorem rdT_drop {w : World} {b o n c c' : Nat} {l : List Lt} (h : (trLts l).rd w (.slice (some ⟨b, o, none⟩) n c)) {k m : Nat} (hk : k ≤ l.length) (hm : m = l.length - k) : (trLts (l.drop k)).rd w (.slice (some ⟨b, o + k * 3, none⟩) m c') := by
  obtain ⟨hl, hs, A', c1, he, hc⟩ := rdT_N h
  injection he with e1 e2 e3
  subst e1 e2 e3 hm
  refine mk_rdT ⟨by rw [List.length_drop]; omega, cells3_len _, _, c', by rw [List.length_drop], ?_⟩
  rcases hc with h0 | ⟨b2, o2, e2, hb, hc⟩
  · left; rw [List.length_drop]; omega
  · injection e2 with e2
    injection e2 with e2 e3
    subst e2 e3
    refine .inr ⟨b, o + k * 3, rfl, hb, fun j hj => ?_⟩
    have hj2 := hj
    rw [cells3_len, List.length_drop] at hj2
    rw [show o + k * 3 + j = o + (k * 3 + j) from by omega, hc (k * 3 + j) (by rw [cells3_len]; omega)]
    congr 1
    simp only [← cells3_drop, List.getElem_drop]
/-- A slice of literals appended whole to a row of one's own. -/
theorem app_key {w : World} {A : Option Addr} {c : Nat} {ys : List Lt} (hr : (trLts ys).rd w (.slice A ys.length c)) : ys = [] ∨ ∃ b o, A = some ⟨b, o, none⟩ ∧ ∀ j u, (cells3 ys)[j]? = some u → w.cell? ((⟨b, o, none⟩ : Addr).add j) = some u := by
  obtain ⟨hl, hs, A', c1, he, hc⟩ := rdT_N hr
  injection he with e1 e2 e3
  subst e1 e3
  rcases hc with h0 | ⟨b, o, rfl, hb, hc⟩
  · exact .inl (List.eq_nil_of_length_eq_zero h0)
  · refine .inr ⟨b, o, rfl, fun j u hu => ?_⟩
    obtain ⟨hj, rfl⟩ := List.getElem?_eq_some_iff.1 hu
    have hadd : (⟨b, o, none⟩ : Addr).add j = ⟨b, o + j, none⟩ := by unfold Addr.add; split <;> simp_all
    rw [hadd]
    exact hc j hj
theorem rdT_slice {w : World} {v : Value} {l : List Lt} (h : (trLts l).rd w v) : ∃ A c, v = .slice A l.length c := by
  obtain ⟨_, _, A, c, rfl, _⟩ := rdT_N h
  exact ⟨A, c, rfl⟩
theorem app_rdT {w : World} {ops : Array Oper} {rest : List Oper} {o : Oper} {a : Act} {Q : Exit → Act → World → Prop} (hgd : o.guard = none) (s x : Operand) (t : TypeId)
    (ho : o.op = .call { callee := .builtin .append, args := #[s, x], argTypes := #[t, t] }) (ht : Tryz.prog.underlying t = some (.slice 55))
    (base : Nat) (v vx : Value) (xs ys : List Lt) (hs : a.eval s = v) (hx : a.eval x = vx) (hown : w.ownsRow base 55 3 v xs.length (cells3 xs)) (hr : (trLts ys).rd w vx) (hnil : NilOk vx)
    (hlen : xs.length + ys.length ≤ 1073741824) (hbase : base ≤ w.heap.size)
    (h : ∀ v' w', w'.ownsRow base 55 3 v' (xs ++ ys).length (cells3 (xs ++ ys)) → w.grownBy w' v.ownBlock → (v'.ownBlock = v.ownBlock ∨ v'.ownBlock = some w.heap.size) → wpList Tryz.prog ops Q rest (a.put o.dst v') w') :
    wpList Tryz.prog ops Q (o :: rest) a w := by
  obtain ⟨i0, hi, hz0, hz1, hz2⟩ := info_parts infoLiteral_t
  obtain ⟨A, c, rfl⟩ := rdT_slice hr
  have key : ∀ ad, A = some ad → (∀ j u, (cells3 ys)[j]? = some u → w.cell? (ad.add j) = some u) → wpList Tryz.prog ops Q (o :: rest) a w := by
    intro ad had hc
    subst had
    refine wpList_append_own_at _ hgd s x t ho base 55 i0 _ 3 24 ht hi hz0 hz1 hz2 rfl (by decide) v xs.length (cells3 xs) hs hown ad ys.length c (cells3 ys) hx (cells3_len ys) hc (cells3_one ys) (by unfold maxLen; omega) (by omega) hbase ?_
    intro v' w' h1 h2 _ h4
    exact h v' w' (by rw [List.length_append, cells3_app]; exact h1) h2 h4
  rcases app_key hr with hA | ⟨b, off, rfl, hc⟩
  · subst hA
    cases A with
    | some ad => exact key ad rfl (by intro j u hu; simp [cells3] at hu)
    | none =>
      have hc0 : c = 0 := hnil _ _ rfl
      subst hc0
      refine wpList_append_own_none hgd s x t ho base 55 i0 3 ht hi v xs.length (cells3 xs) hs hown hx ?_
      exact h v w (by simpa using hown) ⟨rfl, rfl, rfl, Nat.le_refl _, fun _ _ _ => rfl⟩ (.inl rfl)
  · exact key _ rfl hc
theorem step_app_rdT {ops : Array Oper} {o : Oper} {a : Act} {w : World} {K : Act → World → Prop} {Q : Exit → Act → World → Prop} {E : Prop} (hgd : o.guard = none) (s x : Operand) (t : TypeId)
    (ho : o.op = .call { callee := .builtin .append, args := #[s, x], argTypes := #[t, t] }) (ht : Tryz.prog.underlying t = some (.slice 55))
    (base : Nat) (v : Value) (xs ys : List Lt) (hs : a.eval s = v) (hown : w.ownsRow base 55 3 v xs.length (cells3 xs))
    (vx : Value) (hx : a.eval x = vx) (hr : (trLts ys).rd w vx) (hnil : NilOk vx) (hlen : xs.length + ys.length ≤ 1073741824) (hbase : base ≤ w.heap.size)
    (h : ∀ v' w', w'.ownsRow base 55 3 v' (xs ++ ys).length (cells3 (xs ++ ys)) → w.grownBy w' v.ownBlock → (v'.ownBlock = v.ownBlock ∨ v'.ownBlock = some w.heap.size) → K (a.put o.dst v') w') :
    if Region.wanted o (yielded ops a.tmps) = true then Oper.wp Tryz.prog o a w K Q else E := by
  have hw : Region.wanted o (yielded ops a.tmps) = true := by simp [Region.wanted, hgd]
  rw [if_pos hw]
  obtain ⟨i0, hi, hz0, hz1, hz2⟩ := info_parts infoLiteral_t
  obtain ⟨A, c, rfl⟩ := rdT_slice hr
  have key : ∀ ad, A = some ad → (∀ j u, (cells3 ys)[j]? = some u → w.cell? (ad.add j) = some u) → Oper.wp Tryz.prog o a w K Q := by
    intro ad had hc
    subst had
    obtain ⟨v', w', hrun, h1, h2, _, h4⟩ := run_append_own_at (P := Tryz.prog) w base t o.type 55 i0 _ 3 24 ht hi hz0 hz1 hz2 rfl (by decide) v xs.length (cells3 xs) hown ad ys.length c (cells3 ys) (cells3_len ys) hc (cells3_one ys) (by unfold maxLen; omega) (by omega) hbase
    unfold Oper.wp
    simp [execOp, ho, resolve, invoke, builtin, hs, hx, hrun, Result.andThen]
    exact h v' w' (by rw [List.length_append, cells3_app]; exact h1) h2 h4
  rcases app_key hr with hA | ⟨b, off, rfl, hc⟩
  · subst hA
    cases A with
    | some ad => exact key ad rfl (by intro j u hu; simp [cells3] at hu)
    | none =>
      have hc0 : c = 0 := hnil _ _ rfl
      subst hc0
      have hrun := run_append_owned_none (P := Tryz.prog) (w := w) base t o.type 55 i0 3 ht hi v xs.length (cells3 xs) hown
      have hx' : a.eval x = .slice none 0 0 := hx
      unfold Oper.wp
      simp [execOp, ho, resolve, invoke, builtin, hs, hx', hrun, Result.andThen]
      exact h v w (by simpa using hown) ⟨rfl, rfl, rfl, Nat.le_refl _, fun _ _ _ => rfl⟩ (.inl rfl)
  · exact key _ rfl hc
section
variable {w0 W W1 w6 : World} {L : List Item} {l m : List Lt} {v v' : Value} {F : List Nat}
theorem Sn.appTs {n : Nat} (h : Sn w0 W (⟨rowT l, v, F⟩ :: L)) (hW : Below W.heap.size W W1) (hown : w6.ownsRow w0.heap.size 55 3 v' n (cells3 (l ++ m)))
    (hg : W1.grownBy w6 v.ownBlock) (hat : v'.ownBlock = v.ownBlock ∨ v'.ownBlock = some W1.heap.size) : ∃ F', Sn w0 w6 (⟨rowT (l ++ m), v', F'⟩ :: L) := by
  have hn : n = (l ++ m).length := by have := hown.1; rw [cells3_len] at this; omega
  subst hn
  rw [cells3_app] at hown
  obtain ⟨F', h'⟩ := Sn.appN h hW hown hg hat
  refine ⟨F', ?_⟩
  have e : rowT (l ++ m) = flatN 55 3 (l ++ m).length (cells3 l ++ cells3 m) := by
    unfold rowT
    rw [cells3_app]
  rw [e]
  exact h'
theorem Sn.newT (h : Sn w0 W L) (o : w6.ownsRow W.heap.size 55 3 v l.length (cells3 l)) (hb : Below W.heap.size W w6) : Sn w0 w6 (⟨rowT l, v, v.ownBlock.toList⟩ :: L) := h.new (flatN_own o).1 (flatN_own o).2 hb
end

-- the sort's words
theorem flatK3 (l : List Lt) : flatK encLt 3 l.toArray = (cells3 l).toArray := by
  refine ext_get! (by rw [size_flatK]; simp [cells3_len]) fun t ht => ?_
  have ht' : t < l.length * 3 := by simpa using ht
  rw [get_flatK _ _ _ _ (by simpa using ht')]
  have hq : t / 3 < l.length := by omega
  have h3 := cells3_at l (t / 3) hq
  have e1 : (l.toArray)[t / 3]! = l[t / 3] := by simp [getElem!_pos, hq]
  have e2 : ((cells3 l).toArray)[t]! = ((cells3 l)[t]?).getD default := by simp
  rw [e1, e2]
  rcases (by omega : t = t / 3 * 3 ∨ t = t / 3 * 3 + 1 ∨ t = t / 3 * 3 + 2) with h | h | h
  · rw [show (cells3 l)[t]? = (cells3 l)[t / 3 * 3]? from by rw [← h], h3.1, show t % 3 = 0 from by omega]; rfl
  · rw [show (cells3 l)[t]? = (cells3 l)[t / 3 * 3 + 1]? from by rw [← h], h3.2.1, show t % 3 = 1 from by omega]; rfl
  · rw [show (cells3 l)[t]? = (cells3 l)[t / 3 * 3 + 2]? from by rw [← h], h3.2.2, show t % 3 = 2 from by omega]; rfl
theorem holdsK3 {w : World} {B n cap g : Nat} {e : TypeId} {l : List Lt} (h : w.ownsRow B e 3 (.slice (some ⟨g, 0, none⟩) n cap) n (cells3 l)) : HoldsK encLt 3 w g 0 l.toArray := by
  unfold HoldsK
  rw [flatK3]
  intro j hj
  have hj' : j < (cells3 l).length := by simpa using hj
  refine ⟨?_, ?_⟩
  · rw [Nat.zero_add, cellN_at h (List.getElem?_eq_getElem hj')]
    simp [getElem!_pos, hj']
  · rw [Nat.zero_add]; exact frozenN_at h j
theorem ownsRow_putRow3 {w : World} {B g n cap q : Nat} {e : TypeId} {zs ys : List Value} (h : w.ownsRow B e 3 (.slice (some ⟨g, 0, none⟩) n cap) n zs) (hy : ys.length = n * 3) : (putRow id (Sort.ahead w q) g 0 ys.toArray).ownsRow B e 3 (.slice (some ⟨g, 0, none⟩) n cap) n ys := by
  rcases h.2 with ⟨e0, _⟩ | ⟨g', cap', cur, e0, hb, hg, hn, hm, hs, ht⟩
  · cases e0
  · injection e0 with e1 _ e3
    injection e1 with e1
    injection e1 with e1
    subst e1; subst e3
    refine ⟨hy, .inr ⟨g, cap, putCells id 0 ys.toArray cur, rfl, hb, ?_, by omega, hm, by simpa [putCells] using hs, ?_⟩⟩
    · simp [putRow, mapBlock, Sort.ahead, Array.getElem?_modify, hg, onCells]
    · apply List.ext_getElem?
      intro j
      rw [List.getElem?_take, Array.getElem?_toList]
      by_cases hj : j < n * 3
      · have hjc : j < cur.size := by omega
        simp only [if_pos hj, putCells, Array.getElem?_mapIdx, Array.getElem?_eq_getElem hjc, Option.map_some]
        rw [if_pos (by simp; omega), List.getElem?_eq_getElem (by omega)]
        simp [getElem!_pos, show j < ys.length by omega]
      · rw [if_neg hj, List.getElem?_eq_none (by omega)]
theorem sorted3 {w : World} {B g n cap q : Nat} {e : TypeId} {os : Array Obj} {l s : List Lt} (h : w.ownsRow B e 3 (.slice (some ⟨g, 0, none⟩) n cap) n (cells3 l)) (hs : s.length = n) : (sortWorldK encLt 3 w g 0 q s.toArray os).ownsRow B e 3 (.slice (some ⟨g, 0, none⟩) n cap) n (cells3 s) ∧ Wr [g] w (sortWorldK encLt 3 w g 0 q s.toArray os) := by
  unfold sortWorldK putRowK
  rw [flatK3]
  have h1 := ownsRow_putRow3 (q := q) h (ys := cells3 s) (by rw [cells3_len, hs])
  have hlt := (h.lt g rfl).2
  have hb : Below (putRow id (Sort.ahead w q) g 0 (cells3 s).toArray).heap.size (putRow id (Sort.ahead w q) g 0 (cells3 s).toArray) (grow (putRow id (Sort.ahead w q) g 0 (cells3 s).toArray) os) :=
    ⟨rfl, rfl, rfl, by simp [grow], fun k hk => by simp only [grow]; rw [Array.getElem?_append_left hk]⟩
  refine ⟨own_below h1 hb (Nat.le_refl _), Wr.trans (b := putRow id (Sort.ahead w q) g 0 (cells3 s).toArray) ⟨rfl, rfl, rfl, by simp [putRow, mapBlock, Sort.ahead], fun k hk hF => ?_⟩ (Wr.of_below hb (Nat.le_refl _))⟩
  simp only [List.mem_singleton] at hF
  simp [putRow, mapBlock, Sort.ahead, Array.getElem?_modify, show g ≠ k from fun e => hF e.symm]
end Go.Proofs.YtgbpomakomddjabGreatDoor
