/- DERIVED. The state's rows of plain cells, whatever they hold: read, written, appended to. -/
import Derived.Test.YtgbpomakomddjabGreatDoorDats

section
namespace Go.Proofs.YtgbpomakomddjabGreatDoor
open Go.RowKit
set_option linter.unusedVariables false

theorem rowsD_raw {α : Type} {w : World} {B : Nat} {e : TypeId} {s : Nat} {f : α → List Tr} {xs : List α} {v : Value} {F : List Nat} (h : (rows e s f xs).own w B v F) : ∃ vs G, w.ownsRow B e s v xs.length vs ∧ ownL w B (xs.flatMap f) vs G ∧ F = v.ownBlock.toList ++ G := h
theorem rowsD_app {α : Type} {w w' : World} {B : Nat} {e : TypeId} {s : Nat} {f : α → List Tr} {xs : List α} {x : α} {v v' : Value} {vs us : List Value} {G H : List Nat} {n : Nat} (hn : n = (xs ++ [x]).length)
    (o : w'.ownsRow B e s v' n (vs ++ us)) (h1 : ownL w B (xs.flatMap f) vs G) (h2 : ownL w B (f x) us H) (hN : (v.ownBlock.toList ++ G).Nodup) (hH : H.Nodup) (hd : ∀ k ∈ v.ownBlock.toList ++ G, k ∉ H) (hg : w.grownBy w' v.ownBlock) (hv : v'.ownBlock = v.ownBlock ∨ v'.ownBlock = some w.heap.size) :
    ∃ F', (rows e s f (xs ++ [x])).own w' B v' F' ∧ F'.Nodup ∧ (∀ k ∈ F', k ∈ v.ownBlock.toList ++ G ∨ k ∈ H ∨ k = w.heap.size) := by
  have l1 := ownL_lt _ _ _ h1
  have l2 := ownL_lt _ _ _ h2
  obtain ⟨n1, n2, n3⟩ := List.nodup_append.1 hN
  have k1 := ownL_keep _ _ _ h1 (w' := w') (fun k hk => hg.block k (l1 k hk).2 (fun e => n3 k (mem_own.2 e.symm) k hk rfl))
  have k2 := ownL_keep _ _ _ h2 (w' := w') (fun k hk => hg.block k (l2 k hk).2 (fun e => hd k (List.mem_append.2 (.inl (mem_own.2 e.symm))) hk))
  have happ : ∀ {ts us : List Tr} {ps qs : List Value} {P Q : List Nat}, ownL w' B ts ps P → ownL w' B us qs Q → ownL w' B (ts ++ us) (ps ++ qs) (P ++ Q) := by
    intro ts
    induction ts with
    | nil => intro us ps qs P Q hp hq; rw [hp.1, hp.2]; exact hq
    | cons t ts ih =>
      rintro us ps qs P Q ⟨p, ps', P1, P2, rfl, g1, g2, rfl⟩ hq
      exact ⟨p, ps' ++ qs, P1, P2 ++ Q, rfl, g1, ih g2 hq, by simp⟩
  refine ⟨v'.ownBlock.toList ++ (G ++ H), ⟨vs ++ us, G ++ H, hn ▸ o, by rw [List.flatMap_append]; simpa using happ k1 k2, rfl⟩, ?_, fun k hk => ?_⟩
  · have nGH : (G ++ H).Nodup := List.nodup_append.2 ⟨n2, hH, fun a ha b hb e => hd a (List.mem_append.2 (.inr ha)) (e ▸ hb)⟩
    rcases hv with hv | hv
    · rw [hv]
      refine List.nodup_append.2 ⟨n1, nGH, fun a ha b hb e => ?_⟩
      rcases List.mem_append.1 hb with hb | hb
      · exact n3 a ha b hb e
      · exact hd a (List.mem_append.2 (.inl ha)) (e ▸ hb)
    · rw [hv]
      simp only [Option.toList, List.singleton_append, List.nodup_cons]
      refine ⟨fun e => ?_, nGH⟩
      rcases List.mem_append.1 e with e | e
      · have := (l1 _ e).2; omega
      · have := (l2 _ e).2; omega
  · rcases List.mem_append.1 hk with hk | hk
    · rcases hv with hv | hv
      · rw [hv] at hk; exact .inl (List.mem_append.2 (.inl hk))
      · rw [hv] at hk; simp at hk; exact .inr (.inr hk)
    · rcases List.mem_append.1 hk with hk | hk
      · exact .inl (List.mem_append.2 (.inr hk))
      · exact .inr (.inl hk)


section
variable {w0 W W' : World} {L : List Item}
theorem Sn.merge2 {a d : Item} (h : Sn w0 W (a :: d :: L)) : Sn w0 W (⟨.agg [d.t, a.t], .agg ⟨[d.v, a.v]⟩, d.F ++ (a.F ++ [])⟩ :: L) := by
  obtain ⟨oa, na, pa, od, nd, pd, rest⟩ := h.2
  refine ⟨h.1, ⟨_, rfl, d.v, _, d.F, _, rfl, od, ⟨a.v, _, a.F, _, rfl, oa, ⟨rfl, rfl⟩, rfl⟩, rfl⟩, ?_, fun s hs k hk => ?_, rest⟩
  · exact List.nodup_append.2 ⟨nd, by simpa using na, fun p hp q hq e => pa d (by simp) q (by simpa using hq) (e ▸ hp)⟩
  · rcases List.mem_append.1 hk with hk | hk
    · exact pd s hs k hk
    · exact pa s (by simp [hs]) k (by simpa using hk)
theorem Sn.wrap {t : Tr} {v : Value} {F : List Nat} (h : Sn w0 W (⟨t, v, F⟩ :: L)) : Sn w0 W (⟨.agg [t], .agg ⟨[v]⟩, F ++ []⟩ :: L) := by
  obtain ⟨oa, na, pa, rest⟩ := h.2
  exact ⟨h.1, ⟨_, rfl, v, _, F, _, rfl, oa, ⟨rfl, rfl⟩, rfl⟩, by simpa using na, fun s hs k hk => pa s hs k (by simpa using hk), rest⟩
/-- An element, the newest tree, appended to the row behind it. -/
theorem Sn.appG {α : Type} {e : TypeId} {s : Nat} {f : α → List Tr} {xs : List α} {x : α} {v v' : Value} {F EF G : List Nat} {us vs : List Value} {w8 : World} {o : Obj} {n : Nat} (hn : n = xs.length + 1)
    (h : Sn w0 W (⟨.agg (f x), .agg ⟨us⟩, EF⟩ :: ⟨rows e s f xs, v, F⟩ :: L)) (ol : ownL W w0.heap.size (xs.flatMap f) vs G) (hF : F = v.ownBlock.toList ++ G)
    (hown : w8.ownsRow w0.heap.size e s v' n (vs ++ us)) (hg : (W.alloc o).grownBy w8 v.ownBlock) (hat : v'.ownBlock = v.ownBlock ∨ v'.ownBlock = some (W.heap.size + 1)) :
    ∃ F', Sn w0 w8 (⟨rows e s f (xs ++ [x]), v', F'⟩ :: L) := by
  have hal := (Below.refl W.heap.size W).alloc (Nat.le_refl _) o
  have h1 := h.merge2.go hal
  obtain ⟨vs', hvs, oe⟩ := (h.own 0 rfl).1
  have hvs' : us = vs' := by injection hvs with hvs; injection hvs
  subst hvs'
  have ap := h.2.apart (i := 0) (j := 1) rfl rfl (by omega)
  have lol := ownL_lt _ _ _ ol
  have loe := ownL_lt _ _ _ oe
  obtain ⟨F', h2, h3, h4⟩ := rowsD_app (e := e) (f := f) (xs := xs) (x := x) (n := n) (by simp [hn]) hown (ownL_keep _ _ _ ol (fun k hk => hal.block k (lol k hk).2)) (ownL_keep _ _ _ oe (fun k hk => hal.block k (loe k hk).2)) (hF ▸ (h.own 1 rfl).2) (h.own 0 rfl).2 (fun p hp hq => ap p hq (by rw [← hF] at hp; exact hp)) hg (by rw [World.size_alloc]; exact hat)
  refine ⟨F', h1.turn h2 h3 (fun p hp => ?_) ((Wr.of_grown hg).sub (fun p hp => ?_))⟩
  · rcases h4 p hp with h5 | h5 | h5
    · left; rw [← hF] at h5; exact List.mem_append.2 (.inl h5)
    · left; show p ∈ F ++ (EF ++ []); rw [List.append_nil]; exact List.mem_append.2 (.inr h5)
    · right; omega
  · show p ∈ F ++ (EF ++ [])
    rw [hF]
    exact List.mem_append.2 (.inl (List.mem_append.2 (.inl hp)))
theorem flatI_get {D : List (List Int)} {i : Nat} (hi : i < D.length) : (D.flatMap cellsI1)[i]? = some (trI D[i]) := by
  have := flatMap_get (f := cellsI1) (s := 1) cellsI1_len D i hi 0 (by omega)
  rw [Nat.mul_one, Nat.add_zero] at this
  exact this
theorem flatI_set {D : List (List Int)} {i : Nat} (hi : i < D.length) (r : List Int) : (D.flatMap cellsI1).set i (trI r) = (D.set i r).flatMap cellsI1 := by
  have := flatMap_set (f := cellsI1) (s := 1) cellsI1_len D i hi 0 (by omega) (trI r) r rfl
  simpa using this
end
end Go.Proofs.YtgbpomakomddjabGreatDoor
end

section
namespace Go.Proofs.YtgbpomakomddjabGreatDoor
open Go.RowKit
set_option linter.unusedVariables false

theorem Sn.setV {w0 W : World} {L : List Item} {e : TypeId} {xs : List Value} {g n c : Nat} {F : List Nat} (h : Sn w0 W (⟨flat e xs, .slice (some ⟨g, 0, none⟩) n c, F⟩ :: L)) (hl : xs.length = n) (i : Nat) (y : Value) :
    Sn w0 (W.setCell ⟨g, i, none⟩ y) (⟨flat e (xs.set i y), .slice (some ⟨g, 0, none⟩) n c, F⟩ :: L) := by
  have ho := (own_flat h.2.1).1
  have hF : F = [g] := (own_flat h.2.1).2
  have ho : W.ownsRow w0.heap.size e 1 (.slice (some ⟨g, 0, none⟩) n c) xs.length xs := ho
  rw [hl] at ho
  have hs := (ho.stored i y).1
  have hf := flat_own hs
  subst hF
  exact h.turn (t' := flat e (xs.set i y)) hf.1 hf.2 (fun k hk => .inl hk) (Wr.setCell W ⟨g, i, none⟩ (by simp) _)
theorem Sn.cellV {w0 W : World} {L : List Item} {e : TypeId} {xs : List Value} {g n c : Nat} {F : List Nat} (h : Sn w0 W (⟨flat e xs, .slice (some ⟨g, 0, none⟩) n c, F⟩ :: L)) (hl : xs.length = n) {i : Nat} (hi : i < xs.length) :
    W.cell? ⟨g, i, none⟩ = some xs[i] ∧ W.frozen? ⟨g, i, none⟩ = false := by
  obtain ⟨ho, _⟩ := own_flat h.2.1
  have ho : W.ownsRow w0.heap.size e 1 (.slice (some ⟨g, 0, none⟩) n c) xs.length xs := ho
  rw [hl] at ho
  exact ⟨(ho.cellAt i (by omega)).trans (List.getElem?_eq_getElem hi), ho.frozenAt i⟩
theorem Sn.appV {w0 W w6 : World} {L : List Item} {e : TypeId} {xs : List Value} {v v' : Value} {F : List Nat} {r : Value} {n : Nat} {o : Obj}
    (h : Sn w0 W (⟨flat e xs, v, F⟩ :: L)) (hown : w6.ownsRow w0.heap.size e 1 v' n (xs ++ [r]))
    (hg : (W.alloc o).grownBy w6 v.ownBlock) (hat : v'.ownBlock = v.ownBlock ∨ v'.ownBlock = some (W.heap.size + 1)) : ∃ F', Sn w0 w6 (⟨flat e (xs ++ [r]), v', F'⟩ :: L) := by
  have h1 := h.go ((Below.refl W.heap.size W).alloc (Nat.le_refl _) o)
  have hF : F = v.ownBlock.toList := (own_flat h1.2.1).2
  have hw : Wr F (W.alloc o) w6 := hF ▸ Wr.of_grown hg
  refine ⟨_, h1.turn (t' := flat e (xs ++ [r])) (flat_own hown).1 (flat_own hown).2 (fun k hk => ?_) hw⟩
  rcases hat with h2 | h2
  · left; show k ∈ F; rw [hF, ← h2]; exact hk
  · right
    rw [h2] at hk
    simp at hk
    rw [World.size_alloc]; omega
/-- A row of n elements of s plain cells. -/
def flatN (e : TypeId) (s n : Nat) (xs : List Value) : Tr := .row e s n (xs.map .one)
theorem flatN_own {w : World} {B : Nat} {e : TypeId} {s n : Nat} {xs : List Value} {v : Value} (h : w.ownsRow B e s v n xs) : (flatN e s n xs).own w B v v.ownBlock.toList ∧ v.ownBlock.toList.Nodup :=
  ⟨⟨xs, [], h, ownL_ones.2 ⟨rfl, rfl⟩, by simp⟩, by cases v.ownBlock <;> simp⟩
theorem own_flatN {w : World} {B : Nat} {e : TypeId} {s n : Nat} {xs : List Value} {v : Value} {F : List Nat} (h : (flatN e s n xs).own w B v F) : w.ownsRow B e s v n xs ∧ F = v.ownBlock.toList := by
  obtain ⟨vs, G, ho, hv, hF⟩ := h
  obtain ⟨rfl, rfl⟩ := ownL_ones.1 hv
  exact ⟨ho, by simpa using hF⟩
theorem Sn.ownN {w0 W : World} {L : List Item} {e : TypeId} {s n : Nat} {xs : List Value} {v : Value} {F : List Nat} (h : Sn w0 W (⟨flatN e s n xs, v, F⟩ :: L)) : W.ownsRow w0.heap.size e s v n xs := (own_flatN h.2.1).1
theorem Sn.appN {w0 W W1 w6 : World} {L : List Item} {e : TypeId} {s n n' : Nat} {xs rs : List Value} {v v' : Value} {F : List Nat}
    (h : Sn w0 W (⟨flatN e s n xs, v, F⟩ :: L)) (hW : Below W.heap.size W W1) (hown : w6.ownsRow w0.heap.size e s v' n' (xs ++ rs))
    (hg : W1.grownBy w6 v.ownBlock) (hat : v'.ownBlock = v.ownBlock ∨ v'.ownBlock = some W1.heap.size) : ∃ F', Sn w0 w6 (⟨flatN e s n' (xs ++ rs), v', F'⟩ :: L) := by
  have h1 := h.go hW
  have hF : F = v.ownBlock.toList := (own_flatN h1.2.1).2
  have hw : Wr F W1 w6 := hF ▸ Wr.of_grown hg
  refine ⟨_, h1.turn (t' := flatN e s n' (xs ++ rs)) (flatN_own hown).1 (flatN_own hown).2 (fun k hk => ?_) hw⟩
  rcases hat with h2 | h2
  · left; show k ∈ F; rw [hF, ← h2]; exact hk
  · right
    rw [h2] at hk
    simp at hk
    omega
theorem Sn.nilN {w0 W : World} {L : List Item} (e : TypeId) (s : Nat) (h : Sn w0 W L) : Sn w0 W (⟨flatN e s 0 [], .slice none 0 0, []⟩ :: L) :=
  ⟨h.1, ⟨[], [], ⟨by simp, .inl ⟨rfl, rfl⟩⟩, ⟨rfl, rfl⟩, rfl⟩, by simp, fun _ _ _ hk => by simp at hk, h.2⟩
theorem Sn.emptyN {w0 W : World} {L : List Item} (e : TypeId) (s : Nat) (h : Sn w0 W L) : Sn w0 (W.alloc (.cells #[] e)) (⟨flatN e s 0 [], .slice (some ⟨W.heap.size, 0, none⟩) 0 0, [W.heap.size]⟩ :: L) :=
  h.new ⟨[], [], ⟨by simp, .inr ⟨W.heap.size, 0, #[], rfl, Nat.le_refl _, heap_alloc_new W _, Nat.le_refl _, by unfold maxLen; omega, by simp, by simp⟩⟩, ⟨rfl, rfl⟩, rfl⟩ (by simp) ((Below.refl _ _).alloc (Nat.le_refl _) _)
theorem four_cells (w : World) (x y z u : Value) (t : TypeId) : ∀ j q, [x, y, z, u][j]? = some q → (w.alloc (.cells #[x, y, z, u] t)).cell? ((⟨w.heap.size, 0, none⟩ : Addr).add j) = some q := fun j q h => by
  obtain ⟨c0, c1, c2, c3, _⟩ := (Bk.new w t #[x, y, z, u]).c4
  have hj : j < 4 := by simpa using (List.getElem?_eq_some_iff.1 h).1
  rcases (by omega : j = 0 ∨ j = 1 ∨ j = 2 ∨ j = 3) with rfl | rfl | rfl | rfl
  · rw [show (⟨w.heap.size, 0, none⟩ : Addr).add 0 = ⟨w.heap.size, 0, none⟩ from by simp [Addr.add], c0]; exact h
  · rw [show (⟨w.heap.size, 0, none⟩ : Addr).add 1 = ⟨w.heap.size, 1, none⟩ from by simp [Addr.add], c1]; exact h
  · rw [show (⟨w.heap.size, 0, none⟩ : Addr).add 2 = ⟨w.heap.size, 2, none⟩ from by simp [Addr.add], c2]; exact h
  · rw [show (⟨w.heap.size, 0, none⟩ : Addr).add 3 = ⟨w.heap.size, 3, none⟩ from by simp [Addr.add], c3]; exact h
/-- A slice of plain cells appended whole to an own row. -/
theorem app_rdV {w : World} {ops : Array Oper} {rest : List Oper} {o : Oper} {a : Act} {Q : Exit → Act → World → Prop} (hgd : o.guard = none) (s x : Operand) (t e : TypeId) (i0 : TypeInfo) (z : Value) (by0 : Nat)
    (ho : o.op = .call { callee := .builtin .append, args := #[s, x], argTypes := #[t, t] }) (ht : Tryz.prog.underlying t = some (.slice e)) (hi : Tryz.prog.info? e = some i0) (hz0 : i0.zero = some z) (hz1 : i0.size = 1) (hz2 : i0.bytes = by0) (hzc : z.cells.size = 1) (hby : by0 ≤ 64)
    (base : Nat) (v vx : Value) (xs ys : List Value) (hs : a.eval s = v) (hx : a.eval x = vx) (hown : w.ownsRow base e 1 v xs.length xs) (hr : Rd w vx ys) (h1c : ∀ u ∈ ys, u.oneCell' = true) (hnil : NilOk vx)
    (hlen : xs.length + ys.length ≤ 1048576) (hbase : base ≤ w.heap.size)
    (h : ∀ v' w', w'.ownsRow base e 1 v' (xs ++ ys).length (xs ++ ys) → w.grownBy w' v.ownBlock → (v'.ownBlock = v.ownBlock ∨ v'.ownBlock = some w.heap.size) → wpList Tryz.prog ops Q rest (a.put o.dst v') w') :
    wpList Tryz.prog ops Q (o :: rest) a w := by
  obtain ⟨hl, A, c, rfl, hA⟩ := hr
  have hbb : (xs.length + ys.length) * by0 ≤ 140737488355328 := Nat.le_trans (Nat.mul_le_mul hlen hby) (by decide)
  have key : ∀ ad, A = some ad → (∀ j u, ys[j]? = some u → w.cell? (ad.add j) = some u) → wpList Tryz.prog ops Q (o :: rest) a w := by
    intro ad had hc
    subst had
    refine wpList_append_own_at w hgd s x t ho base e i0 z 1 by0 ht hi hz0 hz1 hz2 hzc (by decide) v xs.length xs hs hown ad ys.length c ys hx (by simp) hc h1c (by unfold maxLen; omega) hbb hbase ?_
    intro v' w' h1 h2 _ h4
    exact h v' w' (by rw [List.length_append]; exact h1) h2 h4
  rcases hA with hA | ⟨b, off, rfl, hb, hc⟩
  · subst hA
    cases A with
    | some ad => exact key ad rfl (by intro j u hu; simp at hu)
    | none =>
      have hc0 : c = 0 := hnil _ _ rfl
      subst hc0
      refine wpList_append_own_none hgd s x t ho base e i0 1 ht hi v xs.length xs hs hown hx ?_
      exact h v w (by simpa using hown) ⟨rfl, rfl, rfl, Nat.le_refl _, fun _ _ _ => rfl⟩ (.inl rfl)
  · refine key _ rfl fun j u hu => ?_
    obtain ⟨hj, rfl⟩ := List.getElem?_eq_some_iff.1 hu
    have hadd : (⟨b, off, none⟩ : Addr).add j = ⟨b, off + j, none⟩ := by unfold Addr.add; split <;> simp_all
    rw [hadd]
    exact hc j hj
end Go.Proofs.YtgbpomakomddjabGreatDoor
end
