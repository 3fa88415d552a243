/- DERIVED. An element, the newest tree, appended to the row behind it. -/
import Derived.Test.YtdbnhdiboemmiabGreatDats
namespace Go.Proofs.YtdbnhdiboemmiabGreat
open Go.RowKit
set_option linter.unusedVariables false

theorem rowsD_raw {α : Type} {w : World} {B : Nat} {e : TypeId} {s : Nat} {f : α → List Tr} {xs : List α} {v : Value} {F : List Nat} (h : (rows e s f xs).own w B v F) : ∃ vs G, w.ownsRow B e s v xs.length vs ∧ ownL w B (xs.flatMap f) vs G ∧ F = v.ownBlock.toList ++ G := h
theorem rowsD_app {α : Type} {w w' : World} {B : Nat} {e : TypeId} {s : Nat} {f : α → List Tr} {xs : List α} {x : α} {v v' : Value} {vs us : List Value} {G H : List Nat} {n : Nat} (hn : n = (xs ++ [x]).length)
    (o : w'.ownsRow B e s v' n (vs ++ us)) (h1 : ownL w B (xs.flatMap f) vs G) (h2 : ownL w B (f x) us H) (hN : (v.ownBlock.toList ++ G).Nodup) (hH : H.Nodup) (hd : ∀ k ∈ v.ownBlock.toList ++ G, k ∉ H) (hg : w.grownBy w' v.ownBlock) (hv : v'.ownBlock = v.ownBlock ∨ v'.ownBlock = some w.heap.size) :
    ∃ F', (rows e s f (xs ++ [x])).own w' B v' F' ∧ F'.Nodup ∧ (∀ k ∈ F', k ∈ v.ownBlock.toList ++ G ∨ k ∈ H ∨ k = w.heap.size) := by
  have l1 := ownL_lt _ _ _ h1
  have l2 := ownL_lt _ _ _ h2
  obtain ⟨n1, n2, n3⟩ := List.nodup_append.1 hN
  have k1 := ownL_keep _ _ _ h1 (w' := w') (fun k hk => hg.block k (l1 k hk).2 (fun e => n3 k (mem_own.2 e.symm) k hk rfl))
  have k2 := ownL_keep _ _ _ h2 (w' := w') (fun k hk => hg.block k (l2 k hk).2 (fun e => hd k (List.mem_append.2 (.inl (mem_own.2 e.symm))) hk))
  have happ : ∀ {ts us : List Tr} {ps qs : List Value} {P Q : List Nat}, ownL w' B ts ps P → ownL w' B us qs Q → ownL w' B (ts ++ us) (ps ++ qs) (P ++ Q) := by
    intro ts
    induction ts with
    | nil => intro us ps qs P Q hp hq; rw [hp.1, hp.2]; exact hq
    | cons t ts ih =>
      rintro us ps qs P Q ⟨p, ps', P1, P2, rfl, g1, g2, rfl⟩ hq
      exact ⟨p, ps' ++ qs, P1, P2 ++ Q, rfl, g1, ih g2 hq, by simp⟩
  refine ⟨v'.ownBlock.toList ++ (G ++ H), ⟨vs ++ us, G ++ H, hn ▸ o, by rw [List.flatMap_append]; simpa using happ k1 k2, rfl⟩, ?_, fun k hk => ?_⟩
  · have nGH : (G ++ H).Nodup := List.nodup_append.2 ⟨n2, hH, fun a ha b hb e => hd a (List.mem_append.2 (.inr ha)) (e ▸ hb)⟩
    rcases hv with hv | hv
    · rw [hv]
      refine List.nodup_append.2 ⟨n1, nGH, fun a ha b hb e => ?_⟩
      rcases List.mem_append.1 hb with hb | hb
      · exact n3 a ha b hb e
      · exact hd a (List.mem_append.2 (.inl ha)) (e ▸ hb)
    · rw [hv]
      simp only [Option.toList, List.singleton_append, List.nodup_cons]
      refine ⟨fun e => ?_, nGH⟩
      rcases List.mem_append.1 e with e | e
      · have := (l1 _ e).2; omega
      · have := (l2 _ e).2; omega
  · rcases List.mem_append.1 hk with hk | hk
    · rcases hv with hv | hv
      · rw [hv] at hk; exact .inl (List.mem_append.2 (.inl hk))
      · rw [hv] at hk; simp at hk; exact .inr (.inr hk)
    · rcases List.mem_append.1 hk with hk | hk
      · exact .inl (List.mem_append.2 (.inr hk))
      · exact .inr (.inl hk)


section
variable {w0 W W' : World} {L : List Item}
theorem Sn.merge2 {a d : Item} (h : Sn w0 W (a :: d :: L)) : Sn w0 W (⟨.agg [d.t, a.t], .agg ⟨[d.v, a.v]⟩, d.F ++ (a.F ++ [])⟩ :: L) := by
  obtain ⟨oa, na, pa, od, nd, pd, rest⟩ := h.2
  refine ⟨h.1, ⟨_, rfl, d.v, _, d.F, _, rfl, od, ⟨a.v, _, a.F, _, rfl, oa, ⟨rfl, rfl⟩, rfl⟩, rfl⟩, ?_, fun s hs k hk => ?_, rest⟩
  · exact List.nodup_append.2 ⟨nd, by simpa using na, fun p hp q hq e => pa d (by simp) q (by simpa using hq) (e ▸ hp)⟩
  · rcases List.mem_append.1 hk with hk | hk
    · exact pd s hs k hk
    · exact pa s (by simp [hs]) k (by simpa using hk)
theorem Sn.wrap {t : Tr} {v : Value} {F : List Nat} (h : Sn w0 W (⟨t, v, F⟩ :: L)) : Sn w0 W (⟨.agg [t], .agg ⟨[v]⟩, F ++ []⟩ :: L) := by
  obtain ⟨oa, na, pa, rest⟩ := h.2
  exact ⟨h.1, ⟨_, rfl, v, _, F, _, rfl, oa, ⟨rfl, rfl⟩, rfl⟩, by simpa using na, fun s hs k hk => pa s hs k (by simpa using hk), rest⟩
/-- An element, the newest tree, appended to the row behind it. -/
theorem Sn.appG {α : Type} {e : TypeId} {s : Nat} {f : α → List Tr} {xs : List α} {x : α} {v v' : Value} {F EF G : List Nat} {us vs : List Value} {w8 : World} {o : Obj} {n : Nat} (hn : n = xs.length + 1)
    (h : Sn w0 W (⟨.agg (f x), .agg ⟨us⟩, EF⟩ :: ⟨rows e s f xs, v, F⟩ :: L)) (ol : ownL W w0.heap.size (xs.flatMap f) vs G) (hF : F = v.ownBlock.toList ++ G)
    (hown : w8.ownsRow w0.heap.size e s v' n (vs ++ us)) (hg : (W.alloc o).grownBy w8 v.ownBlock) (hat : v'.ownBlock = v.ownBlock ∨ v'.ownBlock = some (W.heap.size + 1)) :
    ∃ F', Sn w0 w8 (⟨rows e s f (xs ++ [x]), v', F'⟩ :: L) := by
  have hal := (Below.refl W.heap.size W).alloc (Nat.le_refl _) o
  have h1 := h.merge2.go hal
  obtain ⟨vs', hvs, oe⟩ := (h.own 0 rfl).1
  have hvs' : us = vs' := by injection hvs with hvs; injection hvs
  subst hvs'
  have ap := h.2.apart (i := 0) (j := 1) rfl rfl (by omega)
  have lol := ownL_lt _ _ _ ol
  have loe := ownL_lt _ _ _ oe
  obtain ⟨F', h2, h3, h4⟩ := rowsD_app (e := e) (f := f) (xs := xs) (x := x) (n := n) (by simp [hn]) hown (ownL_keep _ _ _ ol (fun k hk => hal.block k (lol k hk).2)) (ownL_keep _ _ _ oe (fun k hk => hal.block k (loe k hk).2)) (hF ▸ (h.own 1 rfl).2) (h.own 0 rfl).2 (fun p hp hq => ap p hq (by rw [← hF] at hp; exact hp)) hg (by rw [World.size_alloc]; exact hat)
  refine ⟨F', h1.turn h2 h3 (fun p hp => ?_) ((Wr.of_grown hg).sub (fun p hp => ?_))⟩
  · rcases h4 p hp with h5 | h5 | h5
    · left; rw [← hF] at h5; exact List.mem_append.2 (.inl h5)
    · left; show p ∈ F ++ (EF ++ []); rw [List.append_nil]; exact List.mem_append.2 (.inr h5)
    · right; omega
  · show p ∈ F ++ (EF ++ [])
    rw [hF]
    exact List.mem_append.2 (.inl (List.mem_append.2 (.inl hp)))
theorem flatI_get {D : List (List Int)} {i : Nat} (hi : i < D.length) : (D.flatMap cellsI1)[i]? = some (trI D[i]) := by
  have := flatMap_get (f := cellsI1) (s := 1) cellsI1_len D i hi 0 (by omega)
  rw [Nat.mul_one, Nat.add_zero] at this
  exact this
theorem flatI_set {D : List (List Int)} {i : Nat} (hi : i < D.length) (r : List Int) : (D.flatMap cellsI1).set i (trI r) = (D.set i r).flatMap cellsI1 := by
  have := flatMap_set (f := cellsI1) (s := 1) cellsI1_len D i hi 0 (by omega) (trI r) r rfl
  simpa using this
end
end Go.Proofs.YtdbnhdiboemmiabGreat
