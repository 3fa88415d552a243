/- DERIVED. What the row tells of a struct of four to six fields. No dump. -/
import Derived.Test.YtfgmbgdbnjpclaaOpens
import Derived.Test.YtfgmbgdbnjpclaaTrm
namespace Go.Proofs.Ytfgmbgdbnjpclaa
open Go.RowKit Go.ChangeShapes Go.WideShapes Go.Deep

section
variable {P : Program}
theorem Opens.weak {t : TypeId} {α : Type} {f : α → List Tr} {ok ok2 : α → Prop} (h : Opens P t f ok) (hw : ∀ a, ok a → ok2 a) : Opens P t f ok2 := by
  intro H enc W fuel cs x hx
  obtain ⟨a, h1, h2⟩ := h H enc W fuel cs x hx
  exact ⟨a, hw a h1, h2⟩
theorem opens_struct4 {t : TypeId} {f0 f1 f2 f3 : Field} {α0 α1 α2 α3 : Type} {g0 : α0 → List Tr} {g1 : α1 → List Tr} {g2 : α2 → List Tr} {g3 : α3 → List Tr} {ok0 : α0 → Prop} {ok1 : α1 → Prop} {ok2 : α2 → Prop} {ok3 : α3 → Prop} {s0 s1 s2 s3 : Nat}
    (ht : P.underlying t = some (.struct #[f0, f1, f2, f3])) (hC : P.cellsOf t = s0 + (s1 + (s2 + s3)))
    (o : f0.offset = 0 ∧ f1.offset = s0 ∧ f2.offset = s0 + s1 ∧ f3.offset = s0 + s1 + s2) (c : P.cellsOf f0.type = s0 ∧ P.cellsOf f1.type = s1 ∧ P.cellsOf f2.type = s2 ∧ P.cellsOf f3.type = s3) (h0 : Opens P f0.type g0 ok0) (h1 : Opens P f1.type g1 ok1) (h2 : Opens P f2.type g2 ok2) (h3 : Opens P f3.type g3 ok3) :
    Opens P t (fun a : α0 × α1 × α2 × α3 => g0 a.1 ++ (g1 a.2.1 ++ (g2 a.2.2.1 ++ g3 a.2.2.2))) (fun a => ok0 a.1 ∧ ok1 a.2.1 ∧ ok2 a.2.2.1 ∧ ok3 a.2.2.2) := by
  intro H enc W fuel cs x h
  obtain ⟨ys, n, _, _, hl, hlen, hf⟩ := DataW.trod_struct ht h
  have hlen' : ys.length = 4 := hlen
  obtain ⟨o0, o1, o2, o3⟩ := o
  obtain ⟨c0, c1, c2, c3⟩ := c
  have e0 := hf 0 f0 rfl
  rw [o0, c0, List.drop_zero, List.getElem?_eq_getElem (by omega)] at e0
  have e1 := hf 1 f1 rfl
  rw [o1, c1, List.getElem?_eq_getElem (by omega)] at e1
  have e2 := hf 2 f2 rfl
  rw [o2, c2, List.getElem?_eq_getElem (by omega)] at e2
  have e3 := hf 3 f3 rfl
  rw [o3, c3, List.getElem?_eq_getElem (by omega)] at e3
  obtain ⟨a0, k0, r0⟩ := h0 H enc W _ _ _ e0
  obtain ⟨a1, k1, r1⟩ := h1 H enc W _ _ _ e1
  obtain ⟨a2, k2, r2⟩ := h2 H enc W _ _ _ e2
  obtain ⟨a3, k3, r3⟩ := h3 H enc W _ _ _ e3
  refine ⟨(a0, a1, a2, a3), ⟨k0, k1, k2, k3⟩, ?_⟩
  have := rdL_app r0 (rdL_app r1 (rdL_app r2 r3))
  rwa [show cs.take s0 ++ ((cs.drop (s0)).take s1 ++ ((cs.drop (s0 + s1)).take s2 ++ (cs.drop (s0 + s1 + s2)).take s3)) = cs from by
    rw [show cs.drop (s0 + s1 + s2) = (cs.drop (s0 + s1)).drop s2 from by rw [List.drop_drop]]
    rw [show cs.drop (s0 + s1) = (cs.drop (s0)).drop s1 from by rw [List.drop_drop]]
    rw [List.take_of_length_le (l := ((cs.drop s0).drop s1).drop s2) (by simp; omega)]
    simp only [List.take_append_drop]] at this

theorem opens_struct5 {t : TypeId} {f0 f1 f2 f3 f4 : Field} {α0 α1 α2 α3 α4 : Type} {g0 : α0 → List Tr} {g1 : α1 → List Tr} {g2 : α2 → List Tr} {g3 : α3 → List Tr} {g4 : α4 → List Tr} {ok0 : α0 → Prop} {ok1 : α1 → Prop} {ok2 : α2 → Prop} {ok3 : α3 → Prop} {ok4 : α4 → Prop} {s0 s1 s2 s3 s4 : Nat}
    (ht : P.underlying t = some (.struct #[f0, f1, f2, f3, f4])) (hC : P.cellsOf t = s0 + (s1 + (s2 + (s3 + s4))))
    (o : f0.offset = 0 ∧ f1.offset = s0 ∧ f2.offset = s0 + s1 ∧ f3.offset = s0 + s1 + s2 ∧ f4.offset = s0 + s1 + s2 + s3) (c : P.cellsOf f0.type = s0 ∧ P.cellsOf f1.type = s1 ∧ P.cellsOf f2.type = s2 ∧ P.cellsOf f3.type = s3 ∧ P.cellsOf f4.type = s4) (h0 : Opens P f0.type g0 ok0) (h1 : Opens P f1.type g1 ok1) (h2 : Opens P f2.type g2 ok2) (h3 : Opens P f3.type g3 ok3) (h4 : Opens P f4.type g4 ok4) :
    Opens P t (fun a : α0 × α1 × α2 × α3 × α4 => g0 a.1 ++ (g1 a.2.1 ++ (g2 a.2.2.1 ++ (g3 a.2.2.2.1 ++ g4 a.2.2.2.2)))) (fun a => ok0 a.1 ∧ ok1 a.2.1 ∧ ok2 a.2.2.1 ∧ ok3 a.2.2.2.1 ∧ ok4 a.2.2.2.2) := by
  intro H enc W fuel cs x h
  obtain ⟨ys, n, _, _, hl, hlen, hf⟩ := DataW.trod_struct ht h
  have hlen' : ys.length = 5 := hlen
  obtain ⟨o0, o1, o2, o3, o4⟩ := o
  obtain ⟨c0, c1, c2, c3, c4⟩ := c
  have e0 := hf 0 f0 rfl
  rw [o0, c0, List.drop_zero, List.getElem?_eq_getElem (by omega)] at e0
  have e1 := hf 1 f1 rfl
  rw [o1, c1, List.getElem?_eq_getElem (by omega)] at e1
  have e2 := hf 2 f2 rfl
  rw [o2, c2, List.getElem?_eq_getElem (by omega)] at e2
  have e3 := hf 3 f3 rfl
  rw [o3, c3, List.getElem?_eq_getElem (by omega)] at e3
  have e4 := hf 4 f4 rfl
  rw [o4, c4, List.getElem?_eq_getElem (by omega)] at e4
  obtain ⟨a0, k0, r0⟩ := h0 H enc W _ _ _ e0
  obtain ⟨a1, k1, r1⟩ := h1 H enc W _ _ _ e1
  obtain ⟨a2, k2, r2⟩ := h2 H enc W _ _ _ e2
  obtain ⟨a3, k3, r3⟩ := h3 H enc W _ _ _ e3
  obtain ⟨a4, k4, r4⟩ := h4 H enc W _ _ _ e4
  refine ⟨(a0, a1, a2, a3, a4), ⟨k0, k1, k2, k3, k4⟩, ?_⟩
  have := rdL_app r0 (rdL_app r1 (rdL_app r2 (rdL_app r3 r4)))
  rwa [show cs.take s0 ++ ((cs.drop (s0)).take s1 ++ ((cs.drop (s0 + s1)).take s2 ++ ((cs.drop (s0 + s1 + s2)).take s3 ++ (cs.drop (s0 + s1 + s2 + s3)).take s4))) = cs from by
    rw [show cs.drop (s0 + s1 + s2 + s3) = (cs.drop (s0 + s1 + s2)).drop s3 from by rw [List.drop_drop]]
    rw [show cs.drop (s0 + s1 + s2) = (cs.drop (s0 + s1)).drop s2 from by rw [List.drop_drop]]
    rw [show cs.drop (s0 + s1) = (cs.drop (s0)).drop s1 from by rw [List.drop_drop]]
    rw [List.take_of_length_le (l := (((cs.drop s0).drop s1).drop s2).drop s3) (by simp; omega)]
    simp only [List.take_append_drop]] at this

theorem opens_struct6 {t : TypeId} {f0 f1 f2 f3 f4 f5 : Field} {α0 α1 α2 α3 α4 α5 : Type} {g0 : α0 → List Tr} {g1 : α1 → List Tr} {g2 : α2 → List Tr} {g3 : α3 → List Tr} {g4 : α4 → List Tr} {g5 : α5 → List Tr} {ok0 : α0 → Prop} {ok1 : α1 → Prop} {ok2 : α2 → Prop} {ok3 : α3 → Prop} {ok4 : α4 → Prop} {ok5 : α5 → Prop} {s0 s1 s2 s3 s4 s5 : Nat}
    (ht : P.underlying t = some (.struct #[f0, f1, f2, f3, f4, f5])) (hC : P.cellsOf t = s0 + (s1 + (s2 + (s3 + (s4 + s5)))))
    (o : f0.offset = 0 ∧ f1.offset = s0 ∧ f2.offset = s0 + s1 ∧ f3.offset = s0 + s1 + s2 ∧ f4.offset = s0 + s1 + s2 + s3 ∧ f5.offset = s0 + s1 + s2 + s3 + s4) (c : P.cellsOf f0.type = s0 ∧ P.cellsOf f1.type = s1 ∧ P.cellsOf f2.type = s2 ∧ P.cellsOf f3.type = s3 ∧ P.cellsOf f4.type = s4 ∧ P.cellsOf f5.type = s5) (h0 : Opens P f0.type g0 ok0) (h1 : Opens P f1.type g1 ok1) (h2 : Opens P f2.type g2 ok2) (h3 : Opens P f3.type g3 ok3) (h4 : Opens P f4.type g4 ok4) (h5 : Opens P f5.type g5 ok5) :
    Opens P t (fun a : α0 × α1 × α2 × α3 × α4 × α5 => g0 a.1 ++ (g1 a.2.1 ++ (g2 a.2.2.1 ++ (g3 a.2.2.2.1 ++ (g4 a.2.2.2.2.1 ++ g5 a.2.2.2.2.2))))) (fun a => ok0 a.1 ∧ ok1 a.2.1 ∧ ok2 a.2.2.1 ∧ ok3 a.2.2.2.1 ∧ ok4 a.2.2.2.2.1 ∧ ok5 a.2.2.2.2.2) := by
  intro H enc W fuel cs x h
  obtain ⟨ys, n, _, _, hl, hlen, hf⟩ := DataW.trod_struct ht h
  have hlen' : ys.length = 6 := hlen
  obtain ⟨o0, o1, o2, o3, o4, o5⟩ := o
  obtain ⟨c0, c1, c2, c3, c4, c5⟩ := c
  have e0 := hf 0 f0 rfl
  rw [o0, c0, List.drop_zero, List.getElem?_eq_getElem (by omega)] at e0
  have e1 := hf 1 f1 rfl
  rw [o1, c1, List.getElem?_eq_getElem (by omega)] at e1
  have e2 := hf 2 f2 rfl
  rw [o2, c2, List.getElem?_eq_getElem (by omega)] at e2
  have e3 := hf 3 f3 rfl
  rw [o3, c3, List.getElem?_eq_getElem (by omega)] at e3
  have e4 := hf 4 f4 rfl
  rw [o4, c4, List.getElem?_eq_getElem (by omega)] at e4
  have e5 := hf 5 f5 rfl
  rw [o5, c5, List.getElem?_eq_getElem (by omega)] at e5
  obtain ⟨a0, k0, r0⟩ := h0 H enc W _ _ _ e0
  obtain ⟨a1, k1, r1⟩ := h1 H enc W _ _ _ e1
  obtain ⟨a2, k2, r2⟩ := h2 H enc W _ _ _ e2
  obtain ⟨a3, k3, r3⟩ := h3 H enc W _ _ _ e3
  obtain ⟨a4, k4, r4⟩ := h4 H enc W _ _ _ e4
  obtain ⟨a5, k5, r5⟩ := h5 H enc W _ _ _ e5
  refine ⟨(a0, a1, a2, a3, a4, a5), ⟨k0, k1, k2, k3, k4, k5⟩, ?_⟩
  have := rdL_app r0 (rdL_app r1 (rdL_app r2 (rdL_app r3 (rdL_app r4 r5))))
  rwa [show cs.take s0 ++ ((cs.drop (s0)).take s1 ++ ((cs.drop (s0 + s1)).take s2 ++ ((cs.drop (s0 + s1 + s2)).take s3 ++ ((cs.drop (s0 + s1 + s2 + s3)).take s4 ++ (cs.drop (s0 + s1 + s2 + s3 + s4)).take s5)))) = cs from by
    rw [show cs.drop (s0 + s1 + s2 + s3 + s4) = (cs.drop (s0 + s1 + s2 + s3)).drop s4 from by rw [List.drop_drop]]
    rw [show cs.drop (s0 + s1 + s2 + s3) = (cs.drop (s0 + s1 + s2)).drop s3 from by rw [List.drop_drop]]
    rw [show cs.drop (s0 + s1 + s2) = (cs.drop (s0 + s1)).drop s2 from by rw [List.drop_drop]]
    rw [show cs.drop (s0 + s1) = (cs.drop (s0)).drop s1 from by rw [List.drop_drop]]
    rw [List.take_of_length_le (l := ((((cs.drop s0).drop s1).drop s2).drop s3).drop s4) (by simp; omega)]
    simp only [List.take_append_drop]] at this

end
end Go.Proofs.Ytfgmbgdbnjpclaa
