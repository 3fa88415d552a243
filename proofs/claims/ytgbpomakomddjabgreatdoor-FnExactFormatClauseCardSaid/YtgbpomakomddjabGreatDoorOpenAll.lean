/- DERIVED. What the row tells of an argument of type Domain, by trees. -/
import Derived.Test.YtgbpomakomddjabGreatDoorCore
import Derived.Deep.Slices
import Derived.Deep.Fields
import Derived.ChangeSame
import Derived.ChangeArms
import Derived.WideShapes
import Derived.Test.YtgbpomakomddjabGreatDoorDats
import Derived.Test.YtgbpomakomddjabGreatDoorChecked
import Derived.ProofKit
import Derived.OpenShut

section
namespace Go.Proofs.YtgbpomakomddjabGreatDoor
open Go.RowKit Go.ChangeShapes Go.WideShapes Go.Deep

section
variable {P : Program}
/-- Whatever lies in the cells of an argument of type t reads as the trees f of some data that is ok. -/
def Opens (P : Program) (t : TypeId) {α : Type} (f : α → List Tr) (ok : α → Prop) : Prop :=
  ∀ (H : Type) (enc : TypeId × Value → H) (W : World) (fuel : Nat) (cs : List Value) (x : DataW H × List MemPlace), DataW.trod enc P W 0 (fun _ => true) true fuel t cs = some x → ∃ a, ok a ∧ rdL W (f a) cs

theorem opens_int {t : TypeId} (ht : P.underlying t = some (.int .i64)) : Opens P t (fun n : Int => [.one (.int .i64 n)]) (fun n => (Lit.int .i64 n).wf = true) := by
  intro H enc W fuel cs x h
  obtain ⟨n, rfl, _, hw⟩ := DataW.trod_int ht h
  exact ⟨n, hw, _, _, rfl, rfl, rfl⟩
theorem opens_bool {t : TypeId} (ht : P.underlying t = some .bool) : Opens P t (fun b : Bool => [.one (.bool b)]) (fun _ => True) := by
  intro H enc W fuel cs x h
  obtain ⟨b, rfl, _⟩ := DataW.trod_bool ht h
  exact ⟨b, trivial, _, _, rfl, rfl, rfl⟩
theorem opens_string {t : TypeId} (ht : P.underlying t = some .string) : Opens P t (fun s : ByteArray => [.one (.string s)]) (fun s => s.size ≤ maxLen) := by
  intro H enc W fuel cs x h
  obtain ⟨s, rfl, _, hs⟩ := DataW.trod_string ht h
  exact ⟨s, hs, _, _, rfl, rfl, rfl⟩

theorem flatMap_one {α : Type} (g : α → Value) : ∀ xs : List α, (xs.flatMap fun n => [Tr.one (g n)]) = (xs.map g).map .one
  | [] => rfl
  | x :: xs => by rw [List.flatMap_cons, flatMap_one g xs]; rfl
theorem addAt {a : Addr} {i j : Nat} : (a.add i).add j = a.add (i + j) := by
  unfold Addr.add
  by_cases hi : i = 0 <;> by_cases hj : j = 0 <;> simp [hi, hj, Nat.add_assoc]
theorem addNone (b o k : Nat) : ((⟨b, o, none⟩ : Addr).add k) = ⟨b, o + k, none⟩ := by
  unfold Addr.add
  by_cases hk : k = 0 <;> simp [hk]
theorem opens_slice {ts e e' : TypeId} {s : Nat} {α : Type} {f : α → List Tr} {ok : α → Prop} (ht : P.underlying ts = some (.slice e)) (hC : P.cellsOf e = s) (hs0 : 0 < s) (he : Opens P e f ok) :
    Opens P ts (fun xs : List α => [rows e' s f xs]) (fun xs => ∀ x ∈ xs, ok x) := by
  intro H enc W fuel cs x h
  rcases open_slice ht h with ⟨rfl, _⟩ | ⟨a, len, cap, m, n, D, Pl, rfl, _, hl, hm, hmm, _, hi⟩
  · exact ⟨[], by simp, _, _, rfl, ⟨[], ⟨by simp, by simp, none, 0, rfl, .inl rfl⟩, rfl⟩, rfl⟩
  · obtain rfl : m = cap := by simpa using hmm
    rw [hC] at hi
    have key : ∀ n, n ≤ len → ∃ (xs : List α) (vs : List Value), xs.length = n ∧ vs.length = n * s ∧ rdL W (xs.flatMap f) vs ∧ (∀ x ∈ xs, ok x) ∧ ∀ j, j < n * s → W.cell? (a.add j) = vs[j]? := by
      intro n
      induction n with
      | zero => exact fun _ => ⟨[], [], rfl, by simp, rfl, by simp, fun j hj => by simp at hj⟩
      | succ n ih =>
        intro hn
        obtain ⟨xs, vs, h1, h2, h3, h4, h5⟩ := ih (by omega)
        obtain ⟨cs', hc, ht'⟩ := hi n (by omega)
        obtain ⟨_, hcl, hat⟩ := World.cells?_some hc
        obtain ⟨y, hy, hr⟩ := he H enc W _ _ _ ht'
        refine ⟨xs ++ [y], vs ++ cs', by simp [h1], by simp [h2, hcl, Nat.succ_mul], ?_, ?_, fun j hj => ?_⟩
        · rw [List.flatMap_append]
          exact rdL_app h3 (by simpa using hr)
        · intro z hz
          rcases List.mem_append.1 hz with hz | hz
          · exact h4 z hz
          · simp at hz; subst hz; exact hy
        · by_cases hlt : j < n * s
          · rw [List.getElem?_append_left (by omega)]
            exact h5 j hlt
          · rw [List.getElem?_append_right (by omega), h2]
            rw [Nat.succ_mul] at hj
            have := hat (j - n * s) (by omega)
            rw [addAt, show n * s + (j - n * s) = j from by omega] at this
            exact this
    obtain ⟨xs, vs, rfl, h2, h3, h4, h5⟩ := key len (Nat.le_refl _)
    refine ⟨xs, h4, _, _, rfl, ⟨vs, ⟨by omega, h2, some a, m, rfl, ?_⟩, h3⟩, rfl⟩
    by_cases h0 : xs.length = 0
    · exact .inl h0
    · right
      have hpos : 0 < xs.length * s := Nat.mul_pos (by omega) hs0
      have c0 := h5 0 hpos
      have hv0 : vs[0]? = some (vs[0]'(by omega)) := List.getElem?_eq_getElem (by omega)
      rw [hv0] at c0
      obtain ⟨b, o, spot⟩ := a
      have hspot : spot = none := by simpa [Addr.add] using World.cell?_spot c0
      subst hspot
      have hadd : ∀ k, ((⟨b, o, none⟩ : Addr).add k) = ⟨b, o + k, none⟩ := addNone b o
      refine ⟨b, o, rfl, ?_, fun j hj => ?_⟩
      · rcases Nat.lt_or_ge b W.heap.size with hlt | hge
        · exact hlt
        · rw [hadd] at c0
          simp [World.cell?, Array.getElem?_eq_none hge] at c0
      · have := h5 j (by omega)
        rw [hadd] at this
        rw [this, List.getElem?_eq_getElem hj]

theorem opens_struct1 {t : TypeId} {f0 : Field} {α0 : Type} {g0 : α0 → List Tr} {ok0 : α0 → Prop} {s0 : Nat} (ht : P.underlying t = some (.struct #[f0])) (hC : P.cellsOf t = s0)
    (o0 : f0.offset = 0) (c0 : P.cellsOf f0.type = s0) (h0 : Opens P f0.type g0 ok0) : Opens P t g0 ok0 := by
  intro H enc W fuel cs x h
  obtain ⟨ys, n, _, _, hl, hlen, hf⟩ := DataW.trod_struct ht h
  have e0 := hf 0 f0 rfl
  rw [o0, c0, List.drop_zero, List.take_of_length_le (by omega), List.getElem?_eq_getElem (by simp at hlen; omega)] at e0
  exact h0 H enc W _ _ _ e0
theorem opens_struct2 {t : TypeId} {f0 f1 : Field} {α0 α1 : Type} {g0 : α0 → List Tr} {g1 : α1 → List Tr} {ok0 : α0 → Prop} {ok1 : α1 → Prop} {s0 s1 : Nat} (ht : P.underlying t = some (.struct #[f0, f1])) (hC : P.cellsOf t = s0 + s1)
    (o : f0.offset = 0 ∧ f1.offset = s0) (c : P.cellsOf f0.type = s0 ∧ P.cellsOf f1.type = s1) (h0 : Opens P f0.type g0 ok0) (h1 : Opens P f1.type g1 ok1) :
    Opens P t (fun a : α0 × α1 => g0 a.1 ++ g1 a.2) (fun a => ok0 a.1 ∧ ok1 a.2) := by
  intro H enc W fuel cs x h
  obtain ⟨ys, n, _, _, hl, hlen, hf⟩ := DataW.trod_struct ht h
  have hlen' : ys.length = 2 := hlen
  have e0 := hf 0 f0 rfl
  have e1 := hf 1 f1 rfl
  rw [o.1, c.1, List.drop_zero, List.getElem?_eq_getElem (by omega)] at e0
  rw [o.2, c.2, List.getElem?_eq_getElem (by omega)] at e1
  obtain ⟨a0, k0, r0⟩ := h0 H enc W _ _ _ e0
  obtain ⟨a1, k1, r1⟩ := h1 H enc W _ _ _ e1
  refine ⟨(a0, a1), ⟨k0, k1⟩, ?_⟩
  have := rdL_app r0 r1
  rwa [show cs.take s0 ++ (cs.drop s0).take s1 = cs from by rw [List.take_of_length_le (l := cs.drop s0) (by simp; omega), List.take_append_drop]] at this
theorem opens_struct3 {t : TypeId} {f0 f1 f2 : Field} {α0 α1 α2 : Type} {g0 : α0 → List Tr} {g1 : α1 → List Tr} {g2 : α2 → List Tr} {ok0 : α0 → Prop} {ok1 : α1 → Prop} {ok2 : α2 → Prop} {s0 s1 s2 : Nat}
    (ht : P.underlying t = some (.struct #[f0, f1, f2])) (hC : P.cellsOf t = s0 + (s1 + s2))
    (o : f0.offset = 0 ∧ f1.offset = s0 ∧ f2.offset = s0 + s1) (c : P.cellsOf f0.type = s0 ∧ P.cellsOf f1.type = s1 ∧ P.cellsOf f2.type = s2) (h0 : Opens P f0.type g0 ok0) (h1 : Opens P f1.type g1 ok1) (h2 : Opens P f2.type g2 ok2) :
    Opens P t (fun a : α0 × α1 × α2 => g0 a.1 ++ (g1 a.2.1 ++ g2 a.2.2)) (fun a => ok0 a.1 ∧ ok1 a.2.1 ∧ ok2 a.2.2) := by
  intro H enc W fuel cs x h
  obtain ⟨ys, n, _, _, hl, hlen, hf⟩ := DataW.trod_struct ht h
  have hlen' : ys.length = 3 := hlen
  have e0 := hf 0 f0 rfl
  have e1 := hf 1 f1 rfl
  have e2 := hf 2 f2 rfl
  rw [o.1, c.1, List.drop_zero, List.getElem?_eq_getElem (by omega)] at e0
  rw [o.2.1, c.2.1, List.getElem?_eq_getElem (by omega)] at e1
  rw [o.2.2, c.2.2, List.getElem?_eq_getElem (by omega)] at e2
  obtain ⟨a0, k0, r0⟩ := h0 H enc W _ _ _ e0
  obtain ⟨a1, k1, r1⟩ := h1 H enc W _ _ _ e1
  obtain ⟨a2, k2, r2⟩ := h2 H enc W _ _ _ e2
  refine ⟨(a0, a1, a2), ⟨k0, k1, k2⟩, ?_⟩
  have := rdL_app r0 (rdL_app r1 r2)
  rwa [show cs.take s0 ++ ((cs.drop s0).take s1 ++ (cs.drop (s0 + s1)).take s2) = cs from by
    rw [← List.drop_drop, List.take_of_length_le (l := (cs.drop s0).drop s1) (by simp; omega), List.take_append_drop, List.take_append_drop]] at this
/-- A struct by value. -/
theorem opens_agg {t : TypeId} {fs : Array Field} {α : Type} {f : α → List Tr} {ok : α → Prop} (ht : P.underlying t = some (.struct fs)) (ho : Opens P t f ok) {H : Type} {enc : TypeId × Value → H} {W : World} {r : Reach} {b0 : Nat} {v : Value} {d : DataW H} {p : List MemPlace}
    (hv : Value.okWide P W r b0 t v) (h : DataW.Trod enc P W 0 (fun _ => true) true t v d p) : ∃ a, ok a ∧ (Tr.agg (f a)).rd W v := by
  obtain ⟨⟨cs⟩, rfl, _⟩ := okWide_struct ht hv
  obtain ⟨fuel, hf⟩ := h
  obtain ⟨a, hk, hr⟩ := ho H enc W fuel cs _ (by simpa [Value.cells] using hf)
  exact ⟨a, hk, cs, rfl, hr⟩
/-- A slice by value. -/
theorem opens_one {t : TypeId} {α : Type} {g : α → Tr} {ok : α → Prop} (ho : Opens P t (fun a => [g a]) ok) {H : Type} {enc : TypeId × Value → H} {W : World} {A : Option Addr} {l c : Nat} {d : DataW H} {p : List MemPlace}
    (h : DataW.Trod enc P W 0 (fun _ => true) true t (.slice A l c) d p) : ∃ a, ok a ∧ (g a).rd W (.slice A l c) := by
  obtain ⟨fuel, hf⟩ := h
  obtain ⟨a, hk, v, us, hvs, hr, _⟩ := ho H enc W fuel [.slice A l c] _ (by simpa [Value.cells] using hf)
  injection hvs with hvs
  exact ⟨a, hk, hvs ▸ hr⟩
end
end Go.Proofs.YtgbpomakomddjabGreatDoor
end

section
namespace Go.Proofs.YtgbpomakomddjabGreatDoor
open Go.RowKit Go.ChangeShapes Go.WideShapes Go.Deep

section
variable {P : Program}
theorem Opens.weak {t : TypeId} {α : Type} {f : α → List Tr} {ok ok2 : α → Prop} (h : Opens P t f ok) (hw : ∀ a, ok a → ok2 a) : Opens P t f ok2 := by
  intro H enc W fuel cs x hx
  obtain ⟨a, h1, h2⟩ := h H enc W fuel cs x hx
  exact ⟨a, hw a h1, h2⟩
theorem opens_struct4 {t : TypeId} {f0 f1 f2 f3 : Field} {α0 α1 α2 α3 : Type} {g0 : α0 → List Tr} {g1 : α1 → List Tr} {g2 : α2 → List Tr} {g3 : α3 → List Tr} {ok0 : α0 → Prop} {ok1 : α1 → Prop} {ok2 : α2 → Prop} {ok3 : α3 → Prop} {s0 s1 s2 s3 : Nat}
    (ht : P.underlying t = some (.struct #[f0, f1, f2, f3])) (hC : P.cellsOf t = s0 + (s1 + (s2 + s3)))
    (o : f0.offset = 0 ∧ f1.offset = s0 ∧ f2.offset = s0 + s1 ∧ f3.offset = s0 + s1 + s2) (c : P.cellsOf f0.type = s0 ∧ P.cellsOf f1.type = s1 ∧ P.cellsOf f2.type = s2 ∧ P.cellsOf f3.type = s3) (h0 : Opens P f0.type g0 ok0) (h1 : Opens P f1.type g1 ok1) (h2 : Opens P f2.type g2 ok2) (h3 : Opens P f3.type g3 ok3) :
    Opens P t (fun a : α0 × α1 × α2 × α3 => g0 a.1 ++ (g1 a.2.1 ++ (g2 a.2.2.1 ++ g3 a.2.2.2))) (fun a => ok0 a.1 ∧ ok1 a.2.1 ∧ ok2 a.2.2.1 ∧ ok3 a.2.2.2) := by
  intro H enc W fuel cs x h
  obtain ⟨ys, n, _, _, hl, hlen, hf⟩ := DataW.trod_struct ht h
  have hlen' : ys.length = 4 := hlen
  obtain ⟨o0, o1, o2, o3⟩ := o
  obtain ⟨c0, c1, c2, c3⟩ := c
  have e0 := hf 0 f0 rfl
  rw [o0, c0, List.drop_zero, List.getElem?_eq_getElem (by omega)] at e0
  have e1 := hf 1 f1 rfl
  rw [o1, c1, List.getElem?_eq_getElem (by omega)] at e1
  have e2 := hf 2 f2 rfl
  rw [o2, c2, List.getElem?_eq_getElem (by omega)] at e2
  have e3 := hf 3 f3 rfl
  rw [o3, c3, List.getElem?_eq_getElem (by omega)] at e3
  obtain ⟨a0, k0, r0⟩ := h0 H enc W _ _ _ e0
  obtain ⟨a1, k1, r1⟩ := h1 H enc W _ _ _ e1
  obtain ⟨a2, k2, r2⟩ := h2 H enc W _ _ _ e2
  obtain ⟨a3, k3, r3⟩ := h3 H enc W _ _ _ e3
  refine ⟨(a0, a1, a2, a3), ⟨k0, k1, k2, k3⟩, ?_⟩
  have := rdL_app r0 (rdL_app r1 (rdL_app r2 r3))
  rwa [show cs.take s0 ++ ((cs.drop (s0)).take s1 ++ ((cs.drop (s0 + s1)).take s2 ++ (cs.drop (s0 + s1 + s2)).take s3)) = cs from by
    rw [show cs.drop (s0 + s1 + s2) = (cs.drop (s0 + s1)).drop s2 from by rw [List.drop_drop]]
    rw [show cs.drop (s0 + s1) = (cs.drop (s0)).drop s1 from by rw [List.drop_drop]]
    rw [List.take_of_length_le (l := ((cs.drop s0).drop s1).drop s2) (by simp; omega)]
    simp only [List.take_append_drop]] at this

theorem opens_struct5 {t : TypeId} {f0 f1 f2 f3 f4 : Field} {α0 α1 α2 α3 α4 : Type} {g0 : α0 → List Tr} {g1 : α1 → List Tr} {g2 : α2 → List Tr} {g3 : α3 → List Tr} {g4 : α4 → List Tr} {ok0 : α0 → Prop} {ok1 : α1 → Prop} {ok2 : α2 → Prop} {ok3 : α3 → Prop} {ok4 : α4 → Prop} {s0 s1 s2 s3 s4 : Nat}
    (ht : P.underlying t = some (.struct #[f0, f1, f2, f3, f4])) (hC : P.cellsOf t = s0 + (s1 + (s2 + (s3 + s4))))
    (o : f0.offset = 0 ∧ f1.offset = s0 ∧ f2.offset = s0 + s1 ∧ f3.offset = s0 + s1 + s2 ∧ f4.offset = s0 + s1 + s2 + s3) (c : P.cellsOf f0.type = s0 ∧ P.cellsOf f1.type = s1 ∧ P.cellsOf f2.type = s2 ∧ P.cellsOf f3.type = s3 ∧ P.cellsOf f4.type = s4) (h0 : Opens P f0.type g0 ok0) (h1 : Opens P f1.type g1 ok1) (h2 : Opens P f2.type g2 ok2) (h3 : Opens P f3.type g3 ok3) (h4 : Opens P f4.type g4 ok4) :
    Opens P t (fun a : α0 × α1 × α2 × α3 × α4 => g0 a.1 ++ (g1 a.2.1 ++ (g2 a.2.2.1 ++ (g3 a.2.2.2.1 ++ g4 a.2.2.2.2)))) (fun a => ok0 a.1 ∧ ok1 a.2.1 ∧ ok2 a.2.2.1 ∧ ok3 a.2.2.2.1 ∧ ok4 a.2.2.2.2) := by
  intro H enc W fuel cs x h
  obtain ⟨ys, n, _, _, hl, hlen, hf⟩ := DataW.trod_struct ht h
  have hlen' : ys.length = 5 := hlen
  obtain ⟨o0, o1, o2, o3, o4⟩ := o
  obtain ⟨c0, c1, c2, c3, c4⟩ := c
  have e0 := hf 0 f0 rfl
  rw [o0, c0, List.drop_zero, List.getElem?_eq_getElem (by omega)] at e0
  have e1 := hf 1 f1 rfl
  rw [o1, c1, List.getElem?_eq_getElem (by omega)] at e1
  have e2 := hf 2 f2 rfl
  rw [o2, c2, List.getElem?_eq_getElem (by omega)] at e2
  have e3 := hf 3 f3 rfl
  rw [o3, c3, List.getElem?_eq_getElem (by omega)] at e3
  have e4 := hf 4 f4 rfl
  rw [o4, c4, List.getElem?_eq_getElem (by omega)] at e4
  obtain ⟨a0, k0, r0⟩ := h0 H enc W _ _ _ e0
  obtain ⟨a1, k1, r1⟩ := h1 H enc W _ _ _ e1
  obtain ⟨a2, k2, r2⟩ := h2 H enc W _ _ _ e2
  obtain ⟨a3, k3, r3⟩ := h3 H enc W _ _ _ e3
  obtain ⟨a4, k4, r4⟩ := h4 H enc W _ _ _ e4
  refine ⟨(a0, a1, a2, a3, a4), ⟨k0, k1, k2, k3, k4⟩, ?_⟩
  have := rdL_app r0 (rdL_app r1 (rdL_app r2 (rdL_app r3 r4)))
  rwa [show cs.take s0 ++ ((cs.drop (s0)).take s1 ++ ((cs.drop (s0 + s1)).take s2 ++ ((cs.drop (s0 + s1 + s2)).take s3 ++ (cs.drop (s0 + s1 + s2 + s3)).take s4))) = cs from by
    rw [show cs.drop (s0 + s1 + s2 + s3) = (cs.drop (s0 + s1 + s2)).drop s3 from by rw [List.drop_drop]]
    rw [show cs.drop (s0 + s1 + s2) = (cs.drop (s0 + s1)).drop s2 from by rw [List.drop_drop]]
    rw [show cs.drop (s0 + s1) = (cs.drop (s0)).drop s1 from by rw [List.drop_drop]]
    rw [List.take_of_length_le (l := (((cs.drop s0).drop s1).drop s2).drop s3) (by simp; omega)]
    simp only [List.take_append_drop]] at this

theorem opens_struct6 {t : TypeId} {f0 f1 f2 f3 f4 f5 : Field} {α0 α1 α2 α3 α4 α5 : Type} {g0 : α0 → List Tr} {g1 : α1 → List Tr} {g2 : α2 → List Tr} {g3 : α3 → List Tr} {g4 : α4 → List Tr} {g5 : α5 → List Tr} {ok0 : α0 → Prop} {ok1 : α1 → Prop} {ok2 : α2 → Prop} {ok3 : α3 → Prop} {ok4 : α4 → Prop} {ok5 : α5 → Prop} {s0 s1 s2 s3 s4 s5 : Nat}
    (ht : P.underlying t = some (.struct #[f0, f1, f2, f3, f4, f5])) (hC : P.cellsOf t = s0 + (s1 + (s2 + (s3 + (s4 + s5)))))
    (o : f0.offset = 0 ∧ f1.offset = s0 ∧ f2.offset = s0 + s1 ∧ f3.offset = s0 + s1 + s2 ∧ f4.offset = s0 + s1 + s2 + s3 ∧ f5.offset = s0 + s1 + s2 + s3 + s4) (c : P.cellsOf f0.type = s0 ∧ P.cellsOf f1.type = s1 ∧ P.cellsOf f2.type = s2 ∧ P.cellsOf f3.type = s3 ∧ P.cellsOf f4.type = s4 ∧ P.cellsOf f5.type = s5) (h0 : Opens P f0.type g0 ok0) (h1 : Opens P f1.type g1 ok1) (h2 : Opens P f2.type g2 ok2) (h3 : Opens P f3.type g3 ok3) (h4 : Opens P f4.type g4 ok4) (h5 : Opens P f5.type g5 ok5) :
    Opens P t (fun a : α0 × α1 × α2 × α3 × α4 × α5 => g0 a.1 ++ (g1 a.2.1 ++ (g2 a.2.2.1 ++ (g3 a.2.2.2.1 ++ (g4 a.2.2.2.2.1 ++ g5 a.2.2.2.2.2))))) (fun a => ok0 a.1 ∧ ok1 a.2.1 ∧ ok2 a.2.2.1 ∧ ok3 a.2.2.2.1 ∧ ok4 a.2.2.2.2.1 ∧ ok5 a.2.2.2.2.2) := by
  intro H enc W fuel cs x h
  obtain ⟨ys, n, _, _, hl, hlen, hf⟩ := DataW.trod_struct ht h
  have hlen' : ys.length = 6 := hlen
  obtain ⟨o0, o1, o2, o3, o4, o5⟩ := o
  obtain ⟨c0, c1, c2, c3, c4, c5⟩ := c
  have e0 := hf 0 f0 rfl
  rw [o0, c0, List.drop_zero, List.getElem?_eq_getElem (by omega)] at e0
  have e1 := hf 1 f1 rfl
  rw [o1, c1, List.getElem?_eq_getElem (by omega)] at e1
  have e2 := hf 2 f2 rfl
  rw [o2, c2, List.getElem?_eq_getElem (by omega)] at e2
  have e3 := hf 3 f3 rfl
  rw [o3, c3, List.getElem?_eq_getElem (by omega)] at e3
  have e4 := hf 4 f4 rfl
  rw [o4, c4, List.getElem?_eq_getElem (by omega)] at e4
  have e5 := hf 5 f5 rfl
  rw [o5, c5, List.getElem?_eq_getElem (by omega)] at e5
  obtain ⟨a0, k0, r0⟩ := h0 H enc W _ _ _ e0
  obtain ⟨a1, k1, r1⟩ := h1 H enc W _ _ _ e1
  obtain ⟨a2, k2, r2⟩ := h2 H enc W _ _ _ e2
  obtain ⟨a3, k3, r3⟩ := h3 H enc W _ _ _ e3
  obtain ⟨a4, k4, r4⟩ := h4 H enc W _ _ _ e4
  obtain ⟨a5, k5, r5⟩ := h5 H enc W _ _ _ e5
  refine ⟨(a0, a1, a2, a3, a4, a5), ⟨k0, k1, k2, k3, k4, k5⟩, ?_⟩
  have := rdL_app r0 (rdL_app r1 (rdL_app r2 (rdL_app r3 (rdL_app r4 r5))))
  rwa [show cs.take s0 ++ ((cs.drop (s0)).take s1 ++ ((cs.drop (s0 + s1)).take s2 ++ ((cs.drop (s0 + s1 + s2)).take s3 ++ ((cs.drop (s0 + s1 + s2 + s3)).take s4 ++ (cs.drop (s0 + s1 + s2 + s3 + s4)).take s5)))) = cs from by
    rw [show cs.drop (s0 + s1 + s2 + s3 + s4) = (cs.drop (s0 + s1 + s2 + s3)).drop s4 from by rw [List.drop_drop]]
    rw [show cs.drop (s0 + s1 + s2 + s3) = (cs.drop (s0 + s1 + s2)).drop s3 from by rw [List.drop_drop]]
    rw [show cs.drop (s0 + s1 + s2) = (cs.drop (s0 + s1)).drop s2 from by rw [List.drop_drop]]
    rw [show cs.drop (s0 + s1) = (cs.drop (s0)).drop s1 from by rw [List.drop_drop]]
    rw [List.take_of_length_le (l := ((((cs.drop s0).drop s1).drop s2).drop s3).drop s4) (by simp; omega)]
    simp only [List.take_append_drop]] at this

end
end Go.Proofs.YtgbpomakomddjabGreatDoor
end

section
namespace Go.Proofs.YtgbpomakomddjabGreatDoor
open Go.RowKit Go.ChangeShapes Go.WideShapes Go.Deep

theorem okL_ints : ∀ {xs : List Int}, (∀ x ∈ xs, (Lit.int .i64 x).wf = true) → okL ((xs.map (Value.int .i64)).map .one)
  | [], _ => trivial
  | x :: xs, h => ⟨h x (by simp), okL_ints fun y hy => h y (by simp [hy])⟩
theorem opens_IntS : Opens Tryz.prog 25 (fun xs : List Int => [trI xs]) (fun xs => (trI xs).ok) := by
  intro H enc W fuel cs x h
  obtain ⟨xs, h1, v, us, rfl, h2, h3⟩ := opens_slice (e' := 3) Tryz.underlying25 (by kernel_rfl) (Nat.succ_pos 0) (opens_int Tryz.underlying3) H enc W fuel cs x h
  refine ⟨xs, okL_ints h1, v, us, rfl, flat_rd ?_, h3⟩
  obtain ⟨vs, h4, h5⟩ := h2
  rw [flatMap_one] at h5
  have h6 := rdL_ones.1 h5
  subst h6
  obtain ⟨hl, _, A, c, rfl, hh⟩ := h4
  refine ⟨by simpa using hl, A, c, by simp, ?_⟩
  rcases hh with hh | hh
  · exact .inl (by simpa using hh)
  · exact .inr hh
end Go.Proofs.YtgbpomakomddjabGreatDoor
end

section
namespace Go.Proofs.YtgbpomakomddjabGreatDoor
open Go.RowKit Go.ChangeShapes Go.WideShapes Go.Deep

theorem opens_Mode : Opens Tryz.prog 153 cellsM (fun d => okL (cellsM d)) := by
  intro H enc W fuel cs x h
  obtain ⟨⟨x0, x1, x2⟩, ⟨k0, k1, k2⟩, hr⟩ := opens_struct3 (s0 := 1) (s1 := 1) (s2 := 1) Tryz.underlying153 (by kernel_rfl) ⟨rfl, rfl, rfl⟩ ⟨by kernel_rfl, by kernel_rfl, by kernel_rfl⟩ (opens_int Tryz.underlying3) opens_IntS opens_IntS H enc W fuel cs x h
  exact ⟨⟨x0, x1, x2⟩, ⟨k0, k1, k2, trivial⟩, hr⟩
theorem opens_ModeS : Opens Tryz.prog 77 (fun xs => [trMs xs]) (fun xs => (trMs xs).ok) := (opens_slice Tryz.underlying77 (by kernel_rfl) (by omega) opens_Mode).weak fun xs h => flat_okL h
end Go.Proofs.YtgbpomakomddjabGreatDoor
end

section
namespace Go.Proofs.YtgbpomakomddjabGreatDoor
open Go.RowKit Go.ChangeShapes Go.WideShapes Go.Deep

theorem opens_Activity : Opens Tryz.prog 79 cellsA (fun d => okL (cellsA d)) := by
  intro H enc W fuel cs x h
  obtain ⟨⟨x0, x1, x2⟩, ⟨k0, k1, k2⟩, hr⟩ := opens_struct3 (s0 := 1) (s1 := 1) (s2 := 1) Tryz.underlying79 (by kernel_rfl) ⟨rfl, rfl, rfl⟩ ⟨by kernel_rfl, by kernel_rfl, by kernel_rfl⟩ (opens_string Tryz.underlying9) (opens_int Tryz.underlying3) opens_ModeS H enc W fuel cs x h
  exact ⟨⟨x0, x1, x2⟩, ⟨k0, k1, k2, trivial⟩, hr⟩
theorem opens_ActivityS : Opens Tryz.prog 22 (fun xs => [trAs xs]) (fun xs => (trAs xs).ok) := (opens_slice Tryz.underlying22 (by kernel_rfl) (by omega) opens_Activity).weak fun xs h => flat_okL h
end Go.Proofs.YtgbpomakomddjabGreatDoor
end

section
namespace Go.Proofs.YtgbpomakomddjabGreatDoor
open Go.RowKit Go.ChangeShapes Go.WideShapes Go.Deep

theorem opens_Link : Opens Tryz.prog 95 cellsL (fun d => okL (cellsL d)) := by
  intro H enc W fuel cs x h
  obtain ⟨⟨x0, x1, x2, x3⟩, ⟨k0, k1, k2, k3⟩, hr⟩ := opens_struct4 (s0 := 1) (s1 := 1) (s2 := 1) (s3 := 1) Tryz.underlying95 (by kernel_rfl) ⟨rfl, rfl, rfl, rfl⟩ ⟨by kernel_rfl, by kernel_rfl, by kernel_rfl, by kernel_rfl⟩ (opens_int Tryz.underlying3) (opens_int Tryz.underlying3) (opens_bool Tryz.underlying4) (opens_int Tryz.underlying3) H enc W fuel cs x h
  exact ⟨⟨x0, x1, x2, x3⟩, ⟨k0, k1, k2, k3, trivial⟩, hr⟩
theorem opens_LinkS : Opens Tryz.prog 23 (fun xs => [trLs xs]) (fun xs => (trLs xs).ok) := (opens_slice Tryz.underlying23 (by kernel_rfl) (by omega) opens_Link).weak fun xs h => flat_okL h
end Go.Proofs.YtgbpomakomddjabGreatDoor
end

section
namespace Go.Proofs.YtgbpomakomddjabGreatDoor
open Go.RowKit Go.ChangeShapes Go.WideShapes Go.Deep

theorem opens_Step : Opens Tryz.prog 158 cellsPt (fun d => okL (cellsPt d)) := by
  intro H enc W fuel cs x h
  obtain ⟨⟨x0, x1⟩, ⟨k0, k1⟩, hr⟩ := opens_struct2 (s0 := 1) (s1 := 1) Tryz.underlying158 (by kernel_rfl) ⟨rfl, rfl⟩ ⟨by kernel_rfl, by kernel_rfl⟩ (opens_int Tryz.underlying3) (opens_int Tryz.underlying3) H enc W fuel cs x h
  exact ⟨(x0, x1), ⟨k0, k1, trivial⟩, hr⟩
theorem opens_StepS : Opens Tryz.prog 81 (fun xs => [trSt xs]) (fun xs => (trSt xs).ok) := (opens_slice Tryz.underlying81 (by kernel_rfl) (by omega) opens_Step).weak fun xs h => flat_okL h
end Go.Proofs.YtgbpomakomddjabGreatDoor
end

section
namespace Go.Proofs.YtgbpomakomddjabGreatDoor
open Go.RowKit Go.ChangeShapes Go.WideShapes Go.Deep

theorem opens_IntSS : Opens Tryz.prog 82 (fun xs => [trSu xs]) (fun xs => (trSu xs).ok) :=
  (opens_slice (f := cellsI1) Tryz.underlying82 (by kernel_rfl) (by omega) opens_IntS).weak fun xs h => flat_okL fun x hx => ⟨h x hx, trivial⟩
end Go.Proofs.YtgbpomakomddjabGreatDoor
end

section
namespace Go.Proofs.YtgbpomakomddjabGreatDoor
open Go.RowKit Go.ChangeShapes Go.WideShapes Go.Deep

theorem opens_Resource : Opens Tryz.prog 84 cellsR (fun d => okL (cellsR d)) := by
  intro H enc W fuel cs x h
  obtain ⟨⟨x0, x1⟩, ⟨k0, k1⟩, hr⟩ := opens_struct2 (s0 := 1) (s1 := 1) Tryz.underlying84 (by kernel_rfl) ⟨rfl, rfl⟩ ⟨by kernel_rfl, by kernel_rfl⟩ opens_StepS opens_IntSS H enc W fuel cs x h
  exact ⟨⟨x0, x1⟩, ⟨k0, k1, trivial⟩, hr⟩
theorem opens_ResourceS : Opens Tryz.prog 24 (fun xs => [trRs xs]) (fun xs => (trRs xs).ok) := (opens_slice Tryz.underlying24 (by kernel_rfl) (by omega) opens_Resource).weak fun xs h => flat_okL h
end Go.Proofs.YtgbpomakomddjabGreatDoor
end

section
namespace Go.Proofs.YtgbpomakomddjabGreatDoor
open Go.RowKit Go.ChangeShapes Go.WideShapes Go.Deep

theorem opens_Project : Opens Tryz.prog 27 cellsPj (fun d => okL (cellsPj d)) := by
  intro H enc W fuel cs x h
  obtain ⟨⟨x0, x1, x2, x3, x4⟩, ⟨k0, k1, k2, k3, k4⟩, hr⟩ := opens_struct5 (s0 := 1) (s1 := 1) (s2 := 1) (s3 := 1) (s4 := 1) Tryz.underlying27 (by kernel_rfl) ⟨rfl, rfl, rfl, rfl, rfl⟩ ⟨by kernel_rfl, by kernel_rfl, by kernel_rfl, by kernel_rfl, by kernel_rfl⟩ (opens_int Tryz.underlying3) opens_ActivityS opens_LinkS opens_ResourceS opens_IntS H enc W fuel cs x h
  exact ⟨⟨x0, x1, x2, x3, x4⟩, ⟨k0, k1, k2, k3, k4, trivial⟩, hr⟩
end Go.Proofs.YtgbpomakomddjabGreatDoor
end

section
namespace Go.Proofs.YtgbpomakomddjabGreatDoor
open Go.RowKit Go.ChangeShapes Go.WideShapes Go.Deep

end Go.Proofs.YtgbpomakomddjabGreatDoor
end

section
namespace Go.Proofs.YtgbpomakomddjabGreatDoor
open Go.RowKit Go.ChangeShapes Go.WideShapes Go.Deep

end Go.Proofs.YtgbpomakomddjabGreatDoor
end

section
namespace Go.Proofs.YtgbpomakomddjabGreatDoor
open Go.RowKit Go.ChangeShapes Go.WideShapes Go.Deep

theorem opens_Literal : Opens Tryz.prog 63 cellsLt (fun d => okL (cellsLt d)) := by
  intro H enc W fuel cs x h
  obtain ⟨⟨x0, x1, x2⟩, ⟨k0, k1, k2⟩, hr⟩ := opens_struct3 (s0 := 1) (s1 := 1) (s2 := 1) Tryz.underlying63 (by kernel_rfl) ⟨rfl, rfl, rfl⟩ ⟨by kernel_rfl, by kernel_rfl, by kernel_rfl⟩ (opens_int Tryz.underlying3) (opens_int Tryz.underlying3) (opens_int Tryz.underlying3) H enc W fuel cs x h
  exact ⟨⟨x0, x1, x2⟩, ⟨k0, k1, k2, trivial⟩, hr⟩
theorem opens_LiteralS : Opens Tryz.prog 28 (fun xs => [trLts xs]) (fun xs => (trLts xs).ok) := (opens_slice Tryz.underlying28 (by kernel_rfl) (by omega) opens_Literal).weak fun xs h => flat_okL h
end Go.Proofs.YtgbpomakomddjabGreatDoor
end

section
namespace Go.Proofs.YtgbpomakomddjabGreatDoor
open Go.RowKit Go.ChangeShapes Go.WideShapes Go.Deep

end Go.Proofs.YtgbpomakomddjabGreatDoor
end
