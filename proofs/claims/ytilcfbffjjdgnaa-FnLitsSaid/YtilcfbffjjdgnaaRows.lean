/-
  No cell of these rows narrows 'for every input' (looked for: loops, veiled, ifaces, maps, wideKeys, modest, calm, conditions, laid).
  DERIVED. THE GIVEN ROWS OF THIS SEAT. 5 by the template 'for every input the law returns true; each argument reads behind the call as it read before'; 0 by the template 'total and deterministic' (their statements: YtilcfbffjjdgnaaTotals.lean).
  GIVEN WITH THE SEED: the statements are not yours to turn. If you find one false, say at which input.
  Laid BY PROGRAM, IN A SANDBOX (cutbox-rows.mjs): the forced cells as the released guide's own fill.sh prints them over the translation 22835c9699d396da… (all of the seat's roots in one cut). By AI agents, Wed Nov 11 2026. No macro, syntax, notation, axiom, sorry.
-/
import Derived.Test.YtilcfbffjjdgnaaChecked
import GoSem.Claim
import GoSem.ClaimJoined
import GoSem.ClaimMapViews
import Derived.JoinedTies
import Derived.KernelRfl
namespace Go.Proofs.Ytilcfbffjjdgnaa
/- THE CELL 'sum', in the pinned program and in every row, IS THE sha256 OF THE DUMP (.gsa) THAT YtilcfbffjjdgnaaProg.lean LOADS. Nothing in Lean hashes anything: it is a label: what it is worth is what the hold of that sum in a sandbox is worth. -/
noncomputable def Try.pinned : Pinned := { name := "ytilcfbffjjdgnaa", sum := "22835c9699d396da0274dd774a4a26d82066e1f8a3bdcb6c1414c1696120cdde", checked := Try.checked }
namespace Rows
def none {H : Type} : Left H := { results := [], args := [] }

/-- 'laws.FnLits': WHATEVER THE INPUT: true; the input reads as it did. -/
def fnLitsSpec : ChangeSpec := { name := "fnLits", fn := fun _ => fun
  | [d] => { results := [.lit (.bool true)], args := [d] }
  | _ => none }
def fnLitsRow : OpenClaim := { program := "ytilcfbffjjdgnaa", sum := "22835c9699d396da0274dd774a4a26d82066e1f8a3bdcb6c1414c1696120cdde", func := "loop.example/g00806/laws.FnLits", spec := "fnLits", unfollowed := true, recurses := true, apart := false }
def FnLitsSaid : Prop := fnLitsRow.holds Try.pinned (OpenSpec.ofChange fnLitsSpec)

/-- ITS FALSE NEIGHBOUR: 'it returns false'. Refute it at one input. -/
def fnLitsWrong : ChangeSpec := { name := "fnLits", fn := fun _ => fun
  | [d] => { results := [.lit (.bool false)], args := [d] }
  | _ => none }
def FnLitsWrongFalsely : Prop := fnLitsRow.holds Try.pinned (OpenSpec.ofChange fnLitsWrong)

/-- 'laws.FnExactLiteralOk': WHATEVER THE INPUT: true; the input reads as it did. -/
def fnExactLiteralOkSpec : ChangeSpec := { name := "fnExactLiteralOk", fn := fun _ => fun
  | [d1, d2] => { results := [.lit (.bool true)], args := [d1, d2] }
  | _ => none }
def fnExactLiteralOkRow : OpenClaim := { program := "ytilcfbffjjdgnaa", sum := "22835c9699d396da0274dd774a4a26d82066e1f8a3bdcb6c1414c1696120cdde", func := "loop.example/g00806/laws.FnExactLiteralOk", spec := "fnExactLiteralOk", unfollowed := true, recurses := true, apart := false }
def FnExactLiteralOkSaid : Prop := fnExactLiteralOkRow.holds Try.pinned (OpenSpec.ofChange fnExactLiteralOkSpec)

/-- ITS FALSE NEIGHBOUR: 'it returns false'. Refute it at one input. -/
def fnExactLiteralOkWrong : ChangeSpec := { name := "fnExactLiteralOk", fn := fun _ => fun
  | [d1, d2] => { results := [.lit (.bool false)], args := [d1, d2] }
  | _ => none }
def FnExactLiteralOkWrongFalsely : Prop := fnExactLiteralOkRow.holds Try.pinned (OpenSpec.ofChange fnExactLiteralOkWrong)

/-- 'laws.FnExactNegate': WHATEVER THE INPUT: true; the input reads as it did. -/
def fnExactNegateSpec : ChangeSpec := { name := "fnExactNegate", fn := fun _ => fun
  | [d] => { results := [.lit (.bool true)], args := [d] }
  | _ => none }
def fnExactNegateRow : OpenClaim := { program := "ytilcfbffjjdgnaa", sum := "22835c9699d396da0274dd774a4a26d82066e1f8a3bdcb6c1414c1696120cdde", func := "loop.example/g00806/laws.FnExactNegate", spec := "fnExactNegate", apart := false }
def FnExactNegateSaid : Prop := fnExactNegateRow.holds Try.pinned (OpenSpec.ofChange fnExactNegateSpec)

/-- ITS FALSE NEIGHBOUR: 'it returns false'. Refute it at one input. -/
def fnExactNegateWrong : ChangeSpec := { name := "fnExactNegate", fn := fun _ => fun
  | [d] => { results := [.lit (.bool false)], args := [d] }
  | _ => none }
def FnExactNegateWrongFalsely : Prop := fnExactNegateRow.holds Try.pinned (OpenSpec.ofChange fnExactNegateWrong)

/-- 'laws.FnExactLiteralHolds': WHATEVER THE INPUT: true; the input reads as it did. -/
def fnExactLiteralHoldsSpec : ChangeSpec := { name := "fnExactLiteralHolds", fn := fun _ => fun
  | [d1, d2] => { results := [.lit (.bool true)], args := [d1, d2] }
  | _ => none }
def fnExactLiteralHoldsRow : OpenClaim := { program := "ytilcfbffjjdgnaa", sum := "22835c9699d396da0274dd774a4a26d82066e1f8a3bdcb6c1414c1696120cdde", func := "loop.example/g00806/laws.FnExactLiteralHolds", spec := "fnExactLiteralHolds", apart := false }
def FnExactLiteralHoldsSaid : Prop := fnExactLiteralHoldsRow.holds Try.pinned (OpenSpec.ofChange fnExactLiteralHoldsSpec)

/-- ITS FALSE NEIGHBOUR: 'it returns false'. Refute it at one input. -/
def fnExactLiteralHoldsWrong : ChangeSpec := { name := "fnExactLiteralHolds", fn := fun _ => fun
  | [d1, d2] => { results := [.lit (.bool false)], args := [d1, d2] }
  | _ => none }
def FnExactLiteralHoldsWrongFalsely : Prop := fnExactLiteralHoldsRow.holds Try.pinned (OpenSpec.ofChange fnExactLiteralHoldsWrong)

/-- 'laws.FnExactLiteralSign': WHATEVER THE INPUT: true; the input reads as it did. -/
def fnExactLiteralSignSpec : ChangeSpec := { name := "fnExactLiteralSign", fn := fun _ => fun
  | [d] => { results := [.lit (.bool true)], args := [d] }
  | _ => none }
def fnExactLiteralSignRow : OpenClaim := { program := "ytilcfbffjjdgnaa", sum := "22835c9699d396da0274dd774a4a26d82066e1f8a3bdcb6c1414c1696120cdde", func := "loop.example/g00806/laws.FnExactLiteralSign", spec := "fnExactLiteralSign", apart := false }
def FnExactLiteralSignSaid : Prop := fnExactLiteralSignRow.holds Try.pinned (OpenSpec.ofChange fnExactLiteralSignSpec)

/-- ITS FALSE NEIGHBOUR: 'it returns false'. Refute it at one input. -/
def fnExactLiteralSignWrong : ChangeSpec := { name := "fnExactLiteralSign", fn := fun _ => fun
  | [d] => { results := [.lit (.bool false)], args := [d] }
  | _ => none }
def FnExactLiteralSignWrongFalsely : Prop := fnExactLiteralSignRow.holds Try.pinned (OpenSpec.ofChange fnExactLiteralSignWrong)

/- THE SECOND FORM. 'bulk': how many values and letters a reading holds, each counted each time it is reached (what is shared counts as often as it is met; a slice's spare places count too). A statement '..UptoSaid' is the law's where the arguments, and the package variables that the reading takes, are together of bulk at most 1048576: NARROWER than '..Said'. Prove '..Said' where nothing that the law and all that it calls make is longer than what came in: it says more and counts as full. Else prove '..UptoSaid'. A law counts once. -/
mutual
def uptoBulk {H : Type} : DataW H → Nat
  | .lit (.string bytes) => bytes.length + 1
  | .lit _ => 1
  | .nil => 1
  | .ptr d => uptoBulk d + 1
  | .slice elems spare => uptoBulkAll elems + uptoBulkAll spare + 1
  | .agg parts => uptoBulkAll parts + 1
  | .iface _ d => uptoBulk d + 1
  | .map entries => uptoBulkEntries entries + 1
  | .held _ => 1
def uptoBulkAll {H : Type} : List (DataW H) → Nat
  | [] => 0
  | d :: r => uptoBulk d + uptoBulkAll r
def uptoBulkEntries {H : Type} : List (Lit × DataW H) → Nat
  | [] => 0
  | x :: r => uptoBulkEntry x + uptoBulkEntries r
def uptoBulkEntry {H : Type} : Lit × DataW H → Nat
  | (.string bytes, d) => bytes.length + uptoBulk d + 1
  | (_, d) => uptoBulk d + 1
 end
def uptoSmall : (H : Type) → List (DataW H) → Bool := fun _ ds => decide (uptoBulkAll ds ≤ 1048576)
def OpenSpec.upto (s : _root_.Go.ChangeSpec) : _root_.Go.OpenSpec := { _root_.Go.OpenSpec.ofChange s with cond := some uptoSmall }

/-- 'laws.FnLits', WHERE WHAT IT READS IS OF BULK AT MOST 1048576: true; the input reads as it did. -/
def fnLitsUptoRow : OpenClaim := { program := "ytilcfbffjjdgnaa", sum := "22835c9699d396da0274dd774a4a26d82066e1f8a3bdcb6c1414c1696120cdde", func := "loop.example/g00806/laws.FnLits", spec := "fnLits", unfollowed := true, recurses := true, apart := false, narrowed := true }
def FnLitsUptoSaid : Prop := fnLitsUptoRow.holds Try.pinned (OpenSpec.upto fnLitsSpec)

/-- 'laws.FnExactLiteralOk', WHERE WHAT IT READS IS OF BULK AT MOST 1048576: true; the input reads as it did. -/
def fnExactLiteralOkUptoRow : OpenClaim := { program := "ytilcfbffjjdgnaa", sum := "22835c9699d396da0274dd774a4a26d82066e1f8a3bdcb6c1414c1696120cdde", func := "loop.example/g00806/laws.FnExactLiteralOk", spec := "fnExactLiteralOk", unfollowed := true, recurses := true, apart := false, narrowed := true }
def FnExactLiteralOkUptoSaid : Prop := fnExactLiteralOkUptoRow.holds Try.pinned (OpenSpec.upto fnExactLiteralOkSpec)

/-- 'laws.FnExactNegate', WHERE WHAT IT READS IS OF BULK AT MOST 1048576: true; the input reads as it did. -/
def fnExactNegateUptoRow : OpenClaim := { program := "ytilcfbffjjdgnaa", sum := "22835c9699d396da0274dd774a4a26d82066e1f8a3bdcb6c1414c1696120cdde", func := "loop.example/g00806/laws.FnExactNegate", spec := "fnExactNegate", apart := false, narrowed := true }
def FnExactNegateUptoSaid : Prop := fnExactNegateUptoRow.holds Try.pinned (OpenSpec.upto fnExactNegateSpec)

/-- 'laws.FnExactLiteralHolds', WHERE WHAT IT READS IS OF BULK AT MOST 1048576: true; the input reads as it did. -/
def fnExactLiteralHoldsUptoRow : OpenClaim := { program := "ytilcfbffjjdgnaa", sum := "22835c9699d396da0274dd774a4a26d82066e1f8a3bdcb6c1414c1696120cdde", func := "loop.example/g00806/laws.FnExactLiteralHolds", spec := "fnExactLiteralHolds", apart := false, narrowed := true }
def FnExactLiteralHoldsUptoSaid : Prop := fnExactLiteralHoldsUptoRow.holds Try.pinned (OpenSpec.upto fnExactLiteralHoldsSpec)

/-- 'laws.FnExactLiteralSign', WHERE WHAT IT READS IS OF BULK AT MOST 1048576: true; the input reads as it did. -/
def fnExactLiteralSignUptoRow : OpenClaim := { program := "ytilcfbffjjdgnaa", sum := "22835c9699d396da0274dd774a4a26d82066e1f8a3bdcb6c1414c1696120cdde", func := "loop.example/g00806/laws.FnExactLiteralSign", spec := "fnExactLiteralSign", apart := false, narrowed := true }
def FnExactLiteralSignUptoSaid : Prop := fnExactLiteralSignUptoRow.holds Try.pinned (OpenSpec.upto fnExactLiteralSignSpec)

end Rows
end Go.Proofs.Ytilcfbffjjdgnaa
