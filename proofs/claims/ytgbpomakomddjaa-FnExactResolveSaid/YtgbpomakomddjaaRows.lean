/-
  No cell of these rows narrows 'for every input' (looked for: loops, veiled, ifaces, maps, wideKeys, modest, calm, conditions, laid).
  DERIVED. THE GIVEN ROWS OF THIS SEAT. 5 by the template 'for every input the law returns true; each argument reads behind the call as it read before'; 0 by the template 'total and deterministic' (their statements: YtgbpomakomddjaaTotals.lean).
  GIVEN WITH THE SEED: the statements are not yours to turn. If you find one false, say at which input.
  Laid BY PROGRAM, IN A SANDBOX (cutbox-rows.mjs): the forced cells as the released guide's own fill.sh prints them over the translation b5096648f3511170… (all of the seat's roots in one cut). By AI agents, Wed Nov 11 2026. No macro, syntax, notation, axiom, sorry.
-/
import Derived.Test.YtgbpomakomddjaaChecked
import GoSem.Claim
import GoSem.ClaimJoined
import GoSem.ClaimMapViews
import Derived.JoinedTies
import Derived.KernelRfl
namespace Go.Proofs.Ytgbpomakomddjaa
/- THE CELL 'sum', in the pinned program and in every row, IS THE sha256 OF THE DUMP (.gsa) THAT YtgbpomakomddjaaProg.lean LOADS. Nothing in Lean hashes anything: it is a label: what it is worth is what the hold of that sum in a sandbox is worth. -/
noncomputable def Try.pinned : Pinned := { name := "ytgbpomakomddjaa", sum := "b5096648f3511170e3f38d79e71546e42f0eac06ceb306136351f80eca3f6fa1", checked := Try.checked }
namespace Rows
def none {H : Type} : Left H := { results := [], args := [] }

/-- 'laws.FnExactClauseEqual': WHATEVER THE INPUT: true; the input reads as it did. -/
def fnExactClauseEqualSpec : ChangeSpec := { name := "fnExactClauseEqual", fn := fun _ => fun
  | [d1, d2] => { results := [.lit (.bool true)], args := [d1, d2] }
  | _ => none }
def fnExactClauseEqualRow : OpenClaim := { program := "ytgbpomakomddjaa", sum := "b5096648f3511170e3f38d79e71546e42f0eac06ceb306136351f80eca3f6fa1", func := "loop.example/g00806/laws.FnExactClauseEqual", spec := "fnExactClauseEqual", apart := false }
def FnExactClauseEqualSaid : Prop := fnExactClauseEqualRow.holds Try.pinned (OpenSpec.ofChange fnExactClauseEqualSpec)

/-- ITS FALSE NEIGHBOUR: 'it returns false'. Refute it at one input. -/
def fnExactClauseEqualWrong : ChangeSpec := { name := "fnExactClauseEqual", fn := fun _ => fun
  | [d1, d2] => { results := [.lit (.bool false)], args := [d1, d2] }
  | _ => none }
def FnExactClauseEqualWrongFalsely : Prop := fnExactClauseEqualRow.holds Try.pinned (OpenSpec.ofChange fnExactClauseEqualWrong)

/-- 'laws.FnExactWithoutLiteral': WHATEVER THE INPUT: true; the input reads as it did. -/
def fnExactWithoutLiteralSpec : ChangeSpec := { name := "fnExactWithoutLiteral", fn := fun _ => fun
  | [d1, d2] => { results := [.lit (.bool true)], args := [d1, d2] }
  | _ => none }
def fnExactWithoutLiteralRow : OpenClaim := { program := "ytgbpomakomddjaa", sum := "b5096648f3511170e3f38d79e71546e42f0eac06ceb306136351f80eca3f6fa1", func := "loop.example/g00806/laws.FnExactWithoutLiteral", spec := "fnExactWithoutLiteral", apart := false }
def FnExactWithoutLiteralSaid : Prop := fnExactWithoutLiteralRow.holds Try.pinned (OpenSpec.ofChange fnExactWithoutLiteralSpec)

/-- ITS FALSE NEIGHBOUR: 'it returns false'. Refute it at one input. -/
def fnExactWithoutLiteralWrong : ChangeSpec := { name := "fnExactWithoutLiteral", fn := fun _ => fun
  | [d1, d2] => { results := [.lit (.bool false)], args := [d1, d2] }
  | _ => none }
def FnExactWithoutLiteralWrongFalsely : Prop := fnExactWithoutLiteralRow.holds Try.pinned (OpenSpec.ofChange fnExactWithoutLiteralWrong)

/-- 'laws.FnExactNewClause': WHATEVER THE INPUT: true; the input reads as it did. -/
def fnExactNewClauseSpec : ChangeSpec := { name := "fnExactNewClause", fn := fun _ => fun
  | [d] => { results := [.lit (.bool true)], args := [d] }
  | _ => none }
def fnExactNewClauseRow : OpenClaim := { program := "ytgbpomakomddjaa", sum := "b5096648f3511170e3f38d79e71546e42f0eac06ceb306136351f80eca3f6fa1", func := "loop.example/g00806/laws.FnExactNewClause", spec := "fnExactNewClause", unfollowed := true, recurses := true, apart := false }
def FnExactNewClauseSaid : Prop := fnExactNewClauseRow.holds Try.pinned (OpenSpec.ofChange fnExactNewClauseSpec)

/-- ITS FALSE NEIGHBOUR: 'it returns false'. Refute it at one input. -/
def fnExactNewClauseWrong : ChangeSpec := { name := "fnExactNewClause", fn := fun _ => fun
  | [d] => { results := [.lit (.bool false)], args := [d] }
  | _ => none }
def FnExactNewClauseWrongFalsely : Prop := fnExactNewClauseRow.holds Try.pinned (OpenSpec.ofChange fnExactNewClauseWrong)

/-- 'laws.FnExactClauseHolds': WHATEVER THE INPUT: true; the input reads as it did. -/
def fnExactClauseHoldsSpec : ChangeSpec := { name := "fnExactClauseHolds", fn := fun _ => fun
  | [d1, d2] => { results := [.lit (.bool true)], args := [d1, d2] }
  | _ => none }
def fnExactClauseHoldsRow : OpenClaim := { program := "ytgbpomakomddjaa", sum := "b5096648f3511170e3f38d79e71546e42f0eac06ceb306136351f80eca3f6fa1", func := "loop.example/g00806/laws.FnExactClauseHolds", spec := "fnExactClauseHolds", unfollowed := true, recurses := true, apart := false }
def FnExactClauseHoldsSaid : Prop := fnExactClauseHoldsRow.holds Try.pinned (OpenSpec.ofChange fnExactClauseHoldsSpec)

/-- ITS FALSE NEIGHBOUR: 'it returns false'. Refute it at one input. -/
def fnExactClauseHoldsWrong : ChangeSpec := { name := "fnExactClauseHolds", fn := fun _ => fun
  | [d1, d2] => { results := [.lit (.bool false)], args := [d1, d2] }
  | _ => none }
def FnExactClauseHoldsWrongFalsely : Prop := fnExactClauseHoldsRow.holds Try.pinned (OpenSpec.ofChange fnExactClauseHoldsWrong)

/-- 'laws.FnExactResolve': WHATEVER THE INPUT: true; the input reads as it did. -/
def fnExactResolveSpec : ChangeSpec := { name := "fnExactResolve", fn := fun _ => fun
  | [d1, d2, d3] => { results := [.lit (.bool true)], args := [d1, d2, d3] }
  | _ => none }
def fnExactResolveRow : OpenClaim := { program := "ytgbpomakomddjaa", sum := "b5096648f3511170e3f38d79e71546e42f0eac06ceb306136351f80eca3f6fa1", func := "loop.example/g00806/laws.FnExactResolve", spec := "fnExactResolve", unfollowed := true, recurses := true, apart := false }
def FnExactResolveSaid : Prop := fnExactResolveRow.holds Try.pinned (OpenSpec.ofChange fnExactResolveSpec)

/-- ITS FALSE NEIGHBOUR: 'it returns false'. Refute it at one input. -/
def fnExactResolveWrong : ChangeSpec := { name := "fnExactResolve", fn := fun _ => fun
  | [d1, d2, d3] => { results := [.lit (.bool false)], args := [d1, d2, d3] }
  | _ => none }
def FnExactResolveWrongFalsely : Prop := fnExactResolveRow.holds Try.pinned (OpenSpec.ofChange fnExactResolveWrong)

/- THE SECOND FORM. 'bulk': how many values and letters a reading holds, each counted each time it is reached (what is shared counts as often as it is met; a slice's spare places count too). A statement '..UptoSaid' is the law's where the arguments, and the package variables that the reading takes, are together of bulk at most 1048576: NARROWER than '..Said'. Prove '..Said' where nothing that the law and all that it calls make is longer than what came in: it says more and counts as full. Else prove '..UptoSaid'. A law counts once. -/
mutual
def uptoBulk {H : Type} : DataW H → Nat
  | .lit (.string bytes) => bytes.length + 1
  | .lit _ => 1
  | .nil => 1
  | .ptr d => uptoBulk d + 1
  | .slice elems spare => uptoBulkAll elems + uptoBulkAll spare + 1
  | .agg parts => uptoBulkAll parts + 1
  | .iface _ d => uptoBulk d + 1
  | .map entries => uptoBulkEntries entries + 1
  | .held _ => 1
def uptoBulkAll {H : Type} : List (DataW H) → Nat
  | [] => 0
  | d :: r => uptoBulk d + uptoBulkAll r
def uptoBulkEntries {H : Type} : List (Lit × DataW H) → Nat
  | [] => 0
  | x :: r => uptoBulkEntry x + uptoBulkEntries r
def uptoBulkEntry {H : Type} : Lit × DataW H → Nat
  | (.string bytes, d) => bytes.length + uptoBulk d + 1
  | (_, d) => uptoBulk d + 1
 end
def uptoSmall : (H : Type) → List (DataW H) → Bool := fun _ ds => decide (uptoBulkAll ds ≤ 1048576)
def OpenSpec.upto (s : _root_.Go.ChangeSpec) : _root_.Go.OpenSpec := { _root_.Go.OpenSpec.ofChange s with cond := some uptoSmall }

/-- 'laws.FnExactClauseEqual', WHERE WHAT IT READS IS OF BULK AT MOST 1048576: true; the input reads as it did. -/
def fnExactClauseEqualUptoRow : OpenClaim := { program := "ytgbpomakomddjaa", sum := "b5096648f3511170e3f38d79e71546e42f0eac06ceb306136351f80eca3f6fa1", func := "loop.example/g00806/laws.FnExactClauseEqual", spec := "fnExactClauseEqual", apart := false, narrowed := true }
def FnExactClauseEqualUptoSaid : Prop := fnExactClauseEqualUptoRow.holds Try.pinned (OpenSpec.upto fnExactClauseEqualSpec)

/-- 'laws.FnExactWithoutLiteral', WHERE WHAT IT READS IS OF BULK AT MOST 1048576: true; the input reads as it did. -/
def fnExactWithoutLiteralUptoRow : OpenClaim := { program := "ytgbpomakomddjaa", sum := "b5096648f3511170e3f38d79e71546e42f0eac06ceb306136351f80eca3f6fa1", func := "loop.example/g00806/laws.FnExactWithoutLiteral", spec := "fnExactWithoutLiteral", apart := false, narrowed := true }
def FnExactWithoutLiteralUptoSaid : Prop := fnExactWithoutLiteralUptoRow.holds Try.pinned (OpenSpec.upto fnExactWithoutLiteralSpec)

/-- 'laws.FnExactNewClause', WHERE WHAT IT READS IS OF BULK AT MOST 1048576: true; the input reads as it did. -/
def fnExactNewClauseUptoRow : OpenClaim := { program := "ytgbpomakomddjaa", sum := "b5096648f3511170e3f38d79e71546e42f0eac06ceb306136351f80eca3f6fa1", func := "loop.example/g00806/laws.FnExactNewClause", spec := "fnExactNewClause", unfollowed := true, recurses := true, apart := false, narrowed := true }
def FnExactNewClauseUptoSaid : Prop := fnExactNewClauseUptoRow.holds Try.pinned (OpenSpec.upto fnExactNewClauseSpec)

/-- 'laws.FnExactClauseHolds', WHERE WHAT IT READS IS OF BULK AT MOST 1048576: true; the input reads as it did. -/
def fnExactClauseHoldsUptoRow : OpenClaim := { program := "ytgbpomakomddjaa", sum := "b5096648f3511170e3f38d79e71546e42f0eac06ceb306136351f80eca3f6fa1", func := "loop.example/g00806/laws.FnExactClauseHolds", spec := "fnExactClauseHolds", unfollowed := true, recurses := true, apart := false, narrowed := true }
def FnExactClauseHoldsUptoSaid : Prop := fnExactClauseHoldsUptoRow.holds Try.pinned (OpenSpec.upto fnExactClauseHoldsSpec)

/-- 'laws.FnExactResolve', WHERE WHAT IT READS IS OF BULK AT MOST 1048576: true; the input reads as it did. -/
def fnExactResolveUptoRow : OpenClaim := { program := "ytgbpomakomddjaa", sum := "b5096648f3511170e3f38d79e71546e42f0eac06ceb306136351f80eca3f6fa1", func := "loop.example/g00806/laws.FnExactResolve", spec := "fnExactResolve", unfollowed := true, recurses := true, apart := false, narrowed := true }
def FnExactResolveUptoSaid : Prop := fnExactResolveUptoRow.holds Try.pinned (OpenSpec.upto fnExactResolveSpec)

end Rows
end Go.Proofs.Ytgbpomakomddjaa
