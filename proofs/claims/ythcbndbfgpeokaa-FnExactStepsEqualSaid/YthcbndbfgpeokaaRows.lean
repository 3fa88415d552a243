/-
  No cell of these rows narrows 'for every input' (looked for: loops, veiled, ifaces, maps, wideKeys, modest, calm, conditions, laid).
  DERIVED. THE GIVEN ROWS OF THIS SEAT. 7 by the template 'for every input the law returns true; each argument reads behind the call as it read before'; 0 by the template 'total and deterministic' (their statements: YthcbndbfgpeokaaTotals.lean).
  GIVEN WITH THE SEED: the statements are not yours to turn. If you find one false, say at which input.
  Laid BY PROGRAM, IN A SANDBOX (cutbox-rows.mjs): the forced cells as the released guide's own fill.sh prints them over the translation 9f28f2f2a40e6375… (all of the seat's roots in one cut). By AI agents, Wed Nov 11 2026. No macro, syntax, notation, axiom, sorry.
-/
import Derived.Test.YthcbndbfgpeokaaChecked
import GoSem.Claim
import GoSem.ClaimJoined
import GoSem.ClaimMapViews
import Derived.JoinedTies
import Derived.KernelRfl
namespace Go.Proofs.Ythcbndbfgpeokaa
/- THE CELL 'sum', in the pinned program and in every row, IS THE sha256 OF THE DUMP (.gsa) THAT YthcbndbfgpeokaaProg.lean LOADS. Nothing in Lean hashes anything: it is a label: what it is worth is what the hold of that sum in a sandbox is worth. -/
noncomputable def Try.pinned : Pinned := { name := "ythcbndbfgpeokaa", sum := "9f28f2f2a40e6375c9f145e6846549655614d89b2ba956db397d07dab1f3f0a3", checked := Try.checked }
namespace Rows
def none {H : Type} : Left H := { results := [], args := [] }

/-- 'laws.FnExactStepsOk': WHATEVER THE INPUT: true; the input reads as it did. -/
def fnExactStepsOkSpec : ChangeSpec := { name := "fnExactStepsOk", fn := fun _ => fun
  | [d] => { results := [.lit (.bool true)], args := [d] }
  | _ => none }
def fnExactStepsOkRow : OpenClaim := { program := "ythcbndbfgpeokaa", sum := "9f28f2f2a40e6375c9f145e6846549655614d89b2ba956db397d07dab1f3f0a3", func := "loop.example/g00806/laws.FnExactStepsOk", spec := "fnExactStepsOk", apart := false }
def FnExactStepsOkSaid : Prop := fnExactStepsOkRow.holds Try.pinned (OpenSpec.ofChange fnExactStepsOkSpec)

/-- ITS FALSE NEIGHBOUR: 'it returns false'. Refute it at one input. -/
def fnExactStepsOkWrong : ChangeSpec := { name := "fnExactStepsOk", fn := fun _ => fun
  | [d] => { results := [.lit (.bool false)], args := [d] }
  | _ => none }
def FnExactStepsOkWrongFalsely : Prop := fnExactStepsOkRow.holds Try.pinned (OpenSpec.ofChange fnExactStepsOkWrong)

/-- 'laws.FnExactCapacityAt': WHATEVER THE INPUT: true; the input reads as it did. -/
def fnExactCapacityAtSpec : ChangeSpec := { name := "fnExactCapacityAt", fn := fun _ => fun
  | [d1, d2] => { results := [.lit (.bool true)], args := [d1, d2] }
  | _ => none }
def fnExactCapacityAtRow : OpenClaim := { program := "ythcbndbfgpeokaa", sum := "9f28f2f2a40e6375c9f145e6846549655614d89b2ba956db397d07dab1f3f0a3", func := "loop.example/g00806/laws.FnExactCapacityAt", spec := "fnExactCapacityAt", unfollowed := true, recurses := true, apart := false }
def FnExactCapacityAtSaid : Prop := fnExactCapacityAtRow.holds Try.pinned (OpenSpec.ofChange fnExactCapacityAtSpec)

/-- ITS FALSE NEIGHBOUR: 'it returns false'. Refute it at one input. -/
def fnExactCapacityAtWrong : ChangeSpec := { name := "fnExactCapacityAt", fn := fun _ => fun
  | [d1, d2] => { results := [.lit (.bool false)], args := [d1, d2] }
  | _ => none }
def FnExactCapacityAtWrongFalsely : Prop := fnExactCapacityAtRow.holds Try.pinned (OpenSpec.ofChange fnExactCapacityAtWrong)

/-- 'laws.FnExactMinCapacity': WHATEVER THE INPUT: true; the input reads as it did. -/
def fnExactMinCapacitySpec : ChangeSpec := { name := "fnExactMinCapacity", fn := fun _ => fun
  | [d1, d2, d3] => { results := [.lit (.bool true)], args := [d1, d2, d3] }
  | _ => none }
def fnExactMinCapacityRow : OpenClaim := { program := "ythcbndbfgpeokaa", sum := "9f28f2f2a40e6375c9f145e6846549655614d89b2ba956db397d07dab1f3f0a3", func := "loop.example/g00806/laws.FnExactMinCapacity", spec := "fnExactMinCapacity", unfollowed := true, recurses := true, apart := false }
def FnExactMinCapacitySaid : Prop := fnExactMinCapacityRow.holds Try.pinned (OpenSpec.ofChange fnExactMinCapacitySpec)

/-- ITS FALSE NEIGHBOUR: 'it returns false'. Refute it at one input. -/
def fnExactMinCapacityWrong : ChangeSpec := { name := "fnExactMinCapacity", fn := fun _ => fun
  | [d1, d2, d3] => { results := [.lit (.bool false)], args := [d1, d2, d3] }
  | _ => none }
def FnExactMinCapacityWrongFalsely : Prop := fnExactMinCapacityRow.holds Try.pinned (OpenSpec.ofChange fnExactMinCapacityWrong)

/-- 'laws.FnExactTotalCapacity': WHATEVER THE INPUT: true; the input reads as it did. -/
def fnExactTotalCapacitySpec : ChangeSpec := { name := "fnExactTotalCapacity", fn := fun _ => fun
  | [d1, d2, d3] => { results := [.lit (.bool true)], args := [d1, d2, d3] }
  | _ => none }
def fnExactTotalCapacityRow : OpenClaim := { program := "ythcbndbfgpeokaa", sum := "9f28f2f2a40e6375c9f145e6846549655614d89b2ba956db397d07dab1f3f0a3", func := "loop.example/g00806/laws.FnExactTotalCapacity", spec := "fnExactTotalCapacity", unfollowed := true, recurses := true, apart := false }
def FnExactTotalCapacitySaid : Prop := fnExactTotalCapacityRow.holds Try.pinned (OpenSpec.ofChange fnExactTotalCapacitySpec)

/-- ITS FALSE NEIGHBOUR: 'it returns false'. Refute it at one input. -/
def fnExactTotalCapacityWrong : ChangeSpec := { name := "fnExactTotalCapacity", fn := fun _ => fun
  | [d1, d2, d3] => { results := [.lit (.bool false)], args := [d1, d2, d3] }
  | _ => none }
def FnExactTotalCapacityWrongFalsely : Prop := fnExactTotalCapacityRow.holds Try.pinned (OpenSpec.ofChange fnExactTotalCapacityWrong)

/-- 'laws.FnExactMergeSteps': WHATEVER THE INPUT: true; the input reads as it did. -/
def fnExactMergeStepsSpec : ChangeSpec := { name := "fnExactMergeSteps", fn := fun _ => fun
  | [d] => { results := [.lit (.bool true)], args := [d] }
  | _ => none }
def fnExactMergeStepsRow : OpenClaim := { program := "ythcbndbfgpeokaa", sum := "9f28f2f2a40e6375c9f145e6846549655614d89b2ba956db397d07dab1f3f0a3", func := "loop.example/g00806/laws.FnExactMergeSteps", spec := "fnExactMergeSteps", apart := false }
def FnExactMergeStepsSaid : Prop := fnExactMergeStepsRow.holds Try.pinned (OpenSpec.ofChange fnExactMergeStepsSpec)

/-- ITS FALSE NEIGHBOUR: 'it returns false'. Refute it at one input. -/
def fnExactMergeStepsWrong : ChangeSpec := { name := "fnExactMergeSteps", fn := fun _ => fun
  | [d] => { results := [.lit (.bool false)], args := [d] }
  | _ => none }
def FnExactMergeStepsWrongFalsely : Prop := fnExactMergeStepsRow.holds Try.pinned (OpenSpec.ofChange fnExactMergeStepsWrong)

/-- 'laws.FnExactReduceCapacity': WHATEVER THE INPUT: true; the input reads as it did. -/
def fnExactReduceCapacitySpec : ChangeSpec := { name := "fnExactReduceCapacity", fn := fun _ => fun
  | [d1, d2, d3, d4] => { results := [.lit (.bool true)], args := [d1, d2, d3, d4] }
  | _ => none }
def fnExactReduceCapacityRow : OpenClaim := { program := "ythcbndbfgpeokaa", sum := "9f28f2f2a40e6375c9f145e6846549655614d89b2ba956db397d07dab1f3f0a3", func := "loop.example/g00806/laws.FnExactReduceCapacity", spec := "fnExactReduceCapacity", unfollowed := true, recurses := true, apart := false }
def FnExactReduceCapacitySaid : Prop := fnExactReduceCapacityRow.holds Try.pinned (OpenSpec.ofChange fnExactReduceCapacitySpec)

/-- ITS FALSE NEIGHBOUR: 'it returns false'. Refute it at one input. -/
def fnExactReduceCapacityWrong : ChangeSpec := { name := "fnExactReduceCapacity", fn := fun _ => fun
  | [d1, d2, d3, d4] => { results := [.lit (.bool false)], args := [d1, d2, d3, d4] }
  | _ => none }
def FnExactReduceCapacityWrongFalsely : Prop := fnExactReduceCapacityRow.holds Try.pinned (OpenSpec.ofChange fnExactReduceCapacityWrong)

/-- 'laws.FnExactStepsEqual': WHATEVER THE INPUT: true; the input reads as it did. -/
def fnExactStepsEqualSpec : ChangeSpec := { name := "fnExactStepsEqual", fn := fun _ => fun
  | [d1, d2] => { results := [.lit (.bool true)], args := [d1, d2] }
  | _ => none }
def fnExactStepsEqualRow : OpenClaim := { program := "ythcbndbfgpeokaa", sum := "9f28f2f2a40e6375c9f145e6846549655614d89b2ba956db397d07dab1f3f0a3", func := "loop.example/g00806/laws.FnExactStepsEqual", spec := "fnExactStepsEqual", apart := false }
def FnExactStepsEqualSaid : Prop := fnExactStepsEqualRow.holds Try.pinned (OpenSpec.ofChange fnExactStepsEqualSpec)

/-- ITS FALSE NEIGHBOUR: 'it returns false'. Refute it at one input. -/
def fnExactStepsEqualWrong : ChangeSpec := { name := "fnExactStepsEqual", fn := fun _ => fun
  | [d1, d2] => { results := [.lit (.bool false)], args := [d1, d2] }
  | _ => none }
def FnExactStepsEqualWrongFalsely : Prop := fnExactStepsEqualRow.holds Try.pinned (OpenSpec.ofChange fnExactStepsEqualWrong)

/- THE SECOND FORM. 'bulk': how many values and letters a reading holds, each counted each time it is reached (what is shared counts as often as it is met; a slice's spare places count too). A statement '..UptoSaid' is the law's where the arguments, and the package variables that the reading takes, are together of bulk at most 1048576: NARROWER than '..Said'. Prove '..Said' where nothing that the law and all that it calls make is longer than what came in: it says more and counts as full. Else prove '..UptoSaid'. A law counts once. -/
mutual
def uptoBulk {H : Type} : DataW H → Nat
  | .lit (.string bytes) => bytes.length + 1
  | .lit _ => 1
  | .nil => 1
  | .ptr d => uptoBulk d + 1
  | .slice elems spare => uptoBulkAll elems + uptoBulkAll spare + 1
  | .agg parts => uptoBulkAll parts + 1
  | .iface _ d => uptoBulk d + 1
  | .map entries => uptoBulkEntries entries + 1
  | .held _ => 1
def uptoBulkAll {H : Type} : List (DataW H) → Nat
  | [] => 0
  | d :: r => uptoBulk d + uptoBulkAll r
def uptoBulkEntries {H : Type} : List (Lit × DataW H) → Nat
  | [] => 0
  | x :: r => uptoBulkEntry x + uptoBulkEntries r
def uptoBulkEntry {H : Type} : Lit × DataW H → Nat
  | (.string bytes, d) => bytes.length + uptoBulk d + 1
  | (_, d) => uptoBulk d + 1
 end
def uptoSmall : (H : Type) → List (DataW H) → Bool := fun _ ds => decide (uptoBulkAll ds ≤ 1048576)
def OpenSpec.upto (s : _root_.Go.ChangeSpec) : _root_.Go.OpenSpec := { _root_.Go.OpenSpec.ofChange s with cond := some uptoSmall }

/-- 'laws.FnExactStepsOk', WHERE WHAT IT READS IS OF BULK AT MOST 1048576: true; the input reads as it did. -/
def fnExactStepsOkUptoRow : OpenClaim := { program := "ythcbndbfgpeokaa", sum := "9f28f2f2a40e6375c9f145e6846549655614d89b2ba956db397d07dab1f3f0a3", func := "loop.example/g00806/laws.FnExactStepsOk", spec := "fnExactStepsOk", apart := false, narrowed := true }
def FnExactStepsOkUptoSaid : Prop := fnExactStepsOkUptoRow.holds Try.pinned (OpenSpec.upto fnExactStepsOkSpec)

/-- 'laws.FnExactCapacityAt', WHERE WHAT IT READS IS OF BULK AT MOST 1048576: true; the input reads as it did. -/
def fnExactCapacityAtUptoRow : OpenClaim := { program := "ythcbndbfgpeokaa", sum := "9f28f2f2a40e6375c9f145e6846549655614d89b2ba956db397d07dab1f3f0a3", func := "loop.example/g00806/laws.FnExactCapacityAt", spec := "fnExactCapacityAt", unfollowed := true, recurses := true, apart := false, narrowed := true }
def FnExactCapacityAtUptoSaid : Prop := fnExactCapacityAtUptoRow.holds Try.pinned (OpenSpec.upto fnExactCapacityAtSpec)

/-- 'laws.FnExactMinCapacity', WHERE WHAT IT READS IS OF BULK AT MOST 1048576: true; the input reads as it did. -/
def fnExactMinCapacityUptoRow : OpenClaim := { program := "ythcbndbfgpeokaa", sum := "9f28f2f2a40e6375c9f145e6846549655614d89b2ba956db397d07dab1f3f0a3", func := "loop.example/g00806/laws.FnExactMinCapacity", spec := "fnExactMinCapacity", unfollowed := true, recurses := true, apart := false, narrowed := true }
def FnExactMinCapacityUptoSaid : Prop := fnExactMinCapacityUptoRow.holds Try.pinned (OpenSpec.upto fnExactMinCapacitySpec)

/-- 'laws.FnExactTotalCapacity', WHERE WHAT IT READS IS OF BULK AT MOST 1048576: true; the input reads as it did. -/
def fnExactTotalCapacityUptoRow : OpenClaim := { program := "ythcbndbfgpeokaa", sum := "9f28f2f2a40e6375c9f145e6846549655614d89b2ba956db397d07dab1f3f0a3", func := "loop.example/g00806/laws.FnExactTotalCapacity", spec := "fnExactTotalCapacity", unfollowed := true, recurses := true, apart := false, narrowed := true }
def FnExactTotalCapacityUptoSaid : Prop := fnExactTotalCapacityUptoRow.holds Try.pinned (OpenSpec.upto fnExactTotalCapacitySpec)

/-- 'laws.FnExactMergeSteps', WHERE WHAT IT READS IS OF BULK AT MOST 1048576: true; the input reads as it did. -/
def fnExactMergeStepsUptoRow : OpenClaim := { program := "ythcbndbfgpeokaa", sum := "9f28f2f2a40e6375c9f145e6846549655614d89b2ba956db397d07dab1f3f0a3", func := "loop.example/g00806/laws.FnExactMergeSteps", spec := "fnExactMergeSteps", apart := false, narrowed := true }
def FnExactMergeStepsUptoSaid : Prop := fnExactMergeStepsUptoRow.holds Try.pinned (OpenSpec.upto fnExactMergeStepsSpec)

/-- 'laws.FnExactReduceCapacity', WHERE WHAT IT READS IS OF BULK AT MOST 1048576: true; the input reads as it did. -/
def fnExactReduceCapacityUptoRow : OpenClaim := { program := "ythcbndbfgpeokaa", sum := "9f28f2f2a40e6375c9f145e6846549655614d89b2ba956db397d07dab1f3f0a3", func := "loop.example/g00806/laws.FnExactReduceCapacity", spec := "fnExactReduceCapacity", unfollowed := true, recurses := true, apart := false, narrowed := true }
def FnExactReduceCapacityUptoSaid : Prop := fnExactReduceCapacityUptoRow.holds Try.pinned (OpenSpec.upto fnExactReduceCapacitySpec)

/-- 'laws.FnExactStepsEqual', WHERE WHAT IT READS IS OF BULK AT MOST 1048576: true; the input reads as it did. -/
def fnExactStepsEqualUptoRow : OpenClaim := { program := "ythcbndbfgpeokaa", sum := "9f28f2f2a40e6375c9f145e6846549655614d89b2ba956db397d07dab1f3f0a3", func := "loop.example/g00806/laws.FnExactStepsEqual", spec := "fnExactStepsEqual", apart := false, narrowed := true }
def FnExactStepsEqualUptoSaid : Prop := fnExactStepsEqualUptoRow.holds Try.pinned (OpenSpec.upto fnExactStepsEqualSpec)

end Rows
end Go.Proofs.Ythcbndbfgpeokaa
