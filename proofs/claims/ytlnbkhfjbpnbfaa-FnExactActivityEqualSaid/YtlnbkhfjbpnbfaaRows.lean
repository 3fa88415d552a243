/-
  No cell of these rows narrows 'for every input' (looked for: loops, veiled, ifaces, maps, wideKeys, modest, calm, conditions, laid).
  DERIVED. THE GIVEN ROWS OF THIS SEAT. 9 by the template 'for every input the law returns true; each argument reads behind the call as it read before'; 0 by the template 'total and deterministic' (their statements: YtlnbkhfjbpnbfaaTotals.lean).
  GIVEN WITH THE SEED: the statements are not yours to turn. If you find one false, say at which input.
  Laid BY PROGRAM, IN A SANDBOX (cutbox-rows.mjs): the forced cells as the released guide's own fill.sh prints them over the translation 20da2beef4ae309a… (all of the seat's roots in one cut). By AI agents, Wed Nov 11 2026. No macro, syntax, notation, axiom, sorry.
-/
import Derived.Test.YtlnbkhfjbpnbfaaChecked
import GoSem.Claim
import GoSem.ClaimJoined
import GoSem.ClaimMapViews
import Derived.JoinedTies
import Derived.KernelRfl
namespace Go.Proofs.Ytlnbkhfjbpnbfaa
/- THE CELL 'sum', in the pinned program and in every row, IS THE sha256 OF THE DUMP (.gsa) THAT YtlnbkhfjbpnbfaaProg.lean LOADS. Nothing in Lean hashes anything: it is a label: what it is worth is what the hold of that sum in a sandbox is worth. -/
noncomputable def Try.pinned : Pinned := { name := "ytlnbkhfjbpnbfaa", sum := "20da2beef4ae309a66d97a6bcb57272786cc851591c7a130c004af430b76b5e7", checked := Try.checked }
namespace Rows
def none {H : Type} : Left H := { results := [], args := [] }

/-- 'laws.FnExactModeOk': WHATEVER THE INPUT: true; the input reads as it did. -/
def fnExactModeOkSpec : ChangeSpec := { name := "fnExactModeOk", fn := fun _ => fun
  | [d1, d2, d3] => { results := [.lit (.bool true)], args := [d1, d2, d3] }
  | _ => none }
def fnExactModeOkRow : OpenClaim := { program := "ytlnbkhfjbpnbfaa", sum := "20da2beef4ae309a66d97a6bcb57272786cc851591c7a130c004af430b76b5e7", func := "loop.example/g00806/laws.FnExactModeOk", spec := "fnExactModeOk", apart := false }
def FnExactModeOkSaid : Prop := fnExactModeOkRow.holds Try.pinned (OpenSpec.ofChange fnExactModeOkSpec)

/-- ITS FALSE NEIGHBOUR: 'it returns false'. Refute it at one input. -/
def fnExactModeOkWrong : ChangeSpec := { name := "fnExactModeOk", fn := fun _ => fun
  | [d1, d2, d3] => { results := [.lit (.bool false)], args := [d1, d2, d3] }
  | _ => none }
def FnExactModeOkWrongFalsely : Prop := fnExactModeOkRow.holds Try.pinned (OpenSpec.ofChange fnExactModeOkWrong)

/-- 'laws.FnExactActivityOk': WHATEVER THE INPUT: true; the input reads as it did. -/
def fnExactActivityOkSpec : ChangeSpec := { name := "fnExactActivityOk", fn := fun _ => fun
  | [d1, d2, d3] => { results := [.lit (.bool true)], args := [d1, d2, d3] }
  | _ => none }
def fnExactActivityOkRow : OpenClaim := { program := "ytlnbkhfjbpnbfaa", sum := "20da2beef4ae309a66d97a6bcb57272786cc851591c7a130c004af430b76b5e7", func := "loop.example/g00806/laws.FnExactActivityOk", spec := "fnExactActivityOk", apart := false }
def FnExactActivityOkSaid : Prop := fnExactActivityOkRow.holds Try.pinned (OpenSpec.ofChange fnExactActivityOkSpec)

/-- ITS FALSE NEIGHBOUR: 'it returns false'. Refute it at one input. -/
def fnExactActivityOkWrong : ChangeSpec := { name := "fnExactActivityOk", fn := fun _ => fun
  | [d1, d2, d3] => { results := [.lit (.bool false)], args := [d1, d2, d3] }
  | _ => none }
def FnExactActivityOkWrongFalsely : Prop := fnExactActivityOkRow.holds Try.pinned (OpenSpec.ofChange fnExactActivityOkWrong)

/-- 'laws.FnExactModeIndexes': WHATEVER THE INPUT: true; the input reads as it did. -/
def fnExactModeIndexesSpec : ChangeSpec := { name := "fnExactModeIndexes", fn := fun _ => fun
  | [d] => { results := [.lit (.bool true)], args := [d] }
  | _ => none }
def fnExactModeIndexesRow : OpenClaim := { program := "ytlnbkhfjbpnbfaa", sum := "20da2beef4ae309a66d97a6bcb57272786cc851591c7a130c004af430b76b5e7", func := "loop.example/g00806/laws.FnExactModeIndexes", spec := "fnExactModeIndexes", apart := false }
def FnExactModeIndexesSaid : Prop := fnExactModeIndexesRow.holds Try.pinned (OpenSpec.ofChange fnExactModeIndexesSpec)

/-- ITS FALSE NEIGHBOUR: 'it returns false'. Refute it at one input. -/
def fnExactModeIndexesWrong : ChangeSpec := { name := "fnExactModeIndexes", fn := fun _ => fun
  | [d] => { results := [.lit (.bool false)], args := [d] }
  | _ => none }
def FnExactModeIndexesWrongFalsely : Prop := fnExactModeIndexesRow.holds Try.pinned (OpenSpec.ofChange fnExactModeIndexesWrong)

/-- 'laws.FnExactMinDuration': WHATEVER THE INPUT: true; the input reads as it did. -/
def fnExactMinDurationSpec : ChangeSpec := { name := "fnExactMinDuration", fn := fun _ => fun
  | [d1, d2] => { results := [.lit (.bool true)], args := [d1, d2] }
  | _ => none }
def fnExactMinDurationRow : OpenClaim := { program := "ytlnbkhfjbpnbfaa", sum := "20da2beef4ae309a66d97a6bcb57272786cc851591c7a130c004af430b76b5e7", func := "loop.example/g00806/laws.FnExactMinDuration", spec := "fnExactMinDuration", unfollowed := true, recurses := true, apart := false }
def FnExactMinDurationSaid : Prop := fnExactMinDurationRow.holds Try.pinned (OpenSpec.ofChange fnExactMinDurationSpec)

/-- ITS FALSE NEIGHBOUR: 'it returns false'. Refute it at one input. -/
def fnExactMinDurationWrong : ChangeSpec := { name := "fnExactMinDuration", fn := fun _ => fun
  | [d1, d2] => { results := [.lit (.bool false)], args := [d1, d2] }
  | _ => none }
def FnExactMinDurationWrongFalsely : Prop := fnExactMinDurationRow.holds Try.pinned (OpenSpec.ofChange fnExactMinDurationWrong)

/-- 'laws.FnExactMaxDuration': WHATEVER THE INPUT: true; the input reads as it did. -/
def fnExactMaxDurationSpec : ChangeSpec := { name := "fnExactMaxDuration", fn := fun _ => fun
  | [d1, d2] => { results := [.lit (.bool true)], args := [d1, d2] }
  | _ => none }
def fnExactMaxDurationRow : OpenClaim := { program := "ytlnbkhfjbpnbfaa", sum := "20da2beef4ae309a66d97a6bcb57272786cc851591c7a130c004af430b76b5e7", func := "loop.example/g00806/laws.FnExactMaxDuration", spec := "fnExactMaxDuration", unfollowed := true, recurses := true, apart := false }
def FnExactMaxDurationSaid : Prop := fnExactMaxDurationRow.holds Try.pinned (OpenSpec.ofChange fnExactMaxDurationSpec)

/-- ITS FALSE NEIGHBOUR: 'it returns false'. Refute it at one input. -/
def fnExactMaxDurationWrong : ChangeSpec := { name := "fnExactMaxDuration", fn := fun _ => fun
  | [d1, d2] => { results := [.lit (.bool false)], args := [d1, d2] }
  | _ => none }
def FnExactMaxDurationWrongFalsely : Prop := fnExactMaxDurationRow.holds Try.pinned (OpenSpec.ofChange fnExactMaxDurationWrong)

/-- 'laws.FnExactMinUsage': WHATEVER THE INPUT: true; the input reads as it did. -/
def fnExactMinUsageSpec : ChangeSpec := { name := "fnExactMinUsage", fn := fun _ => fun
  | [d1, d2, d3] => { results := [.lit (.bool true)], args := [d1, d2, d3] }
  | _ => none }
def fnExactMinUsageRow : OpenClaim := { program := "ytlnbkhfjbpnbfaa", sum := "20da2beef4ae309a66d97a6bcb57272786cc851591c7a130c004af430b76b5e7", func := "loop.example/g00806/laws.FnExactMinUsage", spec := "fnExactMinUsage", unfollowed := true, recurses := true, apart := false }
def FnExactMinUsageSaid : Prop := fnExactMinUsageRow.holds Try.pinned (OpenSpec.ofChange fnExactMinUsageSpec)

/-- ITS FALSE NEIGHBOUR: 'it returns false'. Refute it at one input. -/
def fnExactMinUsageWrong : ChangeSpec := { name := "fnExactMinUsage", fn := fun _ => fun
  | [d1, d2, d3] => { results := [.lit (.bool false)], args := [d1, d2, d3] }
  | _ => none }
def FnExactMinUsageWrongFalsely : Prop := fnExactMinUsageRow.holds Try.pinned (OpenSpec.ofChange fnExactMinUsageWrong)

/-- 'laws.FnExactMinConsumption': WHATEVER THE INPUT: true; the input reads as it did. -/
def fnExactMinConsumptionSpec : ChangeSpec := { name := "fnExactMinConsumption", fn := fun _ => fun
  | [d1, d2, d3] => { results := [.lit (.bool true)], args := [d1, d2, d3] }
  | _ => none }
def fnExactMinConsumptionRow : OpenClaim := { program := "ytlnbkhfjbpnbfaa", sum := "20da2beef4ae309a66d97a6bcb57272786cc851591c7a130c004af430b76b5e7", func := "loop.example/g00806/laws.FnExactMinConsumption", spec := "fnExactMinConsumption", unfollowed := true, recurses := true, apart := false }
def FnExactMinConsumptionSaid : Prop := fnExactMinConsumptionRow.holds Try.pinned (OpenSpec.ofChange fnExactMinConsumptionSpec)

/-- ITS FALSE NEIGHBOUR: 'it returns false'. Refute it at one input. -/
def fnExactMinConsumptionWrong : ChangeSpec := { name := "fnExactMinConsumption", fn := fun _ => fun
  | [d1, d2, d3] => { results := [.lit (.bool false)], args := [d1, d2, d3] }
  | _ => none }
def FnExactMinConsumptionWrongFalsely : Prop := fnExactMinConsumptionRow.holds Try.pinned (OpenSpec.ofChange fnExactMinConsumptionWrong)

/-- 'laws.FnExactMinWork': WHATEVER THE INPUT: true; the input reads as it did. -/
def fnExactMinWorkSpec : ChangeSpec := { name := "fnExactMinWork", fn := fun _ => fun
  | [d1, d2, d3] => { results := [.lit (.bool true)], args := [d1, d2, d3] }
  | _ => none }
def fnExactMinWorkRow : OpenClaim := { program := "ytlnbkhfjbpnbfaa", sum := "20da2beef4ae309a66d97a6bcb57272786cc851591c7a130c004af430b76b5e7", func := "loop.example/g00806/laws.FnExactMinWork", spec := "fnExactMinWork", unfollowed := true, recurses := true, apart := false }
def FnExactMinWorkSaid : Prop := fnExactMinWorkRow.holds Try.pinned (OpenSpec.ofChange fnExactMinWorkSpec)

/-- ITS FALSE NEIGHBOUR: 'it returns false'. Refute it at one input. -/
def fnExactMinWorkWrong : ChangeSpec := { name := "fnExactMinWork", fn := fun _ => fun
  | [d1, d2, d3] => { results := [.lit (.bool false)], args := [d1, d2, d3] }
  | _ => none }
def FnExactMinWorkWrongFalsely : Prop := fnExactMinWorkRow.holds Try.pinned (OpenSpec.ofChange fnExactMinWorkWrong)

/-- 'laws.FnExactActivityEqual': WHATEVER THE INPUT: true; the input reads as it did. -/
def fnExactActivityEqualSpec : ChangeSpec := { name := "fnExactActivityEqual", fn := fun _ => fun
  | [d1, d2] => { results := [.lit (.bool true)], args := [d1, d2] }
  | _ => none }
def fnExactActivityEqualRow : OpenClaim := { program := "ytlnbkhfjbpnbfaa", sum := "20da2beef4ae309a66d97a6bcb57272786cc851591c7a130c004af430b76b5e7", func := "loop.example/g00806/laws.FnExactActivityEqual", spec := "fnExactActivityEqual", unfollowed := true, recurses := true, apart := false }
def FnExactActivityEqualSaid : Prop := fnExactActivityEqualRow.holds Try.pinned (OpenSpec.ofChange fnExactActivityEqualSpec)

/-- ITS FALSE NEIGHBOUR: 'it returns false'. Refute it at one input. -/
def fnExactActivityEqualWrong : ChangeSpec := { name := "fnExactActivityEqual", fn := fun _ => fun
  | [d1, d2] => { results := [.lit (.bool false)], args := [d1, d2] }
  | _ => none }
def FnExactActivityEqualWrongFalsely : Prop := fnExactActivityEqualRow.holds Try.pinned (OpenSpec.ofChange fnExactActivityEqualWrong)

/- THE SECOND FORM. 'bulk': how many values and letters a reading holds, each counted each time it is reached (what is shared counts as often as it is met; a slice's spare places count too). A statement '..UptoSaid' is the law's where the arguments, and the package variables that the reading takes, are together of bulk at most 1048576: NARROWER than '..Said'. Prove '..Said' where nothing that the law and all that it calls make is longer than what came in: it says more and counts as full. Else prove '..UptoSaid'. A law counts once. -/
mutual
def uptoBulk {H : Type} : DataW H → Nat
  | .lit (.string bytes) => bytes.length + 1
  | .lit _ => 1
  | .nil => 1
  | .ptr d => uptoBulk d + 1
  | .slice elems spare => uptoBulkAll elems + uptoBulkAll spare + 1
  | .agg parts => uptoBulkAll parts + 1
  | .iface _ d => uptoBulk d + 1
  | .map entries => uptoBulkEntries entries + 1
  | .held _ => 1
def uptoBulkAll {H : Type} : List (DataW H) → Nat
  | [] => 0
  | d :: r => uptoBulk d + uptoBulkAll r
def uptoBulkEntries {H : Type} : List (Lit × DataW H) → Nat
  | [] => 0
  | x :: r => uptoBulkEntry x + uptoBulkEntries r
def uptoBulkEntry {H : Type} : Lit × DataW H → Nat
  | (.string bytes, d) => bytes.length + uptoBulk d + 1
  | (_, d) => uptoBulk d + 1
 end
def uptoSmall : (H : Type) → List (DataW H) → Bool := fun _ ds => decide (uptoBulkAll ds ≤ 1048576)
def OpenSpec.upto (s : _root_.Go.ChangeSpec) : _root_.Go.OpenSpec := { _root_.Go.OpenSpec.ofChange s with cond := some uptoSmall }

/-- 'laws.FnExactModeOk', WHERE WHAT IT READS IS OF BULK AT MOST 1048576: true; the input reads as it did. -/
def fnExactModeOkUptoRow : OpenClaim := { program := "ytlnbkhfjbpnbfaa", sum := "20da2beef4ae309a66d97a6bcb57272786cc851591c7a130c004af430b76b5e7", func := "loop.example/g00806/laws.FnExactModeOk", spec := "fnExactModeOk", apart := false, narrowed := true }
def FnExactModeOkUptoSaid : Prop := fnExactModeOkUptoRow.holds Try.pinned (OpenSpec.upto fnExactModeOkSpec)

/-- 'laws.FnExactActivityOk', WHERE WHAT IT READS IS OF BULK AT MOST 1048576: true; the input reads as it did. -/
def fnExactActivityOkUptoRow : OpenClaim := { program := "ytlnbkhfjbpnbfaa", sum := "20da2beef4ae309a66d97a6bcb57272786cc851591c7a130c004af430b76b5e7", func := "loop.example/g00806/laws.FnExactActivityOk", spec := "fnExactActivityOk", apart := false, narrowed := true }
def FnExactActivityOkUptoSaid : Prop := fnExactActivityOkUptoRow.holds Try.pinned (OpenSpec.upto fnExactActivityOkSpec)

/-- 'laws.FnExactModeIndexes', WHERE WHAT IT READS IS OF BULK AT MOST 1048576: true; the input reads as it did. -/
def fnExactModeIndexesUptoRow : OpenClaim := { program := "ytlnbkhfjbpnbfaa", sum := "20da2beef4ae309a66d97a6bcb57272786cc851591c7a130c004af430b76b5e7", func := "loop.example/g00806/laws.FnExactModeIndexes", spec := "fnExactModeIndexes", apart := false, narrowed := true }
def FnExactModeIndexesUptoSaid : Prop := fnExactModeIndexesUptoRow.holds Try.pinned (OpenSpec.upto fnExactModeIndexesSpec)

/-- 'laws.FnExactMinDuration', WHERE WHAT IT READS IS OF BULK AT MOST 1048576: true; the input reads as it did. -/
def fnExactMinDurationUptoRow : OpenClaim := { program := "ytlnbkhfjbpnbfaa", sum := "20da2beef4ae309a66d97a6bcb57272786cc851591c7a130c004af430b76b5e7", func := "loop.example/g00806/laws.FnExactMinDuration", spec := "fnExactMinDuration", unfollowed := true, recurses := true, apart := false, narrowed := true }
def FnExactMinDurationUptoSaid : Prop := fnExactMinDurationUptoRow.holds Try.pinned (OpenSpec.upto fnExactMinDurationSpec)

/-- 'laws.FnExactMaxDuration', WHERE WHAT IT READS IS OF BULK AT MOST 1048576: true; the input reads as it did. -/
def fnExactMaxDurationUptoRow : OpenClaim := { program := "ytlnbkhfjbpnbfaa", sum := "20da2beef4ae309a66d97a6bcb57272786cc851591c7a130c004af430b76b5e7", func := "loop.example/g00806/laws.FnExactMaxDuration", spec := "fnExactMaxDuration", unfollowed := true, recurses := true, apart := false, narrowed := true }
def FnExactMaxDurationUptoSaid : Prop := fnExactMaxDurationUptoRow.holds Try.pinned (OpenSpec.upto fnExactMaxDurationSpec)

/-- 'laws.FnExactMinUsage', WHERE WHAT IT READS IS OF BULK AT MOST 1048576: true; the input reads as it did. -/
def fnExactMinUsageUptoRow : OpenClaim := { program := "ytlnbkhfjbpnbfaa", sum := "20da2beef4ae309a66d97a6bcb57272786cc851591c7a130c004af430b76b5e7", func := "loop.example/g00806/laws.FnExactMinUsage", spec := "fnExactMinUsage", unfollowed := true, recurses := true, apart := false, narrowed := true }
def FnExactMinUsageUptoSaid : Prop := fnExactMinUsageUptoRow.holds Try.pinned (OpenSpec.upto fnExactMinUsageSpec)

/-- 'laws.FnExactMinConsumption', WHERE WHAT IT READS IS OF BULK AT MOST 1048576: true; the input reads as it did. -/
def fnExactMinConsumptionUptoRow : OpenClaim := { program := "ytlnbkhfjbpnbfaa", sum := "20da2beef4ae309a66d97a6bcb57272786cc851591c7a130c004af430b76b5e7", func := "loop.example/g00806/laws.FnExactMinConsumption", spec := "fnExactMinConsumption", unfollowed := true, recurses := true, apart := false, narrowed := true }
def FnExactMinConsumptionUptoSaid : Prop := fnExactMinConsumptionUptoRow.holds Try.pinned (OpenSpec.upto fnExactMinConsumptionSpec)

/-- 'laws.FnExactMinWork', WHERE WHAT IT READS IS OF BULK AT MOST 1048576: true; the input reads as it did. -/
def fnExactMinWorkUptoRow : OpenClaim := { program := "ytlnbkhfjbpnbfaa", sum := "20da2beef4ae309a66d97a6bcb57272786cc851591c7a130c004af430b76b5e7", func := "loop.example/g00806/laws.FnExactMinWork", spec := "fnExactMinWork", unfollowed := true, recurses := true, apart := false, narrowed := true }
def FnExactMinWorkUptoSaid : Prop := fnExactMinWorkUptoRow.holds Try.pinned (OpenSpec.upto fnExactMinWorkSpec)

/-- 'laws.FnExactActivityEqual', WHERE WHAT IT READS IS OF BULK AT MOST 1048576: true; the input reads as it did. -/
def fnExactActivityEqualUptoRow : OpenClaim := { program := "ytlnbkhfjbpnbfaa", sum := "20da2beef4ae309a66d97a6bcb57272786cc851591c7a130c004af430b76b5e7", func := "loop.example/g00806/laws.FnExactActivityEqual", spec := "fnExactActivityEqual", unfollowed := true, recurses := true, apart := false, narrowed := true }
def FnExactActivityEqualUptoSaid : Prop := fnExactActivityEqualUptoRow.holds Try.pinned (OpenSpec.upto fnExactActivityEqualSpec)

end Rows
end Go.Proofs.Ytlnbkhfjbpnbfaa
