/-
  No cell of these rows narrows 'for every input' (looked for: loops, veiled, ifaces, maps, wideKeys, modest, calm, conditions, laid).
  DERIVED. THE GIVEN ROWS OF THIS SEAT. 9 by the template 'for every input the law returns true; each argument reads behind the call as it read before'; 0 by the template 'total and deterministic' (their statements: YtfgmbgdbnjpclaaTotals.lean).
  GIVEN WITH THE SEED: the statements are not yours to turn. If you find one false, say at which input.
  Laid BY PROGRAM, IN A SANDBOX (cutbox-rows.mjs): the forced cells as the released guide's own fill.sh prints them over the translation d78b237aa0490d82… (all of the seat's roots in one cut). By AI agents, Wed Nov 11 2026. No macro, syntax, notation, axiom, sorry.
-/
import Derived.Test.YtfgmbgdbnjpclaaChecked
import GoSem.Claim
import GoSem.ClaimJoined
import GoSem.ClaimMapViews
import Derived.JoinedTies
import Derived.KernelRfl
namespace Go.Proofs.Ytfgmbgdbnjpclaa
/- THE CELL 'sum', in the pinned program and in every row, IS THE sha256 OF THE DUMP (.gsa) THAT YtfgmbgdbnjpclaaProg.lean LOADS. Nothing in Lean hashes anything: it is a label: what it is worth is what the hold of that sum in a sandbox is worth. -/
noncomputable def Try.pinned : Pinned := { name := "ytfgmbgdbnjpclaa", sum := "d78b237aa0490d820adfb29a27be9f48a366b3fff927cea0480ed07754c2298f", checked := Try.checked }
namespace Rows
def none {H : Type} : Left H := { results := [], args := [] }

/-- 'laws.FnExactResourceOk': WHATEVER THE INPUT: true; the input reads as it did. -/
def fnExactResourceOkSpec : ChangeSpec := { name := "fnExactResourceOk", fn := fun _ => fun
  | [d] => { results := [.lit (.bool true)], args := [d] }
  | _ => none }
def fnExactResourceOkRow : OpenClaim := { program := "ytfgmbgdbnjpclaa", sum := "d78b237aa0490d820adfb29a27be9f48a366b3fff927cea0480ed07754c2298f", func := "loop.example/g00806/laws.FnExactResourceOk", spec := "fnExactResourceOk", unfollowed := true, recurses := true, apart := false }
def FnExactResourceOkSaid : Prop := fnExactResourceOkRow.holds Try.pinned (OpenSpec.ofChange fnExactResourceOkSpec)

/-- ITS FALSE NEIGHBOUR: 'it returns false'. Refute it at one input. -/
def fnExactResourceOkWrong : ChangeSpec := { name := "fnExactResourceOk", fn := fun _ => fun
  | [d] => { results := [.lit (.bool false)], args := [d] }
  | _ => none }
def FnExactResourceOkWrongFalsely : Prop := fnExactResourceOkRow.holds Try.pinned (OpenSpec.ofChange fnExactResourceOkWrong)

/-- 'laws.FnExactActivityIndex': WHATEVER THE INPUT: true; the input reads as it did. -/
def fnExactActivityIndexSpec : ChangeSpec := { name := "fnExactActivityIndex", fn := fun _ => fun
  | [d1, d2] => { results := [.lit (.bool true)], args := [d1, d2] }
  | _ => none }
def fnExactActivityIndexRow : OpenClaim := { program := "ytfgmbgdbnjpclaa", sum := "d78b237aa0490d820adfb29a27be9f48a366b3fff927cea0480ed07754c2298f", func := "loop.example/g00806/laws.FnExactActivityIndex", spec := "fnExactActivityIndex", unfollowed := true, recurses := true, apart := false }
def FnExactActivityIndexSaid : Prop := fnExactActivityIndexRow.holds Try.pinned (OpenSpec.ofChange fnExactActivityIndexSpec)

/-- ITS FALSE NEIGHBOUR: 'it returns false'. Refute it at one input. -/
def fnExactActivityIndexWrong : ChangeSpec := { name := "fnExactActivityIndex", fn := fun _ => fun
  | [d1, d2] => { results := [.lit (.bool false)], args := [d1, d2] }
  | _ => none }
def FnExactActivityIndexWrongFalsely : Prop := fnExactActivityIndexRow.holds Try.pinned (OpenSpec.ofChange fnExactActivityIndexWrong)

/-- 'laws.FnExactProjectOk': WHATEVER THE INPUT: true; the input reads as it did. -/
def fnExactProjectOkSpec : ChangeSpec := { name := "fnExactProjectOk", fn := fun _ => fun
  | [d] => { results := [.lit (.bool true)], args := [d] }
  | _ => none }
def fnExactProjectOkRow : OpenClaim := { program := "ytfgmbgdbnjpclaa", sum := "d78b237aa0490d820adfb29a27be9f48a366b3fff927cea0480ed07754c2298f", func := "loop.example/g00806/laws.FnExactProjectOk", spec := "fnExactProjectOk", unfollowed := true, recurses := true, apart := false }
def FnExactProjectOkSaid : Prop := fnExactProjectOkRow.holds Try.pinned (OpenSpec.ofChange fnExactProjectOkSpec)

/-- ITS FALSE NEIGHBOUR: 'it returns false'. Refute it at one input. -/
def fnExactProjectOkWrong : ChangeSpec := { name := "fnExactProjectOk", fn := fun _ => fun
  | [d] => { results := [.lit (.bool false)], args := [d] }
  | _ => none }
def FnExactProjectOkWrongFalsely : Prop := fnExactProjectOkRow.holds Try.pinned (OpenSpec.ofChange fnExactProjectOkWrong)

/-- 'laws.FnExactIsMachine': WHATEVER THE INPUT: true; the input reads as it did. -/
def fnExactIsMachineSpec : ChangeSpec := { name := "fnExactIsMachine", fn := fun _ => fun
  | [d1, d2] => { results := [.lit (.bool true)], args := [d1, d2] }
  | _ => none }
def fnExactIsMachineRow : OpenClaim := { program := "ytfgmbgdbnjpclaa", sum := "d78b237aa0490d820adfb29a27be9f48a366b3fff927cea0480ed07754c2298f", func := "loop.example/g00806/laws.FnExactIsMachine", spec := "fnExactIsMachine", apart := false }
def FnExactIsMachineSaid : Prop := fnExactIsMachineRow.holds Try.pinned (OpenSpec.ofChange fnExactIsMachineSpec)

/-- ITS FALSE NEIGHBOUR: 'it returns false'. Refute it at one input. -/
def fnExactIsMachineWrong : ChangeSpec := { name := "fnExactIsMachine", fn := fun _ => fun
  | [d1, d2] => { results := [.lit (.bool false)], args := [d1, d2] }
  | _ => none }
def FnExactIsMachineWrongFalsely : Prop := fnExactIsMachineRow.holds Try.pinned (OpenSpec.ofChange fnExactIsMachineWrong)

/-- 'laws.FnExactSetupTime': WHATEVER THE INPUT: true; the input reads as it did. -/
def fnExactSetupTimeSpec : ChangeSpec := { name := "fnExactSetupTime", fn := fun _ => fun
  | [d1, d2, d3, d4] => { results := [.lit (.bool true)], args := [d1, d2, d3, d4] }
  | _ => none }
def fnExactSetupTimeRow : OpenClaim := { program := "ytfgmbgdbnjpclaa", sum := "d78b237aa0490d820adfb29a27be9f48a366b3fff927cea0480ed07754c2298f", func := "loop.example/g00806/laws.FnExactSetupTime", spec := "fnExactSetupTime", unfollowed := true, recurses := true, apart := false }
def FnExactSetupTimeSaid : Prop := fnExactSetupTimeRow.holds Try.pinned (OpenSpec.ofChange fnExactSetupTimeSpec)

/-- ITS FALSE NEIGHBOUR: 'it returns false'. Refute it at one input. -/
def fnExactSetupTimeWrong : ChangeSpec := { name := "fnExactSetupTime", fn := fun _ => fun
  | [d1, d2, d3, d4] => { results := [.lit (.bool false)], args := [d1, d2, d3, d4] }
  | _ => none }
def FnExactSetupTimeWrongFalsely : Prop := fnExactSetupTimeRow.holds Try.pinned (OpenSpec.ofChange fnExactSetupTimeWrong)

/-- 'laws.FnExactUsers': WHATEVER THE INPUT: true; the input reads as it did. -/
def fnExactUsersSpec : ChangeSpec := { name := "fnExactUsers", fn := fun _ => fun
  | [d1, d2] => { results := [.lit (.bool true)], args := [d1, d2] }
  | _ => none }
def fnExactUsersRow : OpenClaim := { program := "ytfgmbgdbnjpclaa", sum := "d78b237aa0490d820adfb29a27be9f48a366b3fff927cea0480ed07754c2298f", func := "loop.example/g00806/laws.FnExactUsers", spec := "fnExactUsers", unfollowed := true, recurses := true, apart := false }
def FnExactUsersSaid : Prop := fnExactUsersRow.holds Try.pinned (OpenSpec.ofChange fnExactUsersSpec)

/-- ITS FALSE NEIGHBOUR: 'it returns false'. Refute it at one input. -/
def fnExactUsersWrong : ChangeSpec := { name := "fnExactUsers", fn := fun _ => fun
  | [d1, d2] => { results := [.lit (.bool false)], args := [d1, d2] }
  | _ => none }
def FnExactUsersWrongFalsely : Prop := fnExactUsersRow.holds Try.pinned (OpenSpec.ofChange fnExactUsersWrong)

/-- 'laws.FnExactProjectEqual': WHATEVER THE INPUT: true; the input reads as it did. -/
def fnExactProjectEqualSpec : ChangeSpec := { name := "fnExactProjectEqual", fn := fun _ => fun
  | [d1, d2] => { results := [.lit (.bool true)], args := [d1, d2] }
  | _ => none }
def fnExactProjectEqualRow : OpenClaim := { program := "ytfgmbgdbnjpclaa", sum := "d78b237aa0490d820adfb29a27be9f48a366b3fff927cea0480ed07754c2298f", func := "loop.example/g00806/laws.FnExactProjectEqual", spec := "fnExactProjectEqual", unfollowed := true, recurses := true, apart := false }
def FnExactProjectEqualSaid : Prop := fnExactProjectEqualRow.holds Try.pinned (OpenSpec.ofChange fnExactProjectEqualSpec)

/-- ITS FALSE NEIGHBOUR: 'it returns false'. Refute it at one input. -/
def fnExactProjectEqualWrong : ChangeSpec := { name := "fnExactProjectEqual", fn := fun _ => fun
  | [d1, d2] => { results := [.lit (.bool false)], args := [d1, d2] }
  | _ => none }
def FnExactProjectEqualWrongFalsely : Prop := fnExactProjectEqualRow.holds Try.pinned (OpenSpec.ofChange fnExactProjectEqualWrong)

/-- 'laws.FnExactProjectStats': WHATEVER THE INPUT: true; the input reads as it did. -/
def fnExactProjectStatsSpec : ChangeSpec := { name := "fnExactProjectStats", fn := fun _ => fun
  | [d] => { results := [.lit (.bool true)], args := [d] }
  | _ => none }
def fnExactProjectStatsRow : OpenClaim := { program := "ytfgmbgdbnjpclaa", sum := "d78b237aa0490d820adfb29a27be9f48a366b3fff927cea0480ed07754c2298f", func := "loop.example/g00806/laws.FnExactProjectStats", spec := "fnExactProjectStats", unfollowed := true, recurses := true, apart := false }
def FnExactProjectStatsSaid : Prop := fnExactProjectStatsRow.holds Try.pinned (OpenSpec.ofChange fnExactProjectStatsSpec)

/-- ITS FALSE NEIGHBOUR: 'it returns false'. Refute it at one input. -/
def fnExactProjectStatsWrong : ChangeSpec := { name := "fnExactProjectStats", fn := fun _ => fun
  | [d] => { results := [.lit (.bool false)], args := [d] }
  | _ => none }
def FnExactProjectStatsWrongFalsely : Prop := fnExactProjectStatsRow.holds Try.pinned (OpenSpec.ofChange fnExactProjectStatsWrong)

/-- 'laws.FnResources': WHATEVER THE INPUT: true; the input reads as it did. -/
def fnResourcesSpec : ChangeSpec := { name := "fnResources", fn := fun _ => fun
  | [d] => { results := [.lit (.bool true)], args := [d] }
  | _ => none }
def fnResourcesRow : OpenClaim := { program := "ytfgmbgdbnjpclaa", sum := "d78b237aa0490d820adfb29a27be9f48a366b3fff927cea0480ed07754c2298f", func := "loop.example/g00806/laws.FnResources", spec := "fnResources", unfollowed := true, recurses := true, apart := false }
def FnResourcesSaid : Prop := fnResourcesRow.holds Try.pinned (OpenSpec.ofChange fnResourcesSpec)

/-- ITS FALSE NEIGHBOUR: 'it returns false'. Refute it at one input. -/
def fnResourcesWrong : ChangeSpec := { name := "fnResources", fn := fun _ => fun
  | [d] => { results := [.lit (.bool false)], args := [d] }
  | _ => none }
def FnResourcesWrongFalsely : Prop := fnResourcesRow.holds Try.pinned (OpenSpec.ofChange fnResourcesWrong)

/- THE SECOND FORM. 'bulk': how many values and letters a reading holds, each counted each time it is reached (what is shared counts as often as it is met; a slice's spare places count too). A statement '..UptoSaid' is the law's where the arguments, and the package variables that the reading takes, are together of bulk at most 1048576: NARROWER than '..Said'. Prove '..Said' where nothing that the law and all that it calls make is longer than what came in: it says more and counts as full. Else prove '..UptoSaid'. A law counts once. -/
mutual
def uptoBulk {H : Type} : DataW H → Nat
  | .lit (.string bytes) => bytes.length + 1
  | .lit _ => 1
  | .nil => 1
  | .ptr d => uptoBulk d + 1
  | .slice elems spare => uptoBulkAll elems + uptoBulkAll spare + 1
  | .agg parts => uptoBulkAll parts + 1
  | .iface _ d => uptoBulk d + 1
  | .map entries => uptoBulkEntries entries + 1
  | .held _ => 1
def uptoBulkAll {H : Type} : List (DataW H) → Nat
  | [] => 0
  | d :: r => uptoBulk d + uptoBulkAll r
def uptoBulkEntries {H : Type} : List (Lit × DataW H) → Nat
  | [] => 0
  | x :: r => uptoBulkEntry x + uptoBulkEntries r
def uptoBulkEntry {H : Type} : Lit × DataW H → Nat
  | (.string bytes, d) => bytes.length + uptoBulk d + 1
  | (_, d) => uptoBulk d + 1
 end
def uptoSmall : (H : Type) → List (DataW H) → Bool := fun _ ds => decide (uptoBulkAll ds ≤ 1048576)
def OpenSpec.upto (s : _root_.Go.ChangeSpec) : _root_.Go.OpenSpec := { _root_.Go.OpenSpec.ofChange s with cond := some uptoSmall }

/-- 'laws.FnExactResourceOk', WHERE WHAT IT READS IS OF BULK AT MOST 1048576: true; the input reads as it did. -/
def fnExactResourceOkUptoRow : OpenClaim := { program := "ytfgmbgdbnjpclaa", sum := "d78b237aa0490d820adfb29a27be9f48a366b3fff927cea0480ed07754c2298f", func := "loop.example/g00806/laws.FnExactResourceOk", spec := "fnExactResourceOk", unfollowed := true, recurses := true, apart := false, narrowed := true }
def FnExactResourceOkUptoSaid : Prop := fnExactResourceOkUptoRow.holds Try.pinned (OpenSpec.upto fnExactResourceOkSpec)

/-- 'laws.FnExactActivityIndex', WHERE WHAT IT READS IS OF BULK AT MOST 1048576: true; the input reads as it did. -/
def fnExactActivityIndexUptoRow : OpenClaim := { program := "ytfgmbgdbnjpclaa", sum := "d78b237aa0490d820adfb29a27be9f48a366b3fff927cea0480ed07754c2298f", func := "loop.example/g00806/laws.FnExactActivityIndex", spec := "fnExactActivityIndex", unfollowed := true, recurses := true, apart := false, narrowed := true }
def FnExactActivityIndexUptoSaid : Prop := fnExactActivityIndexUptoRow.holds Try.pinned (OpenSpec.upto fnExactActivityIndexSpec)

/-- 'laws.FnExactProjectOk', WHERE WHAT IT READS IS OF BULK AT MOST 1048576: true; the input reads as it did. -/
def fnExactProjectOkUptoRow : OpenClaim := { program := "ytfgmbgdbnjpclaa", sum := "d78b237aa0490d820adfb29a27be9f48a366b3fff927cea0480ed07754c2298f", func := "loop.example/g00806/laws.FnExactProjectOk", spec := "fnExactProjectOk", unfollowed := true, recurses := true, apart := false, narrowed := true }
def FnExactProjectOkUptoSaid : Prop := fnExactProjectOkUptoRow.holds Try.pinned (OpenSpec.upto fnExactProjectOkSpec)

/-- 'laws.FnExactIsMachine', WHERE WHAT IT READS IS OF BULK AT MOST 1048576: true; the input reads as it did. -/
def fnExactIsMachineUptoRow : OpenClaim := { program := "ytfgmbgdbnjpclaa", sum := "d78b237aa0490d820adfb29a27be9f48a366b3fff927cea0480ed07754c2298f", func := "loop.example/g00806/laws.FnExactIsMachine", spec := "fnExactIsMachine", apart := false, narrowed := true }
def FnExactIsMachineUptoSaid : Prop := fnExactIsMachineUptoRow.holds Try.pinned (OpenSpec.upto fnExactIsMachineSpec)

/-- 'laws.FnExactSetupTime', WHERE WHAT IT READS IS OF BULK AT MOST 1048576: true; the input reads as it did. -/
def fnExactSetupTimeUptoRow : OpenClaim := { program := "ytfgmbgdbnjpclaa", sum := "d78b237aa0490d820adfb29a27be9f48a366b3fff927cea0480ed07754c2298f", func := "loop.example/g00806/laws.FnExactSetupTime", spec := "fnExactSetupTime", unfollowed := true, recurses := true, apart := false, narrowed := true }
def FnExactSetupTimeUptoSaid : Prop := fnExactSetupTimeUptoRow.holds Try.pinned (OpenSpec.upto fnExactSetupTimeSpec)

/-- 'laws.FnExactUsers', WHERE WHAT IT READS IS OF BULK AT MOST 1048576: true; the input reads as it did. -/
def fnExactUsersUptoRow : OpenClaim := { program := "ytfgmbgdbnjpclaa", sum := "d78b237aa0490d820adfb29a27be9f48a366b3fff927cea0480ed07754c2298f", func := "loop.example/g00806/laws.FnExactUsers", spec := "fnExactUsers", unfollowed := true, recurses := true, apart := false, narrowed := true }
def FnExactUsersUptoSaid : Prop := fnExactUsersUptoRow.holds Try.pinned (OpenSpec.upto fnExactUsersSpec)

/-- 'laws.FnExactProjectEqual', WHERE WHAT IT READS IS OF BULK AT MOST 1048576: true; the input reads as it did. -/
def fnExactProjectEqualUptoRow : OpenClaim := { program := "ytfgmbgdbnjpclaa", sum := "d78b237aa0490d820adfb29a27be9f48a366b3fff927cea0480ed07754c2298f", func := "loop.example/g00806/laws.FnExactProjectEqual", spec := "fnExactProjectEqual", unfollowed := true, recurses := true, apart := false, narrowed := true }
def FnExactProjectEqualUptoSaid : Prop := fnExactProjectEqualUptoRow.holds Try.pinned (OpenSpec.upto fnExactProjectEqualSpec)

/-- 'laws.FnExactProjectStats', WHERE WHAT IT READS IS OF BULK AT MOST 1048576: true; the input reads as it did. -/
def fnExactProjectStatsUptoRow : OpenClaim := { program := "ytfgmbgdbnjpclaa", sum := "d78b237aa0490d820adfb29a27be9f48a366b3fff927cea0480ed07754c2298f", func := "loop.example/g00806/laws.FnExactProjectStats", spec := "fnExactProjectStats", unfollowed := true, recurses := true, apart := false, narrowed := true }
def FnExactProjectStatsUptoSaid : Prop := fnExactProjectStatsUptoRow.holds Try.pinned (OpenSpec.upto fnExactProjectStatsSpec)

/-- 'laws.FnResources', WHERE WHAT IT READS IS OF BULK AT MOST 1048576: true; the input reads as it did. -/
def fnResourcesUptoRow : OpenClaim := { program := "ytfgmbgdbnjpclaa", sum := "d78b237aa0490d820adfb29a27be9f48a366b3fff927cea0480ed07754c2298f", func := "loop.example/g00806/laws.FnResources", spec := "fnResources", unfollowed := true, recurses := true, apart := false, narrowed := true }
def FnResourcesUptoSaid : Prop := fnResourcesUptoRow.holds Try.pinned (OpenSpec.upto fnResourcesSpec)

end Rows
end Go.Proofs.Ytfgmbgdbnjpclaa
