/-
  No cell of these rows narrows 'for every input' (looked for: loops, veiled, ifaces, maps, wideKeys, modest, calm, conditions, laid).
  DERIVED. THE GIVEN ROWS OF THIS SEAT. 5 by the template 'for every input the law returns true; each argument reads behind the call as it read before'; 0 by the template 'total and deterministic' (their statements: YtcoheknnkdmdiaaTotals.lean).
  GIVEN WITH THE SEED: the statements are not yours to turn. If you find one false, say at which input.
  Laid BY PROGRAM, IN A SANDBOX (cutbox-rows.mjs): the forced cells as the released guide's own fill.sh prints them over the translation ddf1bfece3cf343f… (all of the seat's roots in one cut). By AI agents, Wed Nov 11 2026. No macro, syntax, notation, axiom, sorry.
-/
import Derived.Test.YtcoheknnkdmdiaaChecked
import GoSem.Claim
import GoSem.ClaimJoined
import GoSem.ClaimMapViews
import Derived.JoinedTies
import Derived.KernelRfl
namespace Go.Proofs.Ytcoheknnkdmdiaa
/- THE CELL 'sum', in the pinned program and in every row, IS THE sha256 OF THE DUMP (.gsa) THAT YtcoheknnkdmdiaaProg.lean LOADS. Nothing in Lean hashes anything: it is a label: what it is worth is what the hold of that sum in a sandbox is worth. -/
noncomputable def Try.pinned : Pinned := { name := "ytcoheknnkdmdiaa", sum := "ddf1bfece3cf343fe3b76d897385bde52a40ca2345b99090175b152c53dbb1e9", checked := Try.checked }
namespace Rows
def none {H : Type} : Left H := { results := [], args := [] }

/-- 'laws.FnExactScheduleForm': WHATEVER THE INPUT: true; the input reads as it did. -/
def fnExactScheduleFormSpec : ChangeSpec := { name := "fnExactScheduleForm", fn := fun _ => fun
  | [d1, d2] => { results := [.lit (.bool true)], args := [d1, d2] }
  | _ => none }
def fnExactScheduleFormRow : OpenClaim := { program := "ytcoheknnkdmdiaa", sum := "ddf1bfece3cf343fe3b76d897385bde52a40ca2345b99090175b152c53dbb1e9", func := "loop.example/g00806/laws.FnExactScheduleForm", spec := "fnExactScheduleForm", unfollowed := true, recurses := true, apart := false }
def FnExactScheduleFormSaid : Prop := fnExactScheduleFormRow.holds Try.pinned (OpenSpec.ofChange fnExactScheduleFormSpec)

/-- ITS FALSE NEIGHBOUR: 'it returns false'. Refute it at one input. -/
def fnExactScheduleFormWrong : ChangeSpec := { name := "fnExactScheduleForm", fn := fun _ => fun
  | [d1, d2] => { results := [.lit (.bool false)], args := [d1, d2] }
  | _ => none }
def FnExactScheduleFormWrongFalsely : Prop := fnExactScheduleFormRow.holds Try.pinned (OpenSpec.ofChange fnExactScheduleFormWrong)

/-- 'laws.FnExactEndTime': WHATEVER THE INPUT: true; the input reads as it did. -/
def fnExactEndTimeSpec : ChangeSpec := { name := "fnExactEndTime", fn := fun _ => fun
  | [d1, d2, d3] => { results := [.lit (.bool true)], args := [d1, d2, d3] }
  | _ => none }
def fnExactEndTimeRow : OpenClaim := { program := "ytcoheknnkdmdiaa", sum := "ddf1bfece3cf343fe3b76d897385bde52a40ca2345b99090175b152c53dbb1e9", func := "loop.example/g00806/laws.FnExactEndTime", spec := "fnExactEndTime", unfollowed := true, recurses := true, apart := false }
def FnExactEndTimeSaid : Prop := fnExactEndTimeRow.holds Try.pinned (OpenSpec.ofChange fnExactEndTimeSpec)

/-- ITS FALSE NEIGHBOUR: 'it returns false'. Refute it at one input. -/
def fnExactEndTimeWrong : ChangeSpec := { name := "fnExactEndTime", fn := fun _ => fun
  | [d1, d2, d3] => { results := [.lit (.bool false)], args := [d1, d2, d3] }
  | _ => none }
def FnExactEndTimeWrongFalsely : Prop := fnExactEndTimeRow.holds Try.pinned (OpenSpec.ofChange fnExactEndTimeWrong)

/-- 'laws.FnExactMakespan': WHATEVER THE INPUT: true; the input reads as it did. -/
def fnExactMakespanSpec : ChangeSpec := { name := "fnExactMakespan", fn := fun _ => fun
  | [d1, d2] => { results := [.lit (.bool true)], args := [d1, d2] }
  | _ => none }
def fnExactMakespanRow : OpenClaim := { program := "ytcoheknnkdmdiaa", sum := "ddf1bfece3cf343fe3b76d897385bde52a40ca2345b99090175b152c53dbb1e9", func := "loop.example/g00806/laws.FnExactMakespan", spec := "fnExactMakespan", unfollowed := true, recurses := true, apart := false }
def FnExactMakespanSaid : Prop := fnExactMakespanRow.holds Try.pinned (OpenSpec.ofChange fnExactMakespanSpec)

/-- ITS FALSE NEIGHBOUR: 'it returns false'. Refute it at one input. -/
def fnExactMakespanWrong : ChangeSpec := { name := "fnExactMakespan", fn := fun _ => fun
  | [d1, d2] => { results := [.lit (.bool false)], args := [d1, d2] }
  | _ => none }
def FnExactMakespanWrongFalsely : Prop := fnExactMakespanRow.holds Try.pinned (OpenSpec.ofChange fnExactMakespanWrong)

/-- 'laws.FnExactRunningAt': WHATEVER THE INPUT: true; the input reads as it did. -/
def fnExactRunningAtSpec : ChangeSpec := { name := "fnExactRunningAt", fn := fun _ => fun
  | [d1, d2, d3] => { results := [.lit (.bool true)], args := [d1, d2, d3] }
  | _ => none }
def fnExactRunningAtRow : OpenClaim := { program := "ytcoheknnkdmdiaa", sum := "ddf1bfece3cf343fe3b76d897385bde52a40ca2345b99090175b152c53dbb1e9", func := "loop.example/g00806/laws.FnExactRunningAt", spec := "fnExactRunningAt", unfollowed := true, recurses := true, apart := false }
def FnExactRunningAtSaid : Prop := fnExactRunningAtRow.holds Try.pinned (OpenSpec.ofChange fnExactRunningAtSpec)

/-- ITS FALSE NEIGHBOUR: 'it returns false'. Refute it at one input. -/
def fnExactRunningAtWrong : ChangeSpec := { name := "fnExactRunningAt", fn := fun _ => fun
  | [d1, d2, d3] => { results := [.lit (.bool false)], args := [d1, d2, d3] }
  | _ => none }
def FnExactRunningAtWrongFalsely : Prop := fnExactRunningAtRow.holds Try.pinned (OpenSpec.ofChange fnExactRunningAtWrong)

/-- 'laws.FnExactUsageAt': WHATEVER THE INPUT: true; the input reads as it did. -/
def fnExactUsageAtSpec : ChangeSpec := { name := "fnExactUsageAt", fn := fun _ => fun
  | [d1, d2, d3, d4] => { results := [.lit (.bool true)], args := [d1, d2, d3, d4] }
  | _ => none }
def fnExactUsageAtRow : OpenClaim := { program := "ytcoheknnkdmdiaa", sum := "ddf1bfece3cf343fe3b76d897385bde52a40ca2345b99090175b152c53dbb1e9", func := "loop.example/g00806/laws.FnExactUsageAt", spec := "fnExactUsageAt", unfollowed := true, recurses := true, apart := false }
def FnExactUsageAtSaid : Prop := fnExactUsageAtRow.holds Try.pinned (OpenSpec.ofChange fnExactUsageAtSpec)

/-- ITS FALSE NEIGHBOUR: 'it returns false'. Refute it at one input. -/
def fnExactUsageAtWrong : ChangeSpec := { name := "fnExactUsageAt", fn := fun _ => fun
  | [d1, d2, d3, d4] => { results := [.lit (.bool false)], args := [d1, d2, d3, d4] }
  | _ => none }
def FnExactUsageAtWrongFalsely : Prop := fnExactUsageAtRow.holds Try.pinned (OpenSpec.ofChange fnExactUsageAtWrong)

/- THE SECOND FORM. 'bulk': how many values and letters a reading holds, each counted each time it is reached (what is shared counts as often as it is met; a slice's spare places count too). A statement '..UptoSaid' is the law's where the arguments, and the package variables that the reading takes, are together of bulk at most 1048576: NARROWER than '..Said'. Prove '..Said' where nothing that the law and all that it calls make is longer than what came in: it says more and counts as full. Else prove '..UptoSaid'. A law counts once. -/
mutual
def uptoBulk {H : Type} : DataW H → Nat
  | .lit (.string bytes) => bytes.length + 1
  | .lit _ => 1
  | .nil => 1
  | .ptr d => uptoBulk d + 1
  | .slice elems spare => uptoBulkAll elems + uptoBulkAll spare + 1
  | .agg parts => uptoBulkAll parts + 1
  | .iface _ d => uptoBulk d + 1
  | .map entries => uptoBulkEntries entries + 1
  | .held _ => 1
def uptoBulkAll {H : Type} : List (DataW H) → Nat
  | [] => 0
  | d :: r => uptoBulk d + uptoBulkAll r
def uptoBulkEntries {H : Type} : List (Lit × DataW H) → Nat
  | [] => 0
  | x :: r => uptoBulkEntry x + uptoBulkEntries r
def uptoBulkEntry {H : Type} : Lit × DataW H → Nat
  | (.string bytes, d) => bytes.length + uptoBulk d + 1
  | (_, d) => uptoBulk d + 1
 end
def uptoSmall : (H : Type) → List (DataW H) → Bool := fun _ ds => decide (uptoBulkAll ds ≤ 1048576)
def OpenSpec.upto (s : _root_.Go.ChangeSpec) : _root_.Go.OpenSpec := { _root_.Go.OpenSpec.ofChange s with cond := some uptoSmall }

/-- 'laws.FnExactScheduleForm', WHERE WHAT IT READS IS OF BULK AT MOST 1048576: true; the input reads as it did. -/
def fnExactScheduleFormUptoRow : OpenClaim := { program := "ytcoheknnkdmdiaa", sum := "ddf1bfece3cf343fe3b76d897385bde52a40ca2345b99090175b152c53dbb1e9", func := "loop.example/g00806/laws.FnExactScheduleForm", spec := "fnExactScheduleForm", unfollowed := true, recurses := true, apart := false, narrowed := true }
def FnExactScheduleFormUptoSaid : Prop := fnExactScheduleFormUptoRow.holds Try.pinned (OpenSpec.upto fnExactScheduleFormSpec)

/-- 'laws.FnExactEndTime', WHERE WHAT IT READS IS OF BULK AT MOST 1048576: true; the input reads as it did. -/
def fnExactEndTimeUptoRow : OpenClaim := { program := "ytcoheknnkdmdiaa", sum := "ddf1bfece3cf343fe3b76d897385bde52a40ca2345b99090175b152c53dbb1e9", func := "loop.example/g00806/laws.FnExactEndTime", spec := "fnExactEndTime", unfollowed := true, recurses := true, apart := false, narrowed := true }
def FnExactEndTimeUptoSaid : Prop := fnExactEndTimeUptoRow.holds Try.pinned (OpenSpec.upto fnExactEndTimeSpec)

/-- 'laws.FnExactMakespan', WHERE WHAT IT READS IS OF BULK AT MOST 1048576: true; the input reads as it did. -/
def fnExactMakespanUptoRow : OpenClaim := { program := "ytcoheknnkdmdiaa", sum := "ddf1bfece3cf343fe3b76d897385bde52a40ca2345b99090175b152c53dbb1e9", func := "loop.example/g00806/laws.FnExactMakespan", spec := "fnExactMakespan", unfollowed := true, recurses := true, apart := false, narrowed := true }
def FnExactMakespanUptoSaid : Prop := fnExactMakespanUptoRow.holds Try.pinned (OpenSpec.upto fnExactMakespanSpec)

/-- 'laws.FnExactRunningAt', WHERE WHAT IT READS IS OF BULK AT MOST 1048576: true; the input reads as it did. -/
def fnExactRunningAtUptoRow : OpenClaim := { program := "ytcoheknnkdmdiaa", sum := "ddf1bfece3cf343fe3b76d897385bde52a40ca2345b99090175b152c53dbb1e9", func := "loop.example/g00806/laws.FnExactRunningAt", spec := "fnExactRunningAt", unfollowed := true, recurses := true, apart := false, narrowed := true }
def FnExactRunningAtUptoSaid : Prop := fnExactRunningAtUptoRow.holds Try.pinned (OpenSpec.upto fnExactRunningAtSpec)

/-- 'laws.FnExactUsageAt', WHERE WHAT IT READS IS OF BULK AT MOST 1048576: true; the input reads as it did. -/
def fnExactUsageAtUptoRow : OpenClaim := { program := "ytcoheknnkdmdiaa", sum := "ddf1bfece3cf343fe3b76d897385bde52a40ca2345b99090175b152c53dbb1e9", func := "loop.example/g00806/laws.FnExactUsageAt", spec := "fnExactUsageAt", unfollowed := true, recurses := true, apart := false, narrowed := true }
def FnExactUsageAtUptoSaid : Prop := fnExactUsageAtUptoRow.holds Try.pinned (OpenSpec.upto fnExactUsageAtSpec)

end Rows
end Go.Proofs.Ytcoheknnkdmdiaa
