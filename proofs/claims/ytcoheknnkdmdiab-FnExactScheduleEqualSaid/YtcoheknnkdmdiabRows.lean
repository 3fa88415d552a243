/-
  No cell of these rows narrows 'for every input' (looked for: loops, veiled, ifaces, maps, wideKeys, modest, calm, conditions, laid).
  DERIVED. THE GIVEN ROWS OF THIS SEAT. 3 by the template 'for every input the law returns true; each argument reads behind the call as it read before'; 0 by the template 'total and deterministic' (their statements: YtcoheknnkdmdiabTotals.lean).
  GIVEN WITH THE SEED: the statements are not yours to turn. If you find one false, say at which input.
  Laid BY PROGRAM, IN A SANDBOX (cutbox-rows.mjs): the forced cells as the released guide's own fill.sh prints them over the translation 9cfb0a8c507abad2… (all of the seat's roots in one cut). By AI agents, Wed Nov 11 2026. No macro, syntax, notation, axiom, sorry.
-/
import Derived.Test.YtcoheknnkdmdiabChecked
import GoSem.Claim
import GoSem.ClaimJoined
import GoSem.ClaimMapViews
import Derived.JoinedTies
import Derived.KernelRfl
namespace Go.Proofs.Ytcoheknnkdmdiab
/- THE CELL 'sum', in the pinned program and in every row, IS THE sha256 OF THE DUMP (.gsa) THAT YtcoheknnkdmdiabProg.lean LOADS. Nothing in Lean hashes anything: it is a label: what it is worth is what the hold of that sum in a sandbox is worth. -/
noncomputable def Try.pinned : Pinned := { name := "ytcoheknnkdmdiab", sum := "9cfb0a8c507abad226bbfbfc78de35563d41ce7f09d04d29ef4e87bd4fa7c507", checked := Try.checked }
namespace Rows
def none {H : Type} : Left H := { results := [], args := [] }

/-- 'laws.FnExactConsumptionOf': WHATEVER THE INPUT: true; the input reads as it did. -/
def fnExactConsumptionOfSpec : ChangeSpec := { name := "fnExactConsumptionOf", fn := fun _ => fun
  | [d1, d2, d3] => { results := [.lit (.bool true)], args := [d1, d2, d3] }
  | _ => none }
def fnExactConsumptionOfRow : OpenClaim := { program := "ytcoheknnkdmdiab", sum := "9cfb0a8c507abad226bbfbfc78de35563d41ce7f09d04d29ef4e87bd4fa7c507", func := "loop.example/g00806/laws.FnExactConsumptionOf", spec := "fnExactConsumptionOf", unfollowed := true, recurses := true, apart := false }
def FnExactConsumptionOfSaid : Prop := fnExactConsumptionOfRow.holds Try.pinned (OpenSpec.ofChange fnExactConsumptionOfSpec)

/-- ITS FALSE NEIGHBOUR: 'it returns false'. Refute it at one input. -/
def fnExactConsumptionOfWrong : ChangeSpec := { name := "fnExactConsumptionOf", fn := fun _ => fun
  | [d1, d2, d3] => { results := [.lit (.bool false)], args := [d1, d2, d3] }
  | _ => none }
def FnExactConsumptionOfWrongFalsely : Prop := fnExactConsumptionOfRow.holds Try.pinned (OpenSpec.ofChange fnExactConsumptionOfWrong)

/-- 'laws.FnExactIdleCapacity': WHATEVER THE INPUT: true; the input reads as it did. -/
def fnExactIdleCapacitySpec : ChangeSpec := { name := "fnExactIdleCapacity", fn := fun _ => fun
  | [d1, d2, d3] => { results := [.lit (.bool true)], args := [d1, d2, d3] }
  | _ => none }
def fnExactIdleCapacityRow : OpenClaim := { program := "ytcoheknnkdmdiab", sum := "9cfb0a8c507abad226bbfbfc78de35563d41ce7f09d04d29ef4e87bd4fa7c507", func := "loop.example/g00806/laws.FnExactIdleCapacity", spec := "fnExactIdleCapacity", unfollowed := true, recurses := true, apart := false }
def FnExactIdleCapacitySaid : Prop := fnExactIdleCapacityRow.holds Try.pinned (OpenSpec.ofChange fnExactIdleCapacitySpec)

/-- ITS FALSE NEIGHBOUR: 'it returns false'. Refute it at one input. -/
def fnExactIdleCapacityWrong : ChangeSpec := { name := "fnExactIdleCapacity", fn := fun _ => fun
  | [d1, d2, d3] => { results := [.lit (.bool false)], args := [d1, d2, d3] }
  | _ => none }
def FnExactIdleCapacityWrongFalsely : Prop := fnExactIdleCapacityRow.holds Try.pinned (OpenSpec.ofChange fnExactIdleCapacityWrong)

/-- 'laws.FnExactScheduleEqual': WHATEVER THE INPUT: true; the input reads as it did. -/
def fnExactScheduleEqualSpec : ChangeSpec := { name := "fnExactScheduleEqual", fn := fun _ => fun
  | [d1, d2] => { results := [.lit (.bool true)], args := [d1, d2] }
  | _ => none }
def fnExactScheduleEqualRow : OpenClaim := { program := "ytcoheknnkdmdiab", sum := "9cfb0a8c507abad226bbfbfc78de35563d41ce7f09d04d29ef4e87bd4fa7c507", func := "loop.example/g00806/laws.FnExactScheduleEqual", spec := "fnExactScheduleEqual", apart := false }
def FnExactScheduleEqualSaid : Prop := fnExactScheduleEqualRow.holds Try.pinned (OpenSpec.ofChange fnExactScheduleEqualSpec)

/-- ITS FALSE NEIGHBOUR: 'it returns false'. Refute it at one input. -/
def fnExactScheduleEqualWrong : ChangeSpec := { name := "fnExactScheduleEqual", fn := fun _ => fun
  | [d1, d2] => { results := [.lit (.bool false)], args := [d1, d2] }
  | _ => none }
def FnExactScheduleEqualWrongFalsely : Prop := fnExactScheduleEqualRow.holds Try.pinned (OpenSpec.ofChange fnExactScheduleEqualWrong)

/- THE SECOND FORM. 'bulk': how many values and letters a reading holds, each counted each time it is reached (what is shared counts as often as it is met; a slice's spare places count too). A statement '..UptoSaid' is the law's where the arguments, and the package variables that the reading takes, are together of bulk at most 1048576: NARROWER than '..Said'. Prove '..Said' where nothing that the law and all that it calls make is longer than what came in: it says more and counts as full. Else prove '..UptoSaid'. A law counts once. -/
mutual
def uptoBulk {H : Type} : DataW H → Nat
  | .lit (.string bytes) => bytes.length + 1
  | .lit _ => 1
  | .nil => 1
  | .ptr d => uptoBulk d + 1
  | .slice elems spare => uptoBulkAll elems + uptoBulkAll spare + 1
  | .agg parts => uptoBulkAll parts + 1
  | .iface _ d => uptoBulk d + 1
  | .map entries => uptoBulkEntries entries + 1
  | .held _ => 1
def uptoBulkAll {H : Type} : List (DataW H) → Nat
  | [] => 0
  | d :: r => uptoBulk d + uptoBulkAll r
def uptoBulkEntries {H : Type} : List (Lit × DataW H) → Nat
  | [] => 0
  | x :: r => uptoBulkEntry x + uptoBulkEntries r
def uptoBulkEntry {H : Type} : Lit × DataW H → Nat
  | (.string bytes, d) => bytes.length + uptoBulk d + 1
  | (_, d) => uptoBulk d + 1
 end
def uptoSmall : (H : Type) → List (DataW H) → Bool := fun _ ds => decide (uptoBulkAll ds ≤ 1048576)
def OpenSpec.upto (s : _root_.Go.ChangeSpec) : _root_.Go.OpenSpec := { _root_.Go.OpenSpec.ofChange s with cond := some uptoSmall }

/-- 'laws.FnExactConsumptionOf', WHERE WHAT IT READS IS OF BULK AT MOST 1048576: true; the input reads as it did. -/
def fnExactConsumptionOfUptoRow : OpenClaim := { program := "ytcoheknnkdmdiab", sum := "9cfb0a8c507abad226bbfbfc78de35563d41ce7f09d04d29ef4e87bd4fa7c507", func := "loop.example/g00806/laws.FnExactConsumptionOf", spec := "fnExactConsumptionOf", unfollowed := true, recurses := true, apart := false, narrowed := true }
def FnExactConsumptionOfUptoSaid : Prop := fnExactConsumptionOfUptoRow.holds Try.pinned (OpenSpec.upto fnExactConsumptionOfSpec)

/-- 'laws.FnExactIdleCapacity', WHERE WHAT IT READS IS OF BULK AT MOST 1048576: true; the input reads as it did. -/
def fnExactIdleCapacityUptoRow : OpenClaim := { program := "ytcoheknnkdmdiab", sum := "9cfb0a8c507abad226bbfbfc78de35563d41ce7f09d04d29ef4e87bd4fa7c507", func := "loop.example/g00806/laws.FnExactIdleCapacity", spec := "fnExactIdleCapacity", unfollowed := true, recurses := true, apart := false, narrowed := true }
def FnExactIdleCapacityUptoSaid : Prop := fnExactIdleCapacityUptoRow.holds Try.pinned (OpenSpec.upto fnExactIdleCapacitySpec)

/-- 'laws.FnExactScheduleEqual', WHERE WHAT IT READS IS OF BULK AT MOST 1048576: true; the input reads as it did. -/
def fnExactScheduleEqualUptoRow : OpenClaim := { program := "ytcoheknnkdmdiab", sum := "9cfb0a8c507abad226bbfbfc78de35563d41ce7f09d04d29ef4e87bd4fa7c507", func := "loop.example/g00806/laws.FnExactScheduleEqual", spec := "fnExactScheduleEqual", apart := false, narrowed := true }
def FnExactScheduleEqualUptoSaid : Prop := fnExactScheduleEqualUptoRow.holds Try.pinned (OpenSpec.upto fnExactScheduleEqualSpec)

end Rows
end Go.Proofs.Ytcoheknnkdmdiab
