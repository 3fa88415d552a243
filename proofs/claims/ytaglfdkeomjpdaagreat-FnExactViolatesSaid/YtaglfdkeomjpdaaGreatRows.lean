/-
  No cell of these rows narrows 'for every input' (looked for: loops, veiled, ifaces, maps, wideKeys, modest, calm, conditions, laid).
  DERIVED. THE GIVEN ROWS OF THIS SEAT. 4 by the template 'for every input the law returns true; each argument reads behind the call as it read before'; 0 by the template 'total and deterministic' (their statements: YtaglfdkeomjpdaaGreatTotals.lean).
  GIVEN WITH THE SEED: the statements are not yours to turn. If you find one false, say at which input.
  Laid BY PROGRAM, IN A SANDBOX (cutbox-rows.mjs): the forced cells as the released guide's own fill.sh prints them over the translation bd0d6692546efea0… (all of the seat's roots in one cut). By AI agents, Wed Nov 11 2026. No macro, syntax, notation, axiom, sorry.
-/
import Derived.Test.YtaglfdkeomjpdaaGreatChecked
import GoSem.Claim
import GoSem.ClaimJoined
import GoSem.ClaimMapViews
import Derived.JoinedTies
import Derived.KernelRfl
namespace Go.Proofs.YtaglfdkeomjpdaaGreat
/- THE CELL 'sum', in the pinned program and in every row, IS THE sha256 OF THE DUMP (.gsa) THAT YtaglfdkeomjpdaaGreatProg.lean LOADS. Nothing in Lean hashes anything: it is a label: what it is worth is what the hold of that sum in a sandbox is worth. -/
noncomputable def Tryz.pinned : Pinned := { name := "ytaglfdkeomjpdaagreat", sum := "bd0d6692546efea041c8b03597a4a2c607567a0546cc5b677ef7d1132868a308", checked := Tryz.checked }
namespace Rows
def none {H : Type} : Left H := { results := [], args := [] }

/-- 'laws.FnExactRuleOk': WHATEVER THE INPUT: true; the input reads as it did. -/
def fnExactRuleOkSpec : ChangeSpec := { name := "fnExactRuleOk", fn := fun _ => fun
  | [d1, d2] => { results := [.lit (.bool true)], args := [d1, d2] }
  | _ => none }
def fnExactRuleOkRow : OpenClaim := { program := "ytaglfdkeomjpdaagreat", sum := "bd0d6692546efea041c8b03597a4a2c607567a0546cc5b677ef7d1132868a308", func := "loop.example/g00806/laws.FnExactRuleOk", spec := "fnExactRuleOk", unfollowed := true, recurses := true, apart := false }
def FnExactRuleOkSaid : Prop := fnExactRuleOkRow.holds Tryz.pinned (OpenSpec.ofChange fnExactRuleOkSpec)

/-- ITS FALSE NEIGHBOUR: 'it returns false'. Refute it at one input. -/
def fnExactRuleOkWrong : ChangeSpec := { name := "fnExactRuleOk", fn := fun _ => fun
  | [d1, d2] => { results := [.lit (.bool false)], args := [d1, d2] }
  | _ => none }
def FnExactRuleOkWrongFalsely : Prop := fnExactRuleOkRow.holds Tryz.pinned (OpenSpec.ofChange fnExactRuleOkWrong)

/-- 'laws.FnExactViolates': WHATEVER THE INPUT: true; the input reads as it did. -/
def fnExactViolatesSpec : ChangeSpec := { name := "fnExactViolates", fn := fun _ => fun
  | [d1, d2, d3] => { results := [.lit (.bool true)], args := [d1, d2, d3] }
  | _ => none }
def fnExactViolatesRow : OpenClaim := { program := "ytaglfdkeomjpdaagreat", sum := "bd0d6692546efea041c8b03597a4a2c607567a0546cc5b677ef7d1132868a308", func := "loop.example/g00806/laws.FnExactViolates", spec := "fnExactViolates", unfollowed := true, recurses := true, apart := false }
def FnExactViolatesSaid : Prop := fnExactViolatesRow.holds Tryz.pinned (OpenSpec.ofChange fnExactViolatesSpec)

/-- ITS FALSE NEIGHBOUR: 'it returns false'. Refute it at one input. -/
def fnExactViolatesWrong : ChangeSpec := { name := "fnExactViolates", fn := fun _ => fun
  | [d1, d2, d3] => { results := [.lit (.bool false)], args := [d1, d2, d3] }
  | _ => none }
def FnExactViolatesWrongFalsely : Prop := fnExactViolatesRow.holds Tryz.pinned (OpenSpec.ofChange fnExactViolatesWrong)

/-- 'laws.FnExactViolatedRules': WHATEVER THE INPUT: true; the input reads as it did. -/
def fnExactViolatedRulesSpec : ChangeSpec := { name := "fnExactViolatedRules", fn := fun _ => fun
  | [d1, d2] => { results := [.lit (.bool true)], args := [d1, d2] }
  | _ => none }
def fnExactViolatedRulesRow : OpenClaim := { program := "ytaglfdkeomjpdaagreat", sum := "bd0d6692546efea041c8b03597a4a2c607567a0546cc5b677ef7d1132868a308", func := "loop.example/g00806/laws.FnExactViolatedRules", spec := "fnExactViolatedRules", unfollowed := true, recurses := true, apart := false }
def FnExactViolatedRulesSaid : Prop := fnExactViolatedRulesRow.holds Tryz.pinned (OpenSpec.ofChange fnExactViolatedRulesSpec)

/-- ITS FALSE NEIGHBOUR: 'it returns false'. Refute it at one input. -/
def fnExactViolatedRulesWrong : ChangeSpec := { name := "fnExactViolatedRules", fn := fun _ => fun
  | [d1, d2] => { results := [.lit (.bool false)], args := [d1, d2] }
  | _ => none }
def FnExactViolatedRulesWrongFalsely : Prop := fnExactViolatedRulesRow.holds Tryz.pinned (OpenSpec.ofChange fnExactViolatedRulesWrong)

/-- 'laws.FnExactScheduleOk': WHATEVER THE INPUT: true; the input reads as it did. -/
def fnExactScheduleOkSpec : ChangeSpec := { name := "fnExactScheduleOk", fn := fun _ => fun
  | [d1, d2] => { results := [.lit (.bool true)], args := [d1, d2] }
  | _ => none }
def fnExactScheduleOkRow : OpenClaim := { program := "ytaglfdkeomjpdaagreat", sum := "bd0d6692546efea041c8b03597a4a2c607567a0546cc5b677ef7d1132868a308", func := "loop.example/g00806/laws.FnExactScheduleOk", spec := "fnExactScheduleOk", unfollowed := true, recurses := true, apart := false }
def FnExactScheduleOkSaid : Prop := fnExactScheduleOkRow.holds Tryz.pinned (OpenSpec.ofChange fnExactScheduleOkSpec)

/-- ITS FALSE NEIGHBOUR: 'it returns false'. Refute it at one input. -/
def fnExactScheduleOkWrong : ChangeSpec := { name := "fnExactScheduleOk", fn := fun _ => fun
  | [d1, d2] => { results := [.lit (.bool false)], args := [d1, d2] }
  | _ => none }
def FnExactScheduleOkWrongFalsely : Prop := fnExactScheduleOkRow.holds Tryz.pinned (OpenSpec.ofChange fnExactScheduleOkWrong)

/- THE SECOND FORM. 'bulk': how many values and letters a reading holds, each counted each time it is reached (what is shared counts as often as it is met; a slice's spare places count too). A statement '..UptoSaid' is the law's where the arguments, and the package variables that the reading takes, are together of bulk at most 1048576: NARROWER than '..Said'. Prove '..Said' where nothing that the law and all that it calls make is longer than what came in: it says more and counts as full. Else prove '..UptoSaid'. A law counts once. -/
mutual
def uptoBulk {H : Type} : DataW H → Nat
  | .lit (.string bytes) => bytes.length + 1
  | .lit _ => 1
  | .nil => 1
  | .ptr d => uptoBulk d + 1
  | .slice elems spare => uptoBulkAll elems + uptoBulkAll spare + 1
  | .agg parts => uptoBulkAll parts + 1
  | .iface _ d => uptoBulk d + 1
  | .map entries => uptoBulkEntries entries + 1
  | .held _ => 1
def uptoBulkAll {H : Type} : List (DataW H) → Nat
  | [] => 0
  | d :: r => uptoBulk d + uptoBulkAll r
def uptoBulkEntries {H : Type} : List (Lit × DataW H) → Nat
  | [] => 0
  | x :: r => uptoBulkEntry x + uptoBulkEntries r
def uptoBulkEntry {H : Type} : Lit × DataW H → Nat
  | (.string bytes, d) => bytes.length + uptoBulk d + 1
  | (_, d) => uptoBulk d + 1
 end
def uptoSmall : (H : Type) → List (DataW H) → Bool := fun _ ds => decide (uptoBulkAll ds ≤ 1048576)
def OpenSpec.upto (s : _root_.Go.ChangeSpec) : _root_.Go.OpenSpec := { _root_.Go.OpenSpec.ofChange s with cond := some uptoSmall }

/-- 'laws.FnExactRuleOk', WHERE WHAT IT READS IS OF BULK AT MOST 1048576: true; the input reads as it did. -/
def fnExactRuleOkUptoRow : OpenClaim := { program := "ytaglfdkeomjpdaagreat", sum := "bd0d6692546efea041c8b03597a4a2c607567a0546cc5b677ef7d1132868a308", func := "loop.example/g00806/laws.FnExactRuleOk", spec := "fnExactRuleOk", unfollowed := true, recurses := true, apart := false, narrowed := true }
def FnExactRuleOkUptoSaid : Prop := fnExactRuleOkUptoRow.holds Tryz.pinned (OpenSpec.upto fnExactRuleOkSpec)

/-- 'laws.FnExactViolates', WHERE WHAT IT READS IS OF BULK AT MOST 1048576: true; the input reads as it did. -/
def fnExactViolatesUptoRow : OpenClaim := { program := "ytaglfdkeomjpdaagreat", sum := "bd0d6692546efea041c8b03597a4a2c607567a0546cc5b677ef7d1132868a308", func := "loop.example/g00806/laws.FnExactViolates", spec := "fnExactViolates", unfollowed := true, recurses := true, apart := false, narrowed := true }
def FnExactViolatesUptoSaid : Prop := fnExactViolatesUptoRow.holds Tryz.pinned (OpenSpec.upto fnExactViolatesSpec)

/-- 'laws.FnExactViolatedRules', WHERE WHAT IT READS IS OF BULK AT MOST 1048576: true; the input reads as it did. -/
def fnExactViolatedRulesUptoRow : OpenClaim := { program := "ytaglfdkeomjpdaagreat", sum := "bd0d6692546efea041c8b03597a4a2c607567a0546cc5b677ef7d1132868a308", func := "loop.example/g00806/laws.FnExactViolatedRules", spec := "fnExactViolatedRules", unfollowed := true, recurses := true, apart := false, narrowed := true }
def FnExactViolatedRulesUptoSaid : Prop := fnExactViolatedRulesUptoRow.holds Tryz.pinned (OpenSpec.upto fnExactViolatedRulesSpec)

/-- 'laws.FnExactScheduleOk', WHERE WHAT IT READS IS OF BULK AT MOST 1048576: true; the input reads as it did. -/
def fnExactScheduleOkUptoRow : OpenClaim := { program := "ytaglfdkeomjpdaagreat", sum := "bd0d6692546efea041c8b03597a4a2c607567a0546cc5b677ef7d1132868a308", func := "loop.example/g00806/laws.FnExactScheduleOk", spec := "fnExactScheduleOk", unfollowed := true, recurses := true, apart := false, narrowed := true }
def FnExactScheduleOkUptoSaid : Prop := fnExactScheduleOkUptoRow.holds Tryz.pinned (OpenSpec.upto fnExactScheduleOkSpec)

end Rows
end Go.Proofs.YtaglfdkeomjpdaaGreat
