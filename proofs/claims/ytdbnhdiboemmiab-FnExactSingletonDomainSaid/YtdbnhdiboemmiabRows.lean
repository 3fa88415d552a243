/-
  No cell of these rows narrows 'for every input' (looked for: loops, veiled, ifaces, maps, wideKeys, modest, calm, conditions, laid).
  DERIVED. THE GIVEN ROWS OF THIS SEAT. 4 by the template 'for every input the law returns true; each argument reads behind the call as it read before'; 0 by the template 'total and deterministic' (their statements: YtdbnhdiboemmiabTotals.lean).
  GIVEN WITH THE SEED: the statements are not yours to turn. If you find one false, say at which input.
  Laid BY PROGRAM, IN A SANDBOX (cutbox-rows.mjs): the forced cells as the released guide's own fill.sh prints them over the translation 6ada2873d3be78ca… (all of the seat's roots in one cut). By AI agents, Wed Nov 11 2026. No macro, syntax, notation, axiom, sorry.
-/
import Derived.Test.YtdbnhdiboemmiabChecked
import GoSem.Claim
import GoSem.ClaimJoined
import GoSem.ClaimMapViews
import Derived.JoinedTies
import Derived.KernelRfl
namespace Go.Proofs.Ytdbnhdiboemmiab
/- THE CELL 'sum', in the pinned program and in every row, IS THE sha256 OF THE DUMP (.gsa) THAT YtdbnhdiboemmiabProg.lean LOADS. Nothing in Lean hashes anything: it is a label: what it is worth is what the hold of that sum in a sandbox is worth. -/
noncomputable def Try.pinned : Pinned := { name := "ytdbnhdiboemmiab", sum := "6ada2873d3be78ca5b1389c719b80e1fba1e4b286b0bca52d9a9e9f0797a7059", checked := Try.checked }
namespace Rows
def none {H : Type} : Left H := { results := [], args := [] }

/-- 'laws.FnExactLiteralValue': WHATEVER THE INPUT: true; the input reads as it did. -/
def fnExactLiteralValueSpec : ChangeSpec := { name := "fnExactLiteralValue", fn := fun _ => fun
  | [d1, d2] => { results := [.lit (.bool true)], args := [d1, d2] }
  | _ => none }
def fnExactLiteralValueRow : OpenClaim := { program := "ytdbnhdiboemmiab", sum := "6ada2873d3be78ca5b1389c719b80e1fba1e4b286b0bca52d9a9e9f0797a7059", func := "loop.example/g00806/laws.FnExactLiteralValue", spec := "fnExactLiteralValue", apart := false }
def FnExactLiteralValueSaid : Prop := fnExactLiteralValueRow.holds Try.pinned (OpenSpec.ofChange fnExactLiteralValueSpec)

/-- ITS FALSE NEIGHBOUR: 'it returns false'. Refute it at one input. -/
def fnExactLiteralValueWrong : ChangeSpec := { name := "fnExactLiteralValue", fn := fun _ => fun
  | [d1, d2] => { results := [.lit (.bool false)], args := [d1, d2] }
  | _ => none }
def FnExactLiteralValueWrongFalsely : Prop := fnExactLiteralValueRow.holds Try.pinned (OpenSpec.ofChange fnExactLiteralValueWrong)

/-- 'laws.FnExactSingletonDomain': WHATEVER THE INPUT: true; the input reads as it did. -/
def fnExactSingletonDomainSpec : ChangeSpec := { name := "fnExactSingletonDomain", fn := fun _ => fun
  | [d] => { results := [.lit (.bool true)], args := [d] }
  | _ => none }
def fnExactSingletonDomainRow : OpenClaim := { program := "ytdbnhdiboemmiab", sum := "6ada2873d3be78ca5b1389c719b80e1fba1e4b286b0bca52d9a9e9f0797a7059", func := "loop.example/g00806/laws.FnExactSingletonDomain", spec := "fnExactSingletonDomain", apart := false }
def FnExactSingletonDomainSaid : Prop := fnExactSingletonDomainRow.holds Try.pinned (OpenSpec.ofChange fnExactSingletonDomainSpec)

/-- ITS FALSE NEIGHBOUR: 'it returns false'. Refute it at one input. -/
def fnExactSingletonDomainWrong : ChangeSpec := { name := "fnExactSingletonDomain", fn := fun _ => fun
  | [d] => { results := [.lit (.bool false)], args := [d] }
  | _ => none }
def FnExactSingletonDomainWrongFalsely : Prop := fnExactSingletonDomainRow.holds Try.pinned (OpenSpec.ofChange fnExactSingletonDomainWrong)

/-- 'laws.FnExactDomainSubset': WHATEVER THE INPUT: true; the input reads as it did. -/
def fnExactDomainSubsetSpec : ChangeSpec := { name := "fnExactDomainSubset", fn := fun _ => fun
  | [d1, d2] => { results := [.lit (.bool true)], args := [d1, d2] }
  | _ => none }
def fnExactDomainSubsetRow : OpenClaim := { program := "ytdbnhdiboemmiab", sum := "6ada2873d3be78ca5b1389c719b80e1fba1e4b286b0bca52d9a9e9f0797a7059", func := "loop.example/g00806/laws.FnExactDomainSubset", spec := "fnExactDomainSubset", recurses := true, apart := false }
def FnExactDomainSubsetSaid : Prop := fnExactDomainSubsetRow.holds Try.pinned (OpenSpec.ofChange fnExactDomainSubsetSpec)

/-- ITS FALSE NEIGHBOUR: 'it returns false'. Refute it at one input. -/
def fnExactDomainSubsetWrong : ChangeSpec := { name := "fnExactDomainSubset", fn := fun _ => fun
  | [d1, d2] => { results := [.lit (.bool false)], args := [d1, d2] }
  | _ => none }
def FnExactDomainSubsetWrongFalsely : Prop := fnExactDomainSubsetRow.holds Try.pinned (OpenSpec.ofChange fnExactDomainSubsetWrong)

/-- 'laws.FnExactDomainEqual': WHATEVER THE INPUT: true; the input reads as it did. -/
def fnExactDomainEqualSpec : ChangeSpec := { name := "fnExactDomainEqual", fn := fun _ => fun
  | [d1, d2] => { results := [.lit (.bool true)], args := [d1, d2] }
  | _ => none }
def fnExactDomainEqualRow : OpenClaim := { program := "ytdbnhdiboemmiab", sum := "6ada2873d3be78ca5b1389c719b80e1fba1e4b286b0bca52d9a9e9f0797a7059", func := "loop.example/g00806/laws.FnExactDomainEqual", spec := "fnExactDomainEqual", unfollowed := true, recurses := true, apart := false }
def FnExactDomainEqualSaid : Prop := fnExactDomainEqualRow.holds Try.pinned (OpenSpec.ofChange fnExactDomainEqualSpec)

/-- ITS FALSE NEIGHBOUR: 'it returns false'. Refute it at one input. -/
def fnExactDomainEqualWrong : ChangeSpec := { name := "fnExactDomainEqual", fn := fun _ => fun
  | [d1, d2] => { results := [.lit (.bool false)], args := [d1, d2] }
  | _ => none }
def FnExactDomainEqualWrongFalsely : Prop := fnExactDomainEqualRow.holds Try.pinned (OpenSpec.ofChange fnExactDomainEqualWrong)

/- THE SECOND FORM. 'bulk': how many values and letters a reading holds, each counted each time it is reached (what is shared counts as often as it is met; a slice's spare places count too). A statement '..UptoSaid' is the law's where the arguments, and the package variables that the reading takes, are together of bulk at most 1048576: NARROWER than '..Said'. Prove '..Said' where nothing that the law and all that it calls make is longer than what came in: it says more and counts as full. Else prove '..UptoSaid'. A law counts once. -/
mutual
def uptoBulk {H : Type} : DataW H → Nat
  | .lit (.string bytes) => bytes.length + 1
  | .lit _ => 1
  | .nil => 1
  | .ptr d => uptoBulk d + 1
  | .slice elems spare => uptoBulkAll elems + uptoBulkAll spare + 1
  | .agg parts => uptoBulkAll parts + 1
  | .iface _ d => uptoBulk d + 1
  | .map entries => uptoBulkEntries entries + 1
  | .held _ => 1
def uptoBulkAll {H : Type} : List (DataW H) → Nat
  | [] => 0
  | d :: r => uptoBulk d + uptoBulkAll r
def uptoBulkEntries {H : Type} : List (Lit × DataW H) → Nat
  | [] => 0
  | x :: r => uptoBulkEntry x + uptoBulkEntries r
def uptoBulkEntry {H : Type} : Lit × DataW H → Nat
  | (.string bytes, d) => bytes.length + uptoBulk d + 1
  | (_, d) => uptoBulk d + 1
 end
def uptoSmall : (H : Type) → List (DataW H) → Bool := fun _ ds => decide (uptoBulkAll ds ≤ 1048576)
def OpenSpec.upto (s : _root_.Go.ChangeSpec) : _root_.Go.OpenSpec := { _root_.Go.OpenSpec.ofChange s with cond := some uptoSmall }

/-- 'laws.FnExactLiteralValue', WHERE WHAT IT READS IS OF BULK AT MOST 1048576: true; the input reads as it did. -/
def fnExactLiteralValueUptoRow : OpenClaim := { program := "ytdbnhdiboemmiab", sum := "6ada2873d3be78ca5b1389c719b80e1fba1e4b286b0bca52d9a9e9f0797a7059", func := "loop.example/g00806/laws.FnExactLiteralValue", spec := "fnExactLiteralValue", apart := false, narrowed := true }
def FnExactLiteralValueUptoSaid : Prop := fnExactLiteralValueUptoRow.holds Try.pinned (OpenSpec.upto fnExactLiteralValueSpec)

/-- 'laws.FnExactSingletonDomain', WHERE WHAT IT READS IS OF BULK AT MOST 1048576: true; the input reads as it did. -/
def fnExactSingletonDomainUptoRow : OpenClaim := { program := "ytdbnhdiboemmiab", sum := "6ada2873d3be78ca5b1389c719b80e1fba1e4b286b0bca52d9a9e9f0797a7059", func := "loop.example/g00806/laws.FnExactSingletonDomain", spec := "fnExactSingletonDomain", apart := false, narrowed := true }
def FnExactSingletonDomainUptoSaid : Prop := fnExactSingletonDomainUptoRow.holds Try.pinned (OpenSpec.upto fnExactSingletonDomainSpec)

/-- 'laws.FnExactDomainSubset', WHERE WHAT IT READS IS OF BULK AT MOST 1048576: true; the input reads as it did. -/
def fnExactDomainSubsetUptoRow : OpenClaim := { program := "ytdbnhdiboemmiab", sum := "6ada2873d3be78ca5b1389c719b80e1fba1e4b286b0bca52d9a9e9f0797a7059", func := "loop.example/g00806/laws.FnExactDomainSubset", spec := "fnExactDomainSubset", recurses := true, apart := false, narrowed := true }
def FnExactDomainSubsetUptoSaid : Prop := fnExactDomainSubsetUptoRow.holds Try.pinned (OpenSpec.upto fnExactDomainSubsetSpec)

/-- 'laws.FnExactDomainEqual', WHERE WHAT IT READS IS OF BULK AT MOST 1048576: true; the input reads as it did. -/
def fnExactDomainEqualUptoRow : OpenClaim := { program := "ytdbnhdiboemmiab", sum := "6ada2873d3be78ca5b1389c719b80e1fba1e4b286b0bca52d9a9e9f0797a7059", func := "loop.example/g00806/laws.FnExactDomainEqual", spec := "fnExactDomainEqual", unfollowed := true, recurses := true, apart := false, narrowed := true }
def FnExactDomainEqualUptoSaid : Prop := fnExactDomainEqualUptoRow.holds Try.pinned (OpenSpec.upto fnExactDomainEqualSpec)

end Rows
end Go.Proofs.Ytdbnhdiboemmiab
