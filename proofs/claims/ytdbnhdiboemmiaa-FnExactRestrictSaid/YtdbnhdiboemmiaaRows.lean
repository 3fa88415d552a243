/-
  No cell of these rows narrows 'for every input' (looked for: loops, veiled, ifaces, maps, wideKeys, modest, calm, conditions, laid).
  DERIVED. THE GIVEN ROWS OF THIS SEAT. 5 by the template 'for every input the law returns true; each argument reads behind the call as it read before'; 0 by the template 'total and deterministic' (their statements: YtdbnhdiboemmiaaTotals.lean).
  GIVEN WITH THE SEED: the statements are not yours to turn. If you find one false, say at which input.
  Laid BY PROGRAM, IN A SANDBOX (cutbox-rows.mjs): the forced cells as the released guide's own fill.sh prints them over the translation 667fa2b3ac5ae4bd… (all of the seat's roots in one cut). By AI agents, Wed Nov 11 2026. No macro, syntax, notation, axiom, sorry.
-/
import Derived.Test.YtdbnhdiboemmiaaChecked
import GoSem.Claim
import GoSem.ClaimJoined
import GoSem.ClaimMapViews
import Derived.JoinedTies
import Derived.KernelRfl
namespace Go.Proofs.Ytdbnhdiboemmiaa
/- THE CELL 'sum', in the pinned program and in every row, IS THE sha256 OF THE DUMP (.gsa) THAT YtdbnhdiboemmiaaProg.lean LOADS. Nothing in Lean hashes anything: it is a label: what it is worth is what the hold of that sum in a sandbox is worth. -/
noncomputable def Try.pinned : Pinned := { name := "ytdbnhdiboemmiaa", sum := "667fa2b3ac5ae4bd6ee551e63135bdc9625a68f59dfc2d9962b9fa4561505b15", checked := Try.checked }
namespace Rows
def none {H : Type} : Left H := { results := [], args := [] }

/-- 'laws.FnExactDomainForm': WHATEVER THE INPUT: true; the input reads as it did. -/
def fnExactDomainFormSpec : ChangeSpec := { name := "fnExactDomainForm", fn := fun _ => fun
  | [d1, d2] => { results := [.lit (.bool true)], args := [d1, d2] }
  | _ => none }
def fnExactDomainFormRow : OpenClaim := { program := "ytdbnhdiboemmiaa", sum := "667fa2b3ac5ae4bd6ee551e63135bdc9625a68f59dfc2d9962b9fa4561505b15", func := "loop.example/g00806/laws.FnExactDomainForm", spec := "fnExactDomainForm", unfollowed := true, recurses := true, apart := false }
def FnExactDomainFormSaid : Prop := fnExactDomainFormRow.holds Try.pinned (OpenSpec.ofChange fnExactDomainFormSpec)

/-- ITS FALSE NEIGHBOUR: 'it returns false'. Refute it at one input. -/
def fnExactDomainFormWrong : ChangeSpec := { name := "fnExactDomainForm", fn := fun _ => fun
  | [d1, d2] => { results := [.lit (.bool false)], args := [d1, d2] }
  | _ => none }
def FnExactDomainFormWrongFalsely : Prop := fnExactDomainFormRow.holds Try.pinned (OpenSpec.ofChange fnExactDomainFormWrong)

/-- 'laws.FnExactInitialDomain': WHATEVER THE INPUT: true; the input reads as it did. -/
def fnExactInitialDomainSpec : ChangeSpec := { name := "fnExactInitialDomain", fn := fun _ => fun
  | [d] => { results := [.lit (.bool true)], args := [d] }
  | _ => none }
def fnExactInitialDomainRow : OpenClaim := { program := "ytdbnhdiboemmiaa", sum := "667fa2b3ac5ae4bd6ee551e63135bdc9625a68f59dfc2d9962b9fa4561505b15", func := "loop.example/g00806/laws.FnExactInitialDomain", spec := "fnExactInitialDomain", unfollowed := true, recurses := true, apart := false }
def FnExactInitialDomainSaid : Prop := fnExactInitialDomainRow.holds Try.pinned (OpenSpec.ofChange fnExactInitialDomainSpec)

/-- ITS FALSE NEIGHBOUR: 'it returns false'. Refute it at one input. -/
def fnExactInitialDomainWrong : ChangeSpec := { name := "fnExactInitialDomain", fn := fun _ => fun
  | [d] => { results := [.lit (.bool false)], args := [d] }
  | _ => none }
def FnExactInitialDomainWrongFalsely : Prop := fnExactInitialDomainRow.holds Try.pinned (OpenSpec.ofChange fnExactInitialDomainWrong)

/-- 'laws.FnExactDomainEmpty': WHATEVER THE INPUT: true; the input reads as it did. -/
def fnExactDomainEmptySpec : ChangeSpec := { name := "fnExactDomainEmpty", fn := fun _ => fun
  | [d] => { results := [.lit (.bool true)], args := [d] }
  | _ => none }
def fnExactDomainEmptyRow : OpenClaim := { program := "ytdbnhdiboemmiaa", sum := "667fa2b3ac5ae4bd6ee551e63135bdc9625a68f59dfc2d9962b9fa4561505b15", func := "loop.example/g00806/laws.FnExactDomainEmpty", spec := "fnExactDomainEmpty", unfollowed := true, recurses := true, apart := false }
def FnExactDomainEmptySaid : Prop := fnExactDomainEmptyRow.holds Try.pinned (OpenSpec.ofChange fnExactDomainEmptySpec)

/-- ITS FALSE NEIGHBOUR: 'it returns false'. Refute it at one input. -/
def fnExactDomainEmptyWrong : ChangeSpec := { name := "fnExactDomainEmpty", fn := fun _ => fun
  | [d] => { results := [.lit (.bool false)], args := [d] }
  | _ => none }
def FnExactDomainEmptyWrongFalsely : Prop := fnExactDomainEmptyRow.holds Try.pinned (OpenSpec.ofChange fnExactDomainEmptyWrong)

/-- 'laws.FnExactRestrict': WHATEVER THE INPUT: true; the input reads as it did. -/
def fnExactRestrictSpec : ChangeSpec := { name := "fnExactRestrict", fn := fun _ => fun
  | [d1, d2] => { results := [.lit (.bool true)], args := [d1, d2] }
  | _ => none }
def fnExactRestrictRow : OpenClaim := { program := "ytdbnhdiboemmiaa", sum := "667fa2b3ac5ae4bd6ee551e63135bdc9625a68f59dfc2d9962b9fa4561505b15", func := "loop.example/g00806/laws.FnExactRestrict", spec := "fnExactRestrict", recurses := true, apart := false }
def FnExactRestrictSaid : Prop := fnExactRestrictRow.holds Try.pinned (OpenSpec.ofChange fnExactRestrictSpec)

/-- ITS FALSE NEIGHBOUR: 'it returns false'. Refute it at one input. -/
def fnExactRestrictWrong : ChangeSpec := { name := "fnExactRestrict", fn := fun _ => fun
  | [d1, d2] => { results := [.lit (.bool false)], args := [d1, d2] }
  | _ => none }
def FnExactRestrictWrongFalsely : Prop := fnExactRestrictRow.holds Try.pinned (OpenSpec.ofChange fnExactRestrictWrong)

/-- 'laws.FnExactContains': WHATEVER THE INPUT: true; the input reads as it did. -/
def fnExactContainsSpec : ChangeSpec := { name := "fnExactContains", fn := fun _ => fun
  | [d1, d2] => { results := [.lit (.bool true)], args := [d1, d2] }
  | _ => none }
def fnExactContainsRow : OpenClaim := { program := "ytdbnhdiboemmiaa", sum := "667fa2b3ac5ae4bd6ee551e63135bdc9625a68f59dfc2d9962b9fa4561505b15", func := "loop.example/g00806/laws.FnExactContains", spec := "fnExactContains", apart := false }
def FnExactContainsSaid : Prop := fnExactContainsRow.holds Try.pinned (OpenSpec.ofChange fnExactContainsSpec)

/-- ITS FALSE NEIGHBOUR: 'it returns false'. Refute it at one input. -/
def fnExactContainsWrong : ChangeSpec := { name := "fnExactContains", fn := fun _ => fun
  | [d1, d2] => { results := [.lit (.bool false)], args := [d1, d2] }
  | _ => none }
def FnExactContainsWrongFalsely : Prop := fnExactContainsRow.holds Try.pinned (OpenSpec.ofChange fnExactContainsWrong)

/- THE SECOND FORM. 'bulk': how many values and letters a reading holds, each counted each time it is reached (what is shared counts as often as it is met; a slice's spare places count too). A statement '..UptoSaid' is the law's where the arguments, and the package variables that the reading takes, are together of bulk at most 1048576: NARROWER than '..Said'. Prove '..Said' where nothing that the law and all that it calls make is longer than what came in: it says more and counts as full. Else prove '..UptoSaid'. A law counts once. -/
mutual
def uptoBulk {H : Type} : DataW H → Nat
  | .lit (.string bytes) => bytes.length + 1
  | .lit _ => 1
  | .nil => 1
  | .ptr d => uptoBulk d + 1
  | .slice elems spare => uptoBulkAll elems + uptoBulkAll spare + 1
  | .agg parts => uptoBulkAll parts + 1
  | .iface _ d => uptoBulk d + 1
  | .map entries => uptoBulkEntries entries + 1
  | .held _ => 1
def uptoBulkAll {H : Type} : List (DataW H) → Nat
  | [] => 0
  | d :: r => uptoBulk d + uptoBulkAll r
def uptoBulkEntries {H : Type} : List (Lit × DataW H) → Nat
  | [] => 0
  | x :: r => uptoBulkEntry x + uptoBulkEntries r
def uptoBulkEntry {H : Type} : Lit × DataW H → Nat
  | (.string bytes, d) => bytes.length + uptoBulk d + 1
  | (_, d) => uptoBulk d + 1
 end
def uptoSmall : (H : Type) → List (DataW H) → Bool := fun _ ds => decide (uptoBulkAll ds ≤ 1048576)
def OpenSpec.upto (s : _root_.Go.ChangeSpec) : _root_.Go.OpenSpec := { _root_.Go.OpenSpec.ofChange s with cond := some uptoSmall }

/-- 'laws.FnExactDomainForm', WHERE WHAT IT READS IS OF BULK AT MOST 1048576: true; the input reads as it did. -/
def fnExactDomainFormUptoRow : OpenClaim := { program := "ytdbnhdiboemmiaa", sum := "667fa2b3ac5ae4bd6ee551e63135bdc9625a68f59dfc2d9962b9fa4561505b15", func := "loop.example/g00806/laws.FnExactDomainForm", spec := "fnExactDomainForm", unfollowed := true, recurses := true, apart := false, narrowed := true }
def FnExactDomainFormUptoSaid : Prop := fnExactDomainFormUptoRow.holds Try.pinned (OpenSpec.upto fnExactDomainFormSpec)

/-- 'laws.FnExactInitialDomain', WHERE WHAT IT READS IS OF BULK AT MOST 1048576: true; the input reads as it did. -/
def fnExactInitialDomainUptoRow : OpenClaim := { program := "ytdbnhdiboemmiaa", sum := "667fa2b3ac5ae4bd6ee551e63135bdc9625a68f59dfc2d9962b9fa4561505b15", func := "loop.example/g00806/laws.FnExactInitialDomain", spec := "fnExactInitialDomain", unfollowed := true, recurses := true, apart := false, narrowed := true }
def FnExactInitialDomainUptoSaid : Prop := fnExactInitialDomainUptoRow.holds Try.pinned (OpenSpec.upto fnExactInitialDomainSpec)

/-- 'laws.FnExactDomainEmpty', WHERE WHAT IT READS IS OF BULK AT MOST 1048576: true; the input reads as it did. -/
def fnExactDomainEmptyUptoRow : OpenClaim := { program := "ytdbnhdiboemmiaa", sum := "667fa2b3ac5ae4bd6ee551e63135bdc9625a68f59dfc2d9962b9fa4561505b15", func := "loop.example/g00806/laws.FnExactDomainEmpty", spec := "fnExactDomainEmpty", unfollowed := true, recurses := true, apart := false, narrowed := true }
def FnExactDomainEmptyUptoSaid : Prop := fnExactDomainEmptyUptoRow.holds Try.pinned (OpenSpec.upto fnExactDomainEmptySpec)

/-- 'laws.FnExactRestrict', WHERE WHAT IT READS IS OF BULK AT MOST 1048576: true; the input reads as it did. -/
def fnExactRestrictUptoRow : OpenClaim := { program := "ytdbnhdiboemmiaa", sum := "667fa2b3ac5ae4bd6ee551e63135bdc9625a68f59dfc2d9962b9fa4561505b15", func := "loop.example/g00806/laws.FnExactRestrict", spec := "fnExactRestrict", recurses := true, apart := false, narrowed := true }
def FnExactRestrictUptoSaid : Prop := fnExactRestrictUptoRow.holds Try.pinned (OpenSpec.upto fnExactRestrictSpec)

/-- 'laws.FnExactContains', WHERE WHAT IT READS IS OF BULK AT MOST 1048576: true; the input reads as it did. -/
def fnExactContainsUptoRow : OpenClaim := { program := "ytdbnhdiboemmiaa", sum := "667fa2b3ac5ae4bd6ee551e63135bdc9625a68f59dfc2d9962b9fa4561505b15", func := "loop.example/g00806/laws.FnExactContains", spec := "fnExactContains", apart := false, narrowed := true }
def FnExactContainsUptoSaid : Prop := fnExactContainsUptoRow.holds Try.pinned (OpenSpec.upto fnExactContainsSpec)

end Rows
end Go.Proofs.Ytdbnhdiboemmiaa
