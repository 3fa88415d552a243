/-
  DERIVED. GIVEN WITH THE SEED: THE CARDS: each row of YtilcfbffjjdgnabGreatDoorRows.lean that lists a variable, with what it lists TIED to the program's text (the seventh form; the later family's looks); each row that meets fmt, with fmt's text TOLD by the authors' own Lean function (tested against real Go, not proved from fmt's source: count such statements apart). THE CARD IS WHAT COUNTS. Prove the row's statement (the work); the ties are given (YtilcfbffjjdgnabGreatDoorTie.lean); close each card by the builder's one call (the guide's Derived/Test/ToyasCard.lean, 'card_holds'). Laid BY PROGRAM, IN A SANDBOX (cutbox-door.mjs). By AI agents, Wed Nov 11 2026. No macro, syntax, notation, axiom, sorry.
-/
import Derived.Test.YtilcfbffjjdgnabGreatDoorRows
import GoSem.ClaimSeven
namespace Go.Proofs.YtilcfbffjjdgnabGreatDoor
namespace Rows

/-- THE TIED CARD OF 'laws.FnExactFormatLiteral'. -/
def fnExactFormatLiteralCard : Claim7 := { stood := { row := fnExactFormatLiteralRow, standIns := [], harness := (true, "c3da34a47613b04df40a7664b287466cf6885e226d7f780322b95c280f244e36"), looks := true }, kinds := [], alts := [], laidByText := true, laidKinds := [.data, .data, .data], laidTests := true, laidLooks := .later }
def FnExactFormatLiteralCardSaid : Prop := Claim7.holds Tryz.pinned (.plain (OpenSpec.ofChange fnExactFormatLiteralSpec)) fnExactFormatLiteralCard

/-- THE TIED CARD OF 'laws.FnExactParseLiteral'. -/
def fnExactParseLiteralCard : Claim7 := { stood := { row := fnExactParseLiteralRow, standIns := [], harness := (true, "c3da34a47613b04df40a7664b287466cf6885e226d7f780322b95c280f244e36"), looks := true }, kinds := [], alts := [], laidByText := true, laidKinds := [.data, .data, .data], laidTests := true, laidLooks := .later }
def FnExactParseLiteralCardSaid : Prop := Claim7.holds Tryz.pinned (.plain (OpenSpec.ofChange fnExactParseLiteralSpec)) fnExactParseLiteralCard

/-- THE TIED CARD OF 'laws.FnReads'. -/
def fnReadsCard : Claim7 := { stood := { row := fnReadsRow, standIns := [], harness := (true, "c3da34a47613b04df40a7664b287466cf6885e226d7f780322b95c280f244e36"), looks := true }, kinds := [], alts := [], laidByText := true, laidKinds := [.data, .data, .data], laidTests := true, laidLooks := .later }
def FnReadsCardSaid : Prop := Claim7.holds Tryz.pinned (.plain (OpenSpec.ofChange fnReadsSpec)) fnReadsCard

/-- THE SECOND FORM's CARD OF 'laws.FnExactFormatLiteral'. -/
def fnExactFormatLiteralUptoCard : Claim7 := { stood := { row := fnExactFormatLiteralUptoRow, standIns := [], harness := (true, "c3da34a47613b04df40a7664b287466cf6885e226d7f780322b95c280f244e36"), looks := true }, kinds := [], alts := [], laidByText := true, laidKinds := [.data, .data, .data], laidTests := true, laidLooks := .later }
def FnExactFormatLiteralUptoCardSaid : Prop := Claim7.holds Tryz.pinned (.plain (OpenSpec.upto fnExactFormatLiteralSpec)) fnExactFormatLiteralUptoCard

/-- THE SECOND FORM's CARD OF 'laws.FnExactParseLiteral'. -/
def fnExactParseLiteralUptoCard : Claim7 := { stood := { row := fnExactParseLiteralUptoRow, standIns := [], harness := (true, "c3da34a47613b04df40a7664b287466cf6885e226d7f780322b95c280f244e36"), looks := true }, kinds := [], alts := [], laidByText := true, laidKinds := [.data, .data, .data], laidTests := true, laidLooks := .later }
def FnExactParseLiteralUptoCardSaid : Prop := Claim7.holds Tryz.pinned (.plain (OpenSpec.upto fnExactParseLiteralSpec)) fnExactParseLiteralUptoCard

/-- THE SECOND FORM's CARD OF 'laws.FnReads'. -/
def fnReadsUptoCard : Claim7 := { stood := { row := fnReadsUptoRow, standIns := [], harness := (true, "c3da34a47613b04df40a7664b287466cf6885e226d7f780322b95c280f244e36"), looks := true }, kinds := [], alts := [], laidByText := true, laidKinds := [.data, .data, .data], laidTests := true, laidLooks := .later }
def FnReadsUptoCardSaid : Prop := Claim7.holds Tryz.pinned (.plain (OpenSpec.upto fnReadsSpec)) fnReadsUptoCard
end Rows
end Go.Proofs.YtilcfbffjjdgnabGreatDoor
