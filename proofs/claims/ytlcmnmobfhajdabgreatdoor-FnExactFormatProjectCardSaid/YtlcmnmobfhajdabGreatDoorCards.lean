/-
  DERIVED. GIVEN WITH THE SEED: THE CARDS: each row of YtlcmnmobfhajdabGreatDoorRows.lean that lists a variable, with what it lists TIED to the program's text (the seventh form; the later family's looks); each row that meets fmt, with fmt's text TOLD by the authors' own Lean function (tested against real Go, not proved from fmt's source: count such statements apart). THE CARD IS WHAT COUNTS. Prove the row's statement (the work); the ties are given (YtlcmnmobfhajdabGreatDoorTie.lean); close each card by the builder's one call (the guide's Derived/Test/ToyasCard.lean, 'card_holds'). Laid BY PROGRAM, IN A SANDBOX (cutbox-door.mjs). By AI agents, Wed Nov 11 2026. No macro, syntax, notation, axiom, sorry.
-/
import Derived.Test.YtlcmnmobfhajdabGreatDoorRows
import GoSem.ClaimSeven
namespace Go.Proofs.YtlcmnmobfhajdabGreatDoor
namespace Rows

/-- THE TIED CARD OF 'laws.FnExactFormatProject'. -/
def fnExactFormatProjectCard : Claim7 := { stood := { row := fnExactFormatProjectRow, standIns := [], harness := (true, "6d569144078b6742f7369a3349ada599f3c258463abd31bd10f140e6be484eca"), looks := false }, kinds := [], alts := [], laidByText := true, laidKinds := [.data, .data, .data], laidTests := true, laidLooks := .later }
def FnExactFormatProjectCardSaid : Prop := Claim7.holds Tryz.pinned (.plain (OpenSpec.ofChange fnExactFormatProjectSpec)) fnExactFormatProjectCard

/-- THE TIED CARD OF 'laws.FnExactParseProject'. -/
def fnExactParseProjectCard : Claim7 := { stood := { row := fnExactParseProjectRow, standIns := [], harness := (true, "6d569144078b6742f7369a3349ada599f3c258463abd31bd10f140e6be484eca"), looks := false }, kinds := [], alts := [], laidByText := true, laidKinds := [.data, .data, .data], laidTests := true, laidLooks := .later }
def FnExactParseProjectCardSaid : Prop := Claim7.holds Tryz.pinned (.plain (OpenSpec.ofChange fnExactParseProjectSpec)) fnExactParseProjectCard

/-- THE SECOND FORM's CARD OF 'laws.FnExactFormatProject'. -/
def fnExactFormatProjectUptoCard : Claim7 := { stood := { row := fnExactFormatProjectUptoRow, standIns := [], harness := (true, "6d569144078b6742f7369a3349ada599f3c258463abd31bd10f140e6be484eca"), looks := false }, kinds := [], alts := [], laidByText := true, laidKinds := [.data, .data, .data], laidTests := true, laidLooks := .later }
def FnExactFormatProjectUptoCardSaid : Prop := Claim7.holds Tryz.pinned (.plain (OpenSpec.upto fnExactFormatProjectSpec)) fnExactFormatProjectUptoCard

/-- THE SECOND FORM's CARD OF 'laws.FnExactParseProject'. -/
def fnExactParseProjectUptoCard : Claim7 := { stood := { row := fnExactParseProjectUptoRow, standIns := [], harness := (true, "6d569144078b6742f7369a3349ada599f3c258463abd31bd10f140e6be484eca"), looks := false }, kinds := [], alts := [], laidByText := true, laidKinds := [.data, .data, .data], laidTests := true, laidLooks := .later }
def FnExactParseProjectUptoCardSaid : Prop := Claim7.holds Tryz.pinned (.plain (OpenSpec.upto fnExactParseProjectSpec)) fnExactParseProjectUptoCard
end Rows
end Go.Proofs.YtlcmnmobfhajdabGreatDoor
