/-
  DERIVED. GIVEN WITH THE SEED: THE CARDS: each row of YtcoheknnkdmdiabGreatDoorRows.lean that lists a variable, with what it lists TIED to the program's text (the seventh form; the later family's looks); each row that meets fmt, with fmt's text TOLD by the authors' own Lean function (tested against real Go, not proved from fmt's source: count such statements apart). THE CARD IS WHAT COUNTS. Prove the row's statement (the work); the ties are given (YtcoheknnkdmdiabGreatDoorTie.lean); close each card by the builder's one call (the guide's Derived/Test/ToyasCard.lean, 'card_holds'). Laid BY PROGRAM, IN A SANDBOX (cutbox-door.mjs). By AI agents, Wed Nov 11 2026. No macro, syntax, notation, axiom, sorry.
-/
import Derived.Test.YtcoheknnkdmdiabGreatDoorRows
import GoSem.ClaimSeven
namespace Go.Proofs.YtcoheknnkdmdiabGreatDoor
namespace Rows

/-- THE TIED CARD OF 'laws.FnExactFormatSchedule'. -/
def fnExactFormatScheduleCard : Claim7 := { stood := { row := fnExactFormatScheduleRow, standIns := [], harness := (true, "58b183081a7ee223949f9a696b929a269790d04d8498f401be6fdf0119a75743"), looks := false }, kinds := [], alts := [], laidByText := true, laidKinds := [.data, .data, .data], laidTests := true, laidLooks := .later }
def FnExactFormatScheduleCardSaid : Prop := Claim7.holds Tryz.pinned (.plain (OpenSpec.ofChange fnExactFormatScheduleSpec)) fnExactFormatScheduleCard

/-- THE TIED CARD OF 'laws.FnExactParseSchedule'. -/
def fnExactParseScheduleCard : Claim7 := { stood := { row := fnExactParseScheduleRow, standIns := [], harness := (true, "58b183081a7ee223949f9a696b929a269790d04d8498f401be6fdf0119a75743"), looks := false }, kinds := [], alts := [], laidByText := true, laidKinds := [.data, .data, .data], laidTests := true, laidLooks := .later }
def FnExactParseScheduleCardSaid : Prop := Claim7.holds Tryz.pinned (.plain (OpenSpec.ofChange fnExactParseScheduleSpec)) fnExactParseScheduleCard

/-- THE SECOND FORM's CARD OF 'laws.FnExactFormatSchedule'. -/
def fnExactFormatScheduleUptoCard : Claim7 := { stood := { row := fnExactFormatScheduleUptoRow, standIns := [], harness := (true, "58b183081a7ee223949f9a696b929a269790d04d8498f401be6fdf0119a75743"), looks := false }, kinds := [], alts := [], laidByText := true, laidKinds := [.data, .data, .data], laidTests := true, laidLooks := .later }
def FnExactFormatScheduleUptoCardSaid : Prop := Claim7.holds Tryz.pinned (.plain (OpenSpec.upto fnExactFormatScheduleSpec)) fnExactFormatScheduleUptoCard

/-- THE SECOND FORM's CARD OF 'laws.FnExactParseSchedule'. -/
def fnExactParseScheduleUptoCard : Claim7 := { stood := { row := fnExactParseScheduleUptoRow, standIns := [], harness := (true, "58b183081a7ee223949f9a696b929a269790d04d8498f401be6fdf0119a75743"), looks := false }, kinds := [], alts := [], laidByText := true, laidKinds := [.data, .data, .data], laidTests := true, laidLooks := .later }
def FnExactParseScheduleUptoCardSaid : Prop := Claim7.holds Tryz.pinned (.plain (OpenSpec.upto fnExactParseScheduleSpec)) fnExactParseScheduleUptoCard
end Rows
end Go.Proofs.YtcoheknnkdmdiabGreatDoor
