/-
  DERIVED. GIVEN WITH THE SEED: THE CARDS: each row of YtlnbkhfjbpnbfaaDoorRows.lean that lists a variable, with what it lists TIED to the program's text (the seventh form; the later family's looks); each row that meets fmt, with fmt's text TOLD by the authors' own Lean function (tested against real Go, not proved from fmt's source: count such statements apart). THE CARD IS WHAT COUNTS. Prove the row's statement (the work); the ties are given (YtlnbkhfjbpnbfaaDoorTie.lean); close each card by the builder's one call (the guide's Derived/Test/ToyasCard.lean, 'card_holds'). Laid BY PROGRAM, IN A SANDBOX (cutbox-door.mjs). By AI agents, Wed Nov 11 2026. No macro, syntax, notation, axiom, sorry.
-/
import Derived.Test.YtlnbkhfjbpnbfaaDoorRows
import GoSem.ClaimSeven
namespace Go.Proofs.YtlnbkhfjbpnbfaaDoor
namespace Rows

/-- THE TIED CARD OF 'laws.FnExactFormatMode'. -/
def fnExactFormatModeCard : Claim7 := { stood := { row := fnExactFormatModeRow, standIns := [], harness := (true, "157264b9411e31d610fd3a8301673ba1636cd5db9233161cb98e4f2e3489900a"), looks := false }, kinds := [], alts := [], laidByText := true, laidKinds := [.data, .data, .data], laidTests := true, laidLooks := .later }
def FnExactFormatModeCardSaid : Prop := Claim7.holds Tryd.pinned (.plain (OpenSpec.ofChange fnExactFormatModeSpec)) fnExactFormatModeCard

/-- THE TIED CARD OF 'laws.FnExactParseMode'. -/
def fnExactParseModeCard : Claim7 := { stood := { row := fnExactParseModeRow, standIns := [], harness := (true, "157264b9411e31d610fd3a8301673ba1636cd5db9233161cb98e4f2e3489900a"), looks := false }, kinds := [], alts := [], laidByText := true, laidKinds := [.data, .data, .data], laidTests := true, laidLooks := .later }
def FnExactParseModeCardSaid : Prop := Claim7.holds Tryd.pinned (.plain (OpenSpec.ofChange fnExactParseModeSpec)) fnExactParseModeCard

/-- THE SECOND FORM's CARD OF 'laws.FnExactFormatMode'. -/
def fnExactFormatModeUptoCard : Claim7 := { stood := { row := fnExactFormatModeUptoRow, standIns := [], harness := (true, "157264b9411e31d610fd3a8301673ba1636cd5db9233161cb98e4f2e3489900a"), looks := false }, kinds := [], alts := [], laidByText := true, laidKinds := [.data, .data, .data], laidTests := true, laidLooks := .later }
def FnExactFormatModeUptoCardSaid : Prop := Claim7.holds Tryd.pinned (.plain (OpenSpec.upto fnExactFormatModeSpec)) fnExactFormatModeUptoCard

/-- THE SECOND FORM's CARD OF 'laws.FnExactParseMode'. -/
def fnExactParseModeUptoCard : Claim7 := { stood := { row := fnExactParseModeUptoRow, standIns := [], harness := (true, "157264b9411e31d610fd3a8301673ba1636cd5db9233161cb98e4f2e3489900a"), looks := false }, kinds := [], alts := [], laidByText := true, laidKinds := [.data, .data, .data], laidTests := true, laidLooks := .later }
def FnExactParseModeUptoCardSaid : Prop := Claim7.holds Tryd.pinned (.plain (OpenSpec.upto fnExactParseModeSpec)) fnExactParseModeUptoCard
end Rows
end Go.Proofs.YtlnbkhfjbpnbfaaDoor
