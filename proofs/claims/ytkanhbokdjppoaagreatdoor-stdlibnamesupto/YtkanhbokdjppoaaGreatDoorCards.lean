/-
  DERIVED. GIVEN WITH THE SEED: THE CARDS: each row of YtkanhbokdjppoaaGreatDoorRows.lean that lists a variable, with what it lists TIED to the program's text (the seventh form; the later family's looks); each row that meets fmt, with fmt's text TOLD by the authors' own Lean function (tested against real Go, not proved from fmt's source: count such statements apart). THE CARD IS WHAT COUNTS. Prove the row's statement (the work); the ties are given (YtkanhbokdjppoaaGreatDoorTie.lean); close each card by the builder's one call (the guide's Derived/Test/ToyasCard.lean, 'card_holds'). Laid BY PROGRAM, IN A SANDBOX (cutbox-door.mjs). By AI agents, Wed Nov 11 2026. No macro, syntax, notation, axiom, sorry.
-/
import Derived.Test.YtkanhbokdjppoaaGreatDoorRows
import GoSem.ClaimSeven
namespace Go.Proofs.YtkanhbokdjppoaaGreatDoor
namespace Rows

/-- THE TIED CARD OF 'relaylaw09.StdlibFinds'. -/
def stdlibFindsCard : Claim7 := { stood := { row := stdlibFindsRow, standIns := [], harness := (true, "2349f8fc7057b7635046c599b73d849ded2db621b63f757f0e6326b820552adc"), looks := false }, kinds := [], alts := [], laidByText := true, laidKinds := [.data, .data, .data, .data, .listed, .data, .data, .pinned, .pinned], laidTests := true, laidLooks := .later }
def StdlibFindsCardSaid : Prop := Claim7.holds Tryz.pinned (.plain (OpenSpec.ofChange stdlibFindsSpec)) stdlibFindsCard

/-- THE TIED CARD OF 'relaylaw09.StdlibNames'. -/
def stdlibNamesCard : Claim7 := { stood := { row := stdlibNamesRow, standIns := [], harness := (true, "2349f8fc7057b7635046c599b73d849ded2db621b63f757f0e6326b820552adc"), looks := false }, kinds := [], alts := [], laidByText := true, laidKinds := [.data, .data, .data, .data, .listed, .data, .data, .pinned, .pinned], laidTests := true, laidLooks := .later }
def StdlibNamesCardSaid : Prop := Claim7.holds Tryz.pinned (.plain (OpenSpec.ofChange stdlibNamesSpec)) stdlibNamesCard

/-- THE TIED CARD OF 'relaylaw09.StdlibTexts'. -/
def stdlibTextsCard : Claim7 := { stood := { row := stdlibTextsRow, standIns := [], harness := (true, "2349f8fc7057b7635046c599b73d849ded2db621b63f757f0e6326b820552adc"), looks := false }, kinds := [], alts := [], laidByText := true, laidKinds := [.data, .data, .data, .data, .listed, .data, .data, .pinned, .pinned], laidTests := true, laidLooks := .later }
def StdlibTextsCardSaid : Prop := Claim7.holds Tryz.pinned (.plain (OpenSpec.ofChange stdlibTextsSpec)) stdlibTextsCard

/-- THE TIED CARD OF 'relaylaw09.StdlibTurned'. -/
def stdlibTurnedCard : Claim7 := { stood := { row := stdlibTurnedRow, standIns := [], harness := (true, "2349f8fc7057b7635046c599b73d849ded2db621b63f757f0e6326b820552adc"), looks := false }, kinds := [], alts := [], laidByText := true, laidKinds := [.data, .data, .data, .data, .listed, .data, .data, .pinned, .pinned], laidTests := true, laidLooks := .later }
def StdlibTurnedCardSaid : Prop := Claim7.holds Tryz.pinned (.plain (OpenSpec.ofChange stdlibTurnedSpec)) stdlibTurnedCard

/-- THE SECOND FORM's CARD OF 'relaylaw09.StdlibFinds'. -/
def stdlibFindsUptoCard : Claim7 := { stood := { row := stdlibFindsUptoRow, standIns := [], harness := (true, "2349f8fc7057b7635046c599b73d849ded2db621b63f757f0e6326b820552adc"), looks := false }, kinds := [], alts := [], laidByText := true, laidKinds := [.data, .data, .data, .data, .listed, .data, .data, .pinned, .pinned], laidTests := true, laidLooks := .later }
def StdlibFindsUptoCardSaid : Prop := Claim7.holds Tryz.pinned (.plain (OpenSpec.upto stdlibFindsSpec)) stdlibFindsUptoCard

/-- THE SECOND FORM's CARD OF 'relaylaw09.StdlibNames'. -/
def stdlibNamesUptoCard : Claim7 := { stood := { row := stdlibNamesUptoRow, standIns := [], harness := (true, "2349f8fc7057b7635046c599b73d849ded2db621b63f757f0e6326b820552adc"), looks := false }, kinds := [], alts := [], laidByText := true, laidKinds := [.data, .data, .data, .data, .listed, .data, .data, .pinned, .pinned], laidTests := true, laidLooks := .later }
def StdlibNamesUptoCardSaid : Prop := Claim7.holds Tryz.pinned (.plain (OpenSpec.upto stdlibNamesSpec)) stdlibNamesUptoCard

/-- THE SECOND FORM's CARD OF 'relaylaw09.StdlibTexts'. -/
def stdlibTextsUptoCard : Claim7 := { stood := { row := stdlibTextsUptoRow, standIns := [], harness := (true, "2349f8fc7057b7635046c599b73d849ded2db621b63f757f0e6326b820552adc"), looks := false }, kinds := [], alts := [], laidByText := true, laidKinds := [.data, .data, .data, .data, .listed, .data, .data, .pinned, .pinned], laidTests := true, laidLooks := .later }
def StdlibTextsUptoCardSaid : Prop := Claim7.holds Tryz.pinned (.plain (OpenSpec.upto stdlibTextsSpec)) stdlibTextsUptoCard

/-- THE SECOND FORM's CARD OF 'relaylaw09.StdlibTurned'. -/
def stdlibTurnedUptoCard : Claim7 := { stood := { row := stdlibTurnedUptoRow, standIns := [], harness := (true, "2349f8fc7057b7635046c599b73d849ded2db621b63f757f0e6326b820552adc"), looks := false }, kinds := [], alts := [], laidByText := true, laidKinds := [.data, .data, .data, .data, .listed, .data, .data, .pinned, .pinned], laidTests := true, laidLooks := .later }
def StdlibTurnedUptoCardSaid : Prop := Claim7.holds Tryz.pinned (.plain (OpenSpec.upto stdlibTurnedSpec)) stdlibTurnedUptoCard
end Rows
end Go.Proofs.YtkanhbokdjppoaaGreatDoor
