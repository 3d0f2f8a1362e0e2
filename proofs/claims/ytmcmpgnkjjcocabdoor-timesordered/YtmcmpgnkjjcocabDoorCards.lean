/-
  DERIVED. GIVEN WITH THE SEED: THE CARDS: each row of YtmcmpgnkjjcocabDoorRows.lean that lists a variable, with what it lists TIED to the program's text (the seventh form; the later family's looks); each row that meets fmt, with fmt's text TOLD by the authors' own Lean function (tested against real Go, not proved from fmt's source: count such statements apart). THE CARD IS WHAT COUNTS. Prove the row's statement (the work); the ties are given (YtmcmpgnkjjcocabDoorTie.lean); close each card by the builder's one call (the guide's Derived/Test/ToyasCard.lean, 'card_holds'). Laid BY PROGRAM, IN A SANDBOX (cutbox-door.mjs). By AI agents, Wed Nov 11 2026. No macro, syntax, notation, axiom, sorry.
-/
import Derived.Test.YtmcmpgnkjjcocabDoorRows
import GoSem.ClaimSeven
namespace Go.Proofs.YtmcmpgnkjjcocabDoor
namespace Rows

/-- THE TIED CARD OF 'relaylaw02.TimesPrints'. -/
def timesPrintsCard : Claim7 := { stood := { row := timesPrintsRow, standIns := [], harness := (true, "38e92d460332aee4d0cad945e44f25e8d31bd2d78dfd1e7e69e53907b60b67d3"), looks := false }, kinds := [], alts := [], laidByText := true, laidKinds := [.data, .data, .data, .data, .data, .data, .pinned], laidTests := true, laidLooks := .later }
def TimesPrintsCardSaid : Prop := Claim7.holds Tryd.pinned (.plain (OpenSpec.ofChange timesPrintsSpec)) timesPrintsCard

/-- THE TIED CARD OF 'relaylaw02.TimesDaily'. -/
def timesDailyCard : Claim7 := { stood := { row := timesDailyRow, standIns := [], harness := (true, "38e92d460332aee4d0cad945e44f25e8d31bd2d78dfd1e7e69e53907b60b67d3"), looks := false }, kinds := [], alts := [], laidByText := true, laidKinds := [.data, .data, .data, .pinned, .pinned], laidTests := true, laidLooks := .later }
def TimesDailyCardSaid : Prop := Claim7.holds Tryd.pinned (.plain (OpenSpec.ofChange timesDailySpec)) timesDailyCard

/-- THE TIED CARD OF 'relaylaw02.TimesMay'. -/
def timesMayCard : Claim7 := { stood := { row := timesMayRow, standIns := [], harness := (true, "38e92d460332aee4d0cad945e44f25e8d31bd2d78dfd1e7e69e53907b60b67d3"), looks := false }, kinds := [], alts := [], laidByText := true, laidKinds := [.data, .data, .data, .pinned, .pinned], laidTests := true, laidLooks := .later }
def TimesMayCardSaid : Prop := Claim7.holds Tryd.pinned (.plain (OpenSpec.ofChange timesMaySpec)) timesMayCard

/-- THE TIED CARD OF 'relaylaw02.TimesOrdered'. -/
def timesOrderedCard : Claim7 := { stood := { row := timesOrderedRow, standIns := [], harness := (true, "38e92d460332aee4d0cad945e44f25e8d31bd2d78dfd1e7e69e53907b60b67d3"), looks := false }, kinds := [], alts := [], laidByText := true, laidKinds := [.data, .data, .data, .pinned, .pinned], laidTests := true, laidLooks := .later }
def TimesOrderedCardSaid : Prop := Claim7.holds Tryd.pinned (.plain (OpenSpec.ofChange timesOrderedSpec)) timesOrderedCard

/-- THE SECOND FORM's CARD OF 'relaylaw02.TimesPrints'. -/
def timesPrintsUptoCard : Claim7 := { stood := { row := timesPrintsUptoRow, standIns := [], harness := (true, "38e92d460332aee4d0cad945e44f25e8d31bd2d78dfd1e7e69e53907b60b67d3"), looks := false }, kinds := [], alts := [], laidByText := true, laidKinds := [.data, .data, .data, .data, .data, .data, .pinned], laidTests := true, laidLooks := .later }
def TimesPrintsUptoCardSaid : Prop := Claim7.holds Tryd.pinned (.plain (OpenSpec.upto timesPrintsSpec)) timesPrintsUptoCard

/-- THE SECOND FORM's CARD OF 'relaylaw02.TimesDaily'. -/
def timesDailyUptoCard : Claim7 := { stood := { row := timesDailyUptoRow, standIns := [], harness := (true, "38e92d460332aee4d0cad945e44f25e8d31bd2d78dfd1e7e69e53907b60b67d3"), looks := false }, kinds := [], alts := [], laidByText := true, laidKinds := [.data, .data, .data, .pinned, .pinned], laidTests := true, laidLooks := .later }
def TimesDailyUptoCardSaid : Prop := Claim7.holds Tryd.pinned (.plain (OpenSpec.upto timesDailySpec)) timesDailyUptoCard

/-- THE SECOND FORM's CARD OF 'relaylaw02.TimesMay'. -/
def timesMayUptoCard : Claim7 := { stood := { row := timesMayUptoRow, standIns := [], harness := (true, "38e92d460332aee4d0cad945e44f25e8d31bd2d78dfd1e7e69e53907b60b67d3"), looks := false }, kinds := [], alts := [], laidByText := true, laidKinds := [.data, .data, .data, .pinned, .pinned], laidTests := true, laidLooks := .later }
def TimesMayUptoCardSaid : Prop := Claim7.holds Tryd.pinned (.plain (OpenSpec.upto timesMaySpec)) timesMayUptoCard

/-- THE SECOND FORM's CARD OF 'relaylaw02.TimesOrdered'. -/
def timesOrderedUptoCard : Claim7 := { stood := { row := timesOrderedUptoRow, standIns := [], harness := (true, "38e92d460332aee4d0cad945e44f25e8d31bd2d78dfd1e7e69e53907b60b67d3"), looks := false }, kinds := [], alts := [], laidByText := true, laidKinds := [.data, .data, .data, .pinned, .pinned], laidTests := true, laidLooks := .later }
def TimesOrderedUptoCardSaid : Prop := Claim7.holds Tryd.pinned (.plain (OpenSpec.upto timesOrderedSpec)) timesOrderedUptoCard
end Rows
end Go.Proofs.YtmcmpgnkjjcocabDoor
