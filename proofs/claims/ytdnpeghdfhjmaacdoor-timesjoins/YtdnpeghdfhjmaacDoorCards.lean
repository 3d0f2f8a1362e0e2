/-
  DERIVED. GIVEN WITH THE SEED: THE CARDS: each row of YtdnpeghdfhjmaacDoorRows.lean that lists a variable, with what it lists TIED to the program's text (the seventh form; the later family's looks); each row that meets fmt, with fmt's text TOLD by the authors' own Lean function (tested against real Go, not proved from fmt's source: count such statements apart). THE CARD IS WHAT COUNTS. Prove the row's statement (the work); the ties are given (YtdnpeghdfhjmaacDoorTie.lean); close each card by the builder's one call (the guide's Derived/Test/ToyasCard.lean, 'card_holds'). Laid BY PROGRAM, IN A SANDBOX (cutbox-door.mjs). By AI agents, Wed Nov 11 2026. No macro, syntax, notation, axiom, sorry.
-/
import Derived.Test.YtdnpeghdfhjmaacDoorRows
import GoSem.ClaimSeven
namespace Go.Proofs.YtdnpeghdfhjmaacDoor
namespace Rows

/-- THE TIED CARD OF 'relaylaw02.TimesDays'. -/
def timesDaysCard : Claim7 := { stood := { row := timesDaysRow, standIns := [], harness := (true, "370948a16c879585a2c550045f9e93ceebaa3a7eb8a31de4cade415f8fc37a3b"), looks := false }, kinds := [], alts := [], laidByText := true, laidKinds := [.data], laidTests := true, laidLooks := .later }
def TimesDaysCardSaid : Prop := Claim7.holds Tryd.pinned (.plain (OpenSpec.ofChange timesDaysSpec)) timesDaysCard

/-- THE TIED CARD OF 'relaylaw02.TimesCivil'. -/
def timesCivilCard : Claim7 := { stood := { row := timesCivilRow, standIns := [], harness := (true, "370948a16c879585a2c550045f9e93ceebaa3a7eb8a31de4cade415f8fc37a3b"), looks := false }, kinds := [], alts := [], laidByText := true, laidKinds := [.data], laidTests := true, laidLooks := .later }
def TimesCivilCardSaid : Prop := Claim7.holds Tryd.pinned (.plain (OpenSpec.ofChange timesCivilSpec)) timesCivilCard

/-- THE TIED CARD OF 'relaylaw02.TimesJoins'. -/
def timesJoinsCard : Claim7 := { stood := { row := timesJoinsRow, standIns := [], harness := (true, "370948a16c879585a2c550045f9e93ceebaa3a7eb8a31de4cade415f8fc37a3b"), looks := false }, kinds := [], alts := [], laidByText := true, laidKinds := [.data, .data, .data, .data, .pinned, .pinned], laidTests := true, laidLooks := .later }
def TimesJoinsCardSaid : Prop := Claim7.holds Tryd.pinned (.plain (OpenSpec.ofChange timesJoinsSpec)) timesJoinsCard

/-- THE TIED CARD OF 'relaylaw02.TimesDaily'. -/
def timesDailyCard : Claim7 := { stood := { row := timesDailyRow, standIns := [], harness := (true, "370948a16c879585a2c550045f9e93ceebaa3a7eb8a31de4cade415f8fc37a3b"), looks := false }, kinds := [], alts := [], laidByText := true, laidKinds := [.data, .data, .data, .pinned, .pinned], laidTests := true, laidLooks := .later }
def TimesDailyCardSaid : Prop := Claim7.holds Tryd.pinned (.plain (OpenSpec.ofChange timesDailySpec)) timesDailyCard

/-- THE SECOND FORM's CARD OF 'relaylaw02.TimesDays'. -/
def timesDaysUptoCard : Claim7 := { stood := { row := timesDaysUptoRow, standIns := [], harness := (true, "370948a16c879585a2c550045f9e93ceebaa3a7eb8a31de4cade415f8fc37a3b"), looks := false }, kinds := [], alts := [], laidByText := true, laidKinds := [.data], laidTests := true, laidLooks := .later }
def TimesDaysUptoCardSaid : Prop := Claim7.holds Tryd.pinned (.plain (OpenSpec.upto timesDaysSpec)) timesDaysUptoCard

/-- THE SECOND FORM's CARD OF 'relaylaw02.TimesCivil'. -/
def timesCivilUptoCard : Claim7 := { stood := { row := timesCivilUptoRow, standIns := [], harness := (true, "370948a16c879585a2c550045f9e93ceebaa3a7eb8a31de4cade415f8fc37a3b"), looks := false }, kinds := [], alts := [], laidByText := true, laidKinds := [.data], laidTests := true, laidLooks := .later }
def TimesCivilUptoCardSaid : Prop := Claim7.holds Tryd.pinned (.plain (OpenSpec.upto timesCivilSpec)) timesCivilUptoCard

/-- THE SECOND FORM's CARD OF 'relaylaw02.TimesJoins'. -/
def timesJoinsUptoCard : Claim7 := { stood := { row := timesJoinsUptoRow, standIns := [], harness := (true, "370948a16c879585a2c550045f9e93ceebaa3a7eb8a31de4cade415f8fc37a3b"), looks := false }, kinds := [], alts := [], laidByText := true, laidKinds := [.data, .data, .data, .data, .pinned, .pinned], laidTests := true, laidLooks := .later }
def TimesJoinsUptoCardSaid : Prop := Claim7.holds Tryd.pinned (.plain (OpenSpec.upto timesJoinsSpec)) timesJoinsUptoCard

/-- THE SECOND FORM's CARD OF 'relaylaw02.TimesDaily'. -/
def timesDailyUptoCard : Claim7 := { stood := { row := timesDailyUptoRow, standIns := [], harness := (true, "370948a16c879585a2c550045f9e93ceebaa3a7eb8a31de4cade415f8fc37a3b"), looks := false }, kinds := [], alts := [], laidByText := true, laidKinds := [.data, .data, .data, .pinned, .pinned], laidTests := true, laidLooks := .later }
def TimesDailyUptoCardSaid : Prop := Claim7.holds Tryd.pinned (.plain (OpenSpec.upto timesDailySpec)) timesDailyUptoCard
end Rows
end Go.Proofs.YtdnpeghdfhjmaacDoor
