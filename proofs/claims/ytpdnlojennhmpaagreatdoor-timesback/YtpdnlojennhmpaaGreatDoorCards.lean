/-
  DERIVED. GIVEN WITH THE SEED: THE CARDS: each row of YtpdnlojennhmpaaGreatDoorRows.lean that lists a variable, with what it lists TIED to the program's text (the seventh form; the later family's looks); each row that meets fmt, with fmt's text TOLD by the authors' own Lean function (tested against real Go, not proved from fmt's source: count such statements apart). THE CARD IS WHAT COUNTS. Prove the row's statement (the work); the ties are given (YtpdnlojennhmpaaGreatDoorTie.lean); close each card by the builder's one call (the guide's Derived/Test/ToyasCard.lean, 'card_holds'). Laid BY PROGRAM, IN A SANDBOX (cutbox-door.mjs). By AI agents, Wed Nov 11 2026. No macro, syntax, notation, axiom, sorry.
-/
import Derived.Test.YtpdnlojennhmpaaGreatDoorRows
import GoSem.ClaimSeven
namespace Go.Proofs.YtpdnlojennhmpaaGreatDoor
namespace Rows

/-- THE TIED CARD OF 'relaylaw02.TimesBack'. -/
def timesBackCard : Claim7 := { stood := { row := timesBackRow, standIns := [], harness := (true, "dcf571b2f9a96222b8c332c37ec2df0a4025c5122eb8c962080a753f141c43db"), looks := false }, kinds := [], alts := [], laidByText := true, laidKinds := [.data, .data, .data, .data, .data, .data, .pinned, .pinned], laidTests := true, laidLooks := .later }
def TimesBackCardSaid : Prop := Claim7.holds Tryz.pinned (.plain (OpenSpec.ofChange timesBackSpec)) timesBackCard

/-- THE SECOND FORM's CARD OF 'relaylaw02.TimesBack'. -/
def timesBackUptoCard : Claim7 := { stood := { row := timesBackUptoRow, standIns := [], harness := (true, "dcf571b2f9a96222b8c332c37ec2df0a4025c5122eb8c962080a753f141c43db"), looks := false }, kinds := [], alts := [], laidByText := true, laidKinds := [.data, .data, .data, .data, .data, .data, .pinned, .pinned], laidTests := true, laidLooks := .later }
def TimesBackUptoCardSaid : Prop := Claim7.holds Tryz.pinned (.plain (OpenSpec.upto timesBackSpec)) timesBackUptoCard
end Rows
end Go.Proofs.YtpdnlojennhmpaaGreatDoor
