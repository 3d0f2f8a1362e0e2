/-
  DERIVED. GIVEN WITH THE SEED: THE CARDS: each row of YtfihbpglnnheiaaGreatDoorRows.lean that lists a variable, with what it lists TIED to the program's text (the seventh form; the later family's looks); each row that meets fmt, with fmt's text TOLD by the authors' own Lean function (tested against real Go, not proved from fmt's source: count such statements apart). THE CARD IS WHAT COUNTS. Prove the row's statement (the work); the ties are given (YtfihbpglnnheiaaGreatDoorTie.lean); close each card by the builder's one call (the guide's Derived/Test/ToyasCard.lean, 'card_holds'). Laid BY PROGRAM, IN A SANDBOX (cutbox-door.mjs). By AI agents, Wed Nov 11 2026. No macro, syntax, notation, axiom, sorry.
-/
import Derived.Test.YtfihbpglnnheiaaGreatDoorRows
import GoSem.ClaimSeven
namespace Go.Proofs.YtfihbpglnnheiaaGreatDoor
namespace Rows

/-- THE TIED CARD OF 'relaylaw02.TimesApart'. -/
def timesApartCard : Claim7 := { stood := { row := timesApartRow, standIns := [], harness := (true, "67da2be3e2303d7bbca3a48f3aee162c3e690fbe0a20861cc59dda8cdb49cc49"), looks := false }, kinds := [], alts := [], laidByText := true, laidKinds := [.data, .data, .data, .data, .data, .data, .pinned, .pinned], laidTests := true, laidLooks := .later }
def TimesApartCardSaid : Prop := Claim7.holds Tryz.pinned (.plain (OpenSpec.ofChange timesApartSpec)) timesApartCard

/-- THE SECOND FORM's CARD OF 'relaylaw02.TimesApart'. -/
def timesApartUptoCard : Claim7 := { stood := { row := timesApartUptoRow, standIns := [], harness := (true, "67da2be3e2303d7bbca3a48f3aee162c3e690fbe0a20861cc59dda8cdb49cc49"), looks := false }, kinds := [], alts := [], laidByText := true, laidKinds := [.data, .data, .data, .data, .data, .data, .pinned, .pinned], laidTests := true, laidLooks := .later }
def TimesApartUptoCardSaid : Prop := Claim7.holds Tryz.pinned (.plain (OpenSpec.upto timesApartSpec)) timesApartUptoCard
end Rows
end Go.Proofs.YtfihbpglnnheiaaGreatDoor
