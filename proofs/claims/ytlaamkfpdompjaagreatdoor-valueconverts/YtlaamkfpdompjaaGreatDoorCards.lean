/-
  DERIVED. GIVEN WITH THE SEED: THE CARDS: each row of YtlaamkfpdompjaaGreatDoorRows.lean that lists a variable, with what it lists TIED to the program's text (the seventh form; the later family's looks); each row that meets fmt, with fmt's text TOLD by the authors' own Lean function (tested against real Go, not proved from fmt's source: count such statements apart). THE CARD IS WHAT COUNTS. Prove the row's statement (the work); the ties are given (YtlaamkfpdompjaaGreatDoorTie.lean); close each card by the builder's one call (the guide's Derived/Test/ToyasCard.lean, 'card_holds'). Laid BY PROGRAM, IN A SANDBOX (cutbox-door.mjs). By AI agents, Wed Nov 11 2026. No macro, syntax, notation, axiom, sorry.
-/
import Derived.Test.YtlaamkfpdompjaaGreatDoorRows
import GoSem.ClaimSeven
namespace Go.Proofs.YtlaamkfpdompjaaGreatDoor
namespace Rows

/-- THE TIED CARD OF 'relaylaw01.ValueConverts'. -/
def valueConvertsCard : Claim7 := { stood := { row := valueConvertsRow, standIns := [], harness := (true, "e0d54cfb02dbeacaf1df95edad9b3a3e5b9dbe140f30e10a7de45e081db2fc61"), looks := false }, kinds := [], alts := [], laidByText := true, laidKinds := [.data, .data, .data, .data, .pinned, .pinned], laidTests := true, laidLooks := .later }
def ValueConvertsCardSaid : Prop := Claim7.holds Tryz.pinned (.plain (OpenSpec.ofChange valueConvertsSpec)) valueConvertsCard

/-- THE SECOND FORM's CARD OF 'relaylaw01.ValueConverts'. -/
def valueConvertsUptoCard : Claim7 := { stood := { row := valueConvertsUptoRow, standIns := [], harness := (true, "e0d54cfb02dbeacaf1df95edad9b3a3e5b9dbe140f30e10a7de45e081db2fc61"), looks := false }, kinds := [], alts := [], laidByText := true, laidKinds := [.data, .data, .data, .data, .pinned, .pinned], laidTests := true, laidLooks := .later }
def ValueConvertsUptoCardSaid : Prop := Claim7.holds Tryz.pinned (.plain (OpenSpec.upto valueConvertsSpec)) valueConvertsUptoCard
end Rows
end Go.Proofs.YtlaamkfpdompjaaGreatDoor
