/-
  DERIVED. GIVEN WITH THE SEED: THE CARDS: each row of YtpaibmganlaaeaaGreatDoorRows.lean that lists a variable, with what it lists TIED to the program's text (the seventh form; the later family's looks); each row that meets fmt, with fmt's text TOLD by the authors' own Lean function (tested against real Go, not proved from fmt's source: count such statements apart). THE CARD IS WHAT COUNTS. Prove the row's statement (the work); the ties are given (YtpaibmganlaaeaaGreatDoorTie.lean); close each card by the builder's one call (the guide's Derived/Test/ToyasCard.lean, 'card_holds'). Laid BY PROGRAM, IN A SANDBOX (cutbox-door.mjs). By AI agents, Wed Nov 11 2026. No macro, syntax, notation, axiom, sorry.
-/
import Derived.Test.YtpaibmganlaaeaaGreatDoorRows
import GoSem.ClaimSeven
namespace Go.Proofs.YtpaibmganlaaeaaGreatDoor
namespace Rows

/-- THE TIED CARD OF 'relaylaw09.StdlibFound'. -/
def stdlibFoundCard : Claim7 := { stood := { row := stdlibFoundRow, standIns := [], harness := (true, "6b6567f9176e85ac4d71bc9446a21d1efd8a1efcf9e7380b2fd308b4b34e5fd5"), looks := false }, kinds := [], alts := [], laidByText := true, laidKinds := [.data, .data, .data, .data, .listed, .data, .data, .pinned, .pinned], laidTests := true, laidLooks := .later }
def StdlibFoundCardSaid : Prop := Claim7.holds Tryz.pinned (.plain (OpenSpec.ofChange stdlibFoundSpec)) stdlibFoundCard

/-- THE SECOND FORM's CARD OF 'relaylaw09.StdlibFound'. -/
def stdlibFoundUptoCard : Claim7 := { stood := { row := stdlibFoundUptoRow, standIns := [], harness := (true, "6b6567f9176e85ac4d71bc9446a21d1efd8a1efcf9e7380b2fd308b4b34e5fd5"), looks := false }, kinds := [], alts := [], laidByText := true, laidKinds := [.data, .data, .data, .data, .listed, .data, .data, .pinned, .pinned], laidTests := true, laidLooks := .later }
def StdlibFoundUptoCardSaid : Prop := Claim7.holds Tryz.pinned (.plain (OpenSpec.upto stdlibFoundSpec)) stdlibFoundUptoCard
end Rows
end Go.Proofs.YtpaibmganlaaeaaGreatDoor
