/-
  DERIVED. GIVEN WITH THE SEED: THE CARDS: each row of YtopadhibhijkhaaGreatDoorRows.lean that lists a variable, with what it lists TIED to the program's text (the seventh form; the later family's looks); each row that meets fmt, with fmt's text TOLD by the authors' own Lean function (tested against real Go, not proved from fmt's source: count such statements apart). THE CARD IS WHAT COUNTS. Prove the row's statement (the work); the ties are given (YtopadhibhijkhaaGreatDoorTie.lean); close each card by the builder's one call (the guide's Derived/Test/ToyasCard.lean, 'card_holds'). Laid BY PROGRAM, IN A SANDBOX (cutbox-door.mjs). By AI agents, Wed Nov 11 2026. No macro, syntax, notation, axiom, sorry.
-/
import Derived.Test.YtopadhibhijkhaaGreatDoorRows
import GoSem.ClaimSeven
namespace Go.Proofs.YtopadhibhijkhaaGreatDoor
namespace Rows

/-- THE TIED CARD OF 'relaylaw09.StdlibFinds'. -/
def stdlibFindsCard : Claim7 := { stood := { row := stdlibFindsRow, standIns := [], harness := (true, "13c28a841a98662b4b8453a26b334918d84a5a3ed40061dd264571ca63d1ab25"), looks := false }, kinds := [], alts := [], laidByText := true, laidKinds := [.data, .data, .data, .data, .listed, .data, .data, .pinned, .pinned], laidTests := true, laidLooks := .later }
def StdlibFindsCardSaid : Prop := Claim7.holds Tryz.pinned (.plain (OpenSpec.ofChange stdlibFindsSpec)) stdlibFindsCard

/-- THE SECOND FORM's CARD OF 'relaylaw09.StdlibFinds'. -/
def stdlibFindsUptoCard : Claim7 := { stood := { row := stdlibFindsUptoRow, standIns := [], harness := (true, "13c28a841a98662b4b8453a26b334918d84a5a3ed40061dd264571ca63d1ab25"), looks := false }, kinds := [], alts := [], laidByText := true, laidKinds := [.data, .data, .data, .data, .listed, .data, .data, .pinned, .pinned], laidTests := true, laidLooks := .later }
def StdlibFindsUptoCardSaid : Prop := Claim7.holds Tryz.pinned (.plain (OpenSpec.upto stdlibFindsSpec)) stdlibFindsUptoCard
end Rows
end Go.Proofs.YtopadhibhijkhaaGreatDoor
