/-
  DERIVED. GIVEN WITH THE SEED: THE CARDS: each row of YtademfjpeoneiaaDoorRows.lean that lists a variable, with what it lists TIED to the program's text (the seventh form; the later family's looks); each row that meets fmt, with fmt's text TOLD by the authors' own Lean function (tested against real Go, not proved from fmt's source: count such statements apart). THE CARD IS WHAT COUNTS. Prove the row's statement (the work); the ties are given (YtademfjpeoneiaaDoorTie.lean); close each card by the builder's one call (the guide's Derived/Test/ToyasCard.lean, 'card_holds'). Laid BY PROGRAM, IN A SANDBOX (cutbox-door.mjs). By AI agents, Wed Nov 11 2026. No macro, syntax, notation, axiom, sorry.
-/
import Derived.Test.YtademfjpeoneiaaDoorRows
import GoSem.ClaimSeven
namespace Go.Proofs.YtademfjpeoneiaaDoor
namespace Rows

/-- THE TIED CARD OF 'relaylaw02.TimesMay'. -/
def timesMayCard : Claim7 := { stood := { row := timesMayRow, standIns := [], harness := (true, "a6b975a764e432e810925b2a0bf10193ef5c4e2597b8eadbe0e175f6012dd5a0"), looks := false }, kinds := [], alts := [], laidByText := true, laidKinds := [.data, .data, .data, .pinned, .pinned], laidTests := true, laidLooks := .later }
def TimesMayCardSaid : Prop := Claim7.holds Tryd.pinned (.plain (OpenSpec.ofChange timesMaySpec)) timesMayCard

/-- THE SECOND FORM's CARD OF 'relaylaw02.TimesMay'. -/
def timesMayUptoCard : Claim7 := { stood := { row := timesMayUptoRow, standIns := [], harness := (true, "a6b975a764e432e810925b2a0bf10193ef5c4e2597b8eadbe0e175f6012dd5a0"), looks := false }, kinds := [], alts := [], laidByText := true, laidKinds := [.data, .data, .data, .pinned, .pinned], laidTests := true, laidLooks := .later }
def TimesMayUptoCardSaid : Prop := Claim7.holds Tryd.pinned (.plain (OpenSpec.upto timesMaySpec)) timesMayUptoCard
end Rows
end Go.Proofs.YtademfjpeoneiaaDoor
