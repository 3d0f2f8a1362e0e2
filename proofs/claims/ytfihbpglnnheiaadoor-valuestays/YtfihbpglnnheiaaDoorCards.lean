/-
  DERIVED. GIVEN WITH THE SEED: THE CARDS: each row of YtfihbpglnnheiaaDoorRows.lean that lists a variable, with what it lists TIED to the program's text (the seventh form; the later family's looks); each row that meets fmt, with fmt's text TOLD by the authors' own Lean function (tested against real Go, not proved from fmt's source: count such statements apart). THE CARD IS WHAT COUNTS. Prove the row's statement (the work); the ties are given (YtfihbpglnnheiaaDoorTie.lean); close each card by the builder's one call (the guide's Derived/Test/ToyasCard.lean, 'card_holds'). Laid BY PROGRAM, IN A SANDBOX (cutbox-door.mjs). By AI agents, Wed Nov 11 2026. No macro, syntax, notation, axiom, sorry.
-/
import Derived.Test.YtfihbpglnnheiaaDoorRows
import GoSem.ClaimSeven
namespace Go.Proofs.YtfihbpglnnheiaaDoor
namespace Rows

/-- THE TIED CARD OF 'relaylaw01.ValueStays'. -/
def valueStaysCard : Claim7 := { stood := { row := valueStaysRow, standIns := [], harness := (true, "fcfb81d4d2577718c692c61f41375bc3d336a873f610d8bd38cfa12630ca8a5b"), looks := false }, kinds := [], alts := [], laidByText := true, laidKinds := [.data, .data, .data, .data, .pinned, .pinned], laidTests := true, laidLooks := .later }
def ValueStaysCardSaid : Prop := Claim7.holds Tryd.pinned (.plain (OpenSpec.ofChange valueStaysSpec)) valueStaysCard

/-- THE SECOND FORM's CARD OF 'relaylaw01.ValueStays'. -/
def valueStaysUptoCard : Claim7 := { stood := { row := valueStaysUptoRow, standIns := [], harness := (true, "fcfb81d4d2577718c692c61f41375bc3d336a873f610d8bd38cfa12630ca8a5b"), looks := false }, kinds := [], alts := [], laidByText := true, laidKinds := [.data, .data, .data, .data, .pinned, .pinned], laidTests := true, laidLooks := .later }
def ValueStaysUptoCardSaid : Prop := Claim7.holds Tryd.pinned (.plain (OpenSpec.upto valueStaysSpec)) valueStaysUptoCard
end Rows
end Go.Proofs.YtfihbpglnnheiaaDoor
