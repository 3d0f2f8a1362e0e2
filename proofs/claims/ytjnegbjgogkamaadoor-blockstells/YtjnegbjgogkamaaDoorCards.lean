/-
  DERIVED. GIVEN WITH THE SEED: THE CARDS: each row of YtjnegbjgogkamaaDoorRows.lean that lists a variable, with what it lists TIED to the program's text (the seventh form; the later family's looks); each row that meets fmt, with fmt's text TOLD by the authors' own Lean function (tested against real Go, not proved from fmt's source: count such statements apart). THE CARD IS WHAT COUNTS. Prove the row's statement (the work); the ties are given (YtjnegbjgogkamaaDoorTie.lean); close each card by the builder's one call (the guide's Derived/Test/ToyasCard.lean, 'card_holds'). Laid BY PROGRAM, IN A SANDBOX (cutbox-door.mjs). By AI agents, Wed Nov 11 2026. No macro, syntax, notation, axiom, sorry.
-/
import Derived.Test.YtjnegbjgogkamaaDoorRows
import GoSem.ClaimSeven
namespace Go.Proofs.YtjnegbjgogkamaaDoor
namespace Rows

/-- THE TIED CARD OF 'relaylaw10.BlocksTells'. -/
def blocksTellsCard : Claim7 := { stood := { row := blocksTellsRow, standIns := [], harness := (true, "25e70c5a78ee0586a3f76f535056dbfc73b1d5f8467cc660001d44cea8c18377"), looks := false }, kinds := [], alts := [], laidByText := true, laidKinds := [.listed, .data], laidTests := true, laidLooks := .later }
def BlocksTellsCardSaid : Prop := Claim7.holds Tryd.pinned (.plain (OpenSpec.ofChange blocksTellsSpec)) blocksTellsCard

/-- THE TIED CARD OF 'relaylaw10.BlocksLives'. -/
def blocksLivesCard : Claim7 := { stood := { row := blocksLivesRow, standIns := [], harness := (true, "25e70c5a78ee0586a3f76f535056dbfc73b1d5f8467cc660001d44cea8c18377"), looks := false }, kinds := [], alts := [], laidByText := true, laidKinds := [.listed, .data], laidTests := true, laidLooks := .later }
def BlocksLivesCardSaid : Prop := Claim7.holds Tryd.pinned (.plain (OpenSpec.ofChange blocksLivesSpec)) blocksLivesCard

/-- THE TIED CARD OF 'relaylaw10.BlocksEdges'. -/
def blocksEdgesCard : Claim7 := { stood := { row := blocksEdgesRow, standIns := [], harness := (true, "25e70c5a78ee0586a3f76f535056dbfc73b1d5f8467cc660001d44cea8c18377"), looks := false }, kinds := [], alts := [], laidByText := true, laidKinds := [.listed, .data], laidTests := true, laidLooks := .later }
def BlocksEdgesCardSaid : Prop := Claim7.holds Tryd.pinned (.plain (OpenSpec.ofChange blocksEdgesSpec)) blocksEdgesCard

/-- THE SECOND FORM's CARD OF 'relaylaw10.BlocksTells'. -/
def blocksTellsUptoCard : Claim7 := { stood := { row := blocksTellsUptoRow, standIns := [], harness := (true, "25e70c5a78ee0586a3f76f535056dbfc73b1d5f8467cc660001d44cea8c18377"), looks := false }, kinds := [], alts := [], laidByText := true, laidKinds := [.listed, .data], laidTests := true, laidLooks := .later }
def BlocksTellsUptoCardSaid : Prop := Claim7.holds Tryd.pinned (.plain (OpenSpec.upto blocksTellsSpec)) blocksTellsUptoCard

/-- THE SECOND FORM's CARD OF 'relaylaw10.BlocksLives'. -/
def blocksLivesUptoCard : Claim7 := { stood := { row := blocksLivesUptoRow, standIns := [], harness := (true, "25e70c5a78ee0586a3f76f535056dbfc73b1d5f8467cc660001d44cea8c18377"), looks := false }, kinds := [], alts := [], laidByText := true, laidKinds := [.listed, .data], laidTests := true, laidLooks := .later }
def BlocksLivesUptoCardSaid : Prop := Claim7.holds Tryd.pinned (.plain (OpenSpec.upto blocksLivesSpec)) blocksLivesUptoCard

/-- THE SECOND FORM's CARD OF 'relaylaw10.BlocksEdges'. -/
def blocksEdgesUptoCard : Claim7 := { stood := { row := blocksEdgesUptoRow, standIns := [], harness := (true, "25e70c5a78ee0586a3f76f535056dbfc73b1d5f8467cc660001d44cea8c18377"), looks := false }, kinds := [], alts := [], laidByText := true, laidKinds := [.listed, .data], laidTests := true, laidLooks := .later }
def BlocksEdgesUptoCardSaid : Prop := Claim7.holds Tryd.pinned (.plain (OpenSpec.upto blocksEdgesSpec)) blocksEdgesUptoCard
end Rows
end Go.Proofs.YtjnegbjgogkamaaDoor
