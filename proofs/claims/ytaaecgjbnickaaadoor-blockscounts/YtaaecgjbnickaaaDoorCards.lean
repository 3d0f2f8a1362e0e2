/-
  DERIVED. GIVEN WITH THE SEED: THE CARDS: each row of YtaaecgjbnickaaaDoorRows.lean that lists a variable, with what it lists TIED to the program's text (the seventh form; the later family's looks); each row that meets fmt, with fmt's text TOLD by the authors' own Lean function (tested against real Go, not proved from fmt's source: count such statements apart). THE CARD IS WHAT COUNTS. Prove the row's statement (the work); the ties are given (YtaaecgjbnickaaaDoorTie.lean); close each card by the builder's one call (the guide's Derived/Test/ToyasCard.lean, 'card_holds'). Laid BY PROGRAM, IN A SANDBOX (cutbox-door.mjs). By AI agents, Wed Nov 11 2026. No macro, syntax, notation, axiom, sorry.
-/
import Derived.Test.YtaaecgjbnickaaaDoorRows
import GoSem.ClaimSeven
namespace Go.Proofs.YtaaecgjbnickaaaDoor
namespace Rows

/-- THE TIED CARD OF 'relaylaw10.BlocksTells'. -/
def blocksTellsCard : Claim7 := { stood := { row := blocksTellsRow, standIns := [], harness := (true, "22e480620a31a6b39e3022b527e486fc7dd3009f694c7ac5d1fa99e6321fb44a"), looks := false }, kinds := [], alts := [], laidByText := true, laidKinds := [.listed, .data], laidTests := true, laidLooks := .later }
def BlocksTellsCardSaid : Prop := Claim7.holds Tryd.pinned (.plain (OpenSpec.ofChange blocksTellsSpec)) blocksTellsCard

/-- THE TIED CARD OF 'relaylaw10.BlocksLives'. -/
def blocksLivesCard : Claim7 := { stood := { row := blocksLivesRow, standIns := [], harness := (true, "22e480620a31a6b39e3022b527e486fc7dd3009f694c7ac5d1fa99e6321fb44a"), looks := false }, kinds := [], alts := [], laidByText := true, laidKinds := [.listed, .data], laidTests := true, laidLooks := .later }
def BlocksLivesCardSaid : Prop := Claim7.holds Tryd.pinned (.plain (OpenSpec.ofChange blocksLivesSpec)) blocksLivesCard

/-- THE TIED CARD OF 'relaylaw10.BlocksEdges'. -/
def blocksEdgesCard : Claim7 := { stood := { row := blocksEdgesRow, standIns := [], harness := (true, "22e480620a31a6b39e3022b527e486fc7dd3009f694c7ac5d1fa99e6321fb44a"), looks := false }, kinds := [], alts := [], laidByText := true, laidKinds := [.listed, .data], laidTests := true, laidLooks := .later }
def BlocksEdgesCardSaid : Prop := Claim7.holds Tryd.pinned (.plain (OpenSpec.ofChange blocksEdgesSpec)) blocksEdgesCard

/-- THE TIED CARD OF 'relaylaw10.BlocksCounts'. -/
def blocksCountsCard : Claim7 := { stood := { row := blocksCountsRow, standIns := [], harness := (true, "22e480620a31a6b39e3022b527e486fc7dd3009f694c7ac5d1fa99e6321fb44a"), looks := false }, kinds := [], alts := [], laidByText := true, laidKinds := [.listed, .data], laidTests := true, laidLooks := .later }
def BlocksCountsCardSaid : Prop := Claim7.holds Tryd.pinned (.plain (OpenSpec.ofChange blocksCountsSpec)) blocksCountsCard

/-- THE SECOND FORM's CARD OF 'relaylaw10.BlocksTells'. -/
def blocksTellsUptoCard : Claim7 := { stood := { row := blocksTellsUptoRow, standIns := [], harness := (true, "22e480620a31a6b39e3022b527e486fc7dd3009f694c7ac5d1fa99e6321fb44a"), looks := false }, kinds := [], alts := [], laidByText := true, laidKinds := [.listed, .data], laidTests := true, laidLooks := .later }
def BlocksTellsUptoCardSaid : Prop := Claim7.holds Tryd.pinned (.plain (OpenSpec.upto blocksTellsSpec)) blocksTellsUptoCard

/-- THE SECOND FORM's CARD OF 'relaylaw10.BlocksLives'. -/
def blocksLivesUptoCard : Claim7 := { stood := { row := blocksLivesUptoRow, standIns := [], harness := (true, "22e480620a31a6b39e3022b527e486fc7dd3009f694c7ac5d1fa99e6321fb44a"), looks := false }, kinds := [], alts := [], laidByText := true, laidKinds := [.listed, .data], laidTests := true, laidLooks := .later }
def BlocksLivesUptoCardSaid : Prop := Claim7.holds Tryd.pinned (.plain (OpenSpec.upto blocksLivesSpec)) blocksLivesUptoCard

/-- THE SECOND FORM's CARD OF 'relaylaw10.BlocksEdges'. -/
def blocksEdgesUptoCard : Claim7 := { stood := { row := blocksEdgesUptoRow, standIns := [], harness := (true, "22e480620a31a6b39e3022b527e486fc7dd3009f694c7ac5d1fa99e6321fb44a"), looks := false }, kinds := [], alts := [], laidByText := true, laidKinds := [.listed, .data], laidTests := true, laidLooks := .later }
def BlocksEdgesUptoCardSaid : Prop := Claim7.holds Tryd.pinned (.plain (OpenSpec.upto blocksEdgesSpec)) blocksEdgesUptoCard

/-- THE SECOND FORM's CARD OF 'relaylaw10.BlocksCounts'. -/
def blocksCountsUptoCard : Claim7 := { stood := { row := blocksCountsUptoRow, standIns := [], harness := (true, "22e480620a31a6b39e3022b527e486fc7dd3009f694c7ac5d1fa99e6321fb44a"), looks := false }, kinds := [], alts := [], laidByText := true, laidKinds := [.listed, .data], laidTests := true, laidLooks := .later }
def BlocksCountsUptoCardSaid : Prop := Claim7.holds Tryd.pinned (.plain (OpenSpec.upto blocksCountsSpec)) blocksCountsUptoCard
end Rows
end Go.Proofs.YtaaecgjbnickaaaDoor
