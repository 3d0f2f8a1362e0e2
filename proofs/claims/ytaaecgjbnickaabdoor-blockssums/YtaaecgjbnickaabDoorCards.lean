/-
  DERIVED. GIVEN WITH THE SEED: THE CARDS: each row of YtaaecgjbnickaabDoorRows.lean that lists a variable, with what it lists TIED to the program's text (the seventh form; the later family's looks); each row that meets fmt, with fmt's text TOLD by the authors' own Lean function (tested against real Go, not proved from fmt's source: count such statements apart). THE CARD IS WHAT COUNTS. Prove the row's statement (the work); the ties are given (YtaaecgjbnickaabDoorTie.lean); close each card by the builder's one call (the guide's Derived/Test/ToyasCard.lean, 'card_holds'). Laid BY PROGRAM, IN A SANDBOX (cutbox-door.mjs). By AI agents, Wed Nov 11 2026. No macro, syntax, notation, axiom, sorry.
-/
import Derived.Test.YtaaecgjbnickaabDoorRows
import GoSem.ClaimSeven
namespace Go.Proofs.YtaaecgjbnickaabDoor
namespace Rows

/-- THE TIED CARD OF 'relaylaw10.BlocksSums'. -/
def blocksSumsCard : Claim7 := { stood := { row := blocksSumsRow, standIns := [], harness := (true, "2bc1beed4253d2ff1f43974bf2eafbe6f11bb5962f2e96de7f0810dc18eb0f4b"), looks := false }, kinds := [], alts := [], laidByText := true, laidKinds := [.listed, .data], laidTests := true, laidLooks := .later }
def BlocksSumsCardSaid : Prop := Claim7.holds Tryd.pinned (.plain (OpenSpec.ofChange blocksSumsSpec)) blocksSumsCard

/-- THE TIED CARD OF 'relaylaw10.BlocksDelays'. -/
def blocksDelaysCard : Claim7 := { stood := { row := blocksDelaysRow, standIns := [], harness := (true, "2bc1beed4253d2ff1f43974bf2eafbe6f11bb5962f2e96de7f0810dc18eb0f4b"), looks := false }, kinds := [], alts := [], laidByText := true, laidKinds := [.listed, .data], laidTests := true, laidLooks := .later }
def BlocksDelaysCardSaid : Prop := Claim7.holds Tryd.pinned (.plain (OpenSpec.ofChange blocksDelaysSpec)) blocksDelaysCard

/-- THE TIED CARD OF 'relaylaw10.BlocksPulses'. -/
def blocksPulsesCard : Claim7 := { stood := { row := blocksPulsesRow, standIns := [], harness := (true, "2bc1beed4253d2ff1f43974bf2eafbe6f11bb5962f2e96de7f0810dc18eb0f4b"), looks := false }, kinds := [], alts := [], laidByText := true, laidKinds := [.listed, .data], laidTests := true, laidLooks := .later }
def BlocksPulsesCardSaid : Prop := Claim7.holds Tryd.pinned (.plain (OpenSpec.ofChange blocksPulsesSpec)) blocksPulsesCard

/-- THE TIED CARD OF 'relaylaw10.BlocksElapsed'. -/
def blocksElapsedCard : Claim7 := { stood := { row := blocksElapsedRow, standIns := [], harness := (true, "2bc1beed4253d2ff1f43974bf2eafbe6f11bb5962f2e96de7f0810dc18eb0f4b"), looks := false }, kinds := [], alts := [], laidByText := true, laidKinds := [.listed, .data], laidTests := true, laidLooks := .later }
def BlocksElapsedCardSaid : Prop := Claim7.holds Tryd.pinned (.plain (OpenSpec.ofChange blocksElapsedSpec)) blocksElapsedCard

/-- THE SECOND FORM's CARD OF 'relaylaw10.BlocksSums'. -/
def blocksSumsUptoCard : Claim7 := { stood := { row := blocksSumsUptoRow, standIns := [], harness := (true, "2bc1beed4253d2ff1f43974bf2eafbe6f11bb5962f2e96de7f0810dc18eb0f4b"), looks := false }, kinds := [], alts := [], laidByText := true, laidKinds := [.listed, .data], laidTests := true, laidLooks := .later }
def BlocksSumsUptoCardSaid : Prop := Claim7.holds Tryd.pinned (.plain (OpenSpec.upto blocksSumsSpec)) blocksSumsUptoCard

/-- THE SECOND FORM's CARD OF 'relaylaw10.BlocksDelays'. -/
def blocksDelaysUptoCard : Claim7 := { stood := { row := blocksDelaysUptoRow, standIns := [], harness := (true, "2bc1beed4253d2ff1f43974bf2eafbe6f11bb5962f2e96de7f0810dc18eb0f4b"), looks := false }, kinds := [], alts := [], laidByText := true, laidKinds := [.listed, .data], laidTests := true, laidLooks := .later }
def BlocksDelaysUptoCardSaid : Prop := Claim7.holds Tryd.pinned (.plain (OpenSpec.upto blocksDelaysSpec)) blocksDelaysUptoCard

/-- THE SECOND FORM's CARD OF 'relaylaw10.BlocksPulses'. -/
def blocksPulsesUptoCard : Claim7 := { stood := { row := blocksPulsesUptoRow, standIns := [], harness := (true, "2bc1beed4253d2ff1f43974bf2eafbe6f11bb5962f2e96de7f0810dc18eb0f4b"), looks := false }, kinds := [], alts := [], laidByText := true, laidKinds := [.listed, .data], laidTests := true, laidLooks := .later }
def BlocksPulsesUptoCardSaid : Prop := Claim7.holds Tryd.pinned (.plain (OpenSpec.upto blocksPulsesSpec)) blocksPulsesUptoCard

/-- THE SECOND FORM's CARD OF 'relaylaw10.BlocksElapsed'. -/
def blocksElapsedUptoCard : Claim7 := { stood := { row := blocksElapsedUptoRow, standIns := [], harness := (true, "2bc1beed4253d2ff1f43974bf2eafbe6f11bb5962f2e96de7f0810dc18eb0f4b"), looks := false }, kinds := [], alts := [], laidByText := true, laidKinds := [.listed, .data], laidTests := true, laidLooks := .later }
def BlocksElapsedUptoCardSaid : Prop := Claim7.holds Tryd.pinned (.plain (OpenSpec.upto blocksElapsedSpec)) blocksElapsedUptoCard
end Rows
end Go.Proofs.YtaaecgjbnickaabDoor
