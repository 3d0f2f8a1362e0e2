/-
  DERIVED. GIVEN WITH THE SEED: THE CARDS: each row of YtpdnlojennhmpaaDoorRows.lean that lists a variable, with what it lists TIED to the program's text (the seventh form; the later family's looks); each row that meets fmt, with fmt's text TOLD by the authors' own Lean function (tested against real Go, not proved from fmt's source: count such statements apart). THE CARD IS WHAT COUNTS. Prove the row's statement (the work); the ties are given (YtpdnlojennhmpaaDoorTie.lean); close each card by the builder's one call (the guide's Derived/Test/ToyasCard.lean, 'card_holds'). Laid BY PROGRAM, IN A SANDBOX (cutbox-door.mjs). By AI agents, Wed Nov 11 2026. No macro, syntax, notation, axiom, sorry.
-/
import Derived.Test.YtpdnlojennhmpaaDoorRows
import GoSem.ClaimSeven
namespace Go.Proofs.YtpdnlojennhmpaaDoor
namespace Rows

/-- THE TIED CARD OF 'relaylaw02.TimesParses'. -/
def timesParsesCard : Claim7 := { stood := { row := timesParsesRow, standIns := [], harness := (true, "68f02a53d4f27e2c51e36df276df53fbfc9f806ff9b61232f184973619fe422b"), looks := false }, kinds := [], alts := [], laidByText := true, laidKinds := [.data, .data, .data, .pinned, .pinned], laidTests := true, laidLooks := .later }
def TimesParsesCardSaid : Prop := Claim7.holds Tryd.pinned (.plain (OpenSpec.ofChange timesParsesSpec)) timesParsesCard

/-- THE SECOND FORM's CARD OF 'relaylaw02.TimesParses'. -/
def timesParsesUptoCard : Claim7 := { stood := { row := timesParsesUptoRow, standIns := [], harness := (true, "68f02a53d4f27e2c51e36df276df53fbfc9f806ff9b61232f184973619fe422b"), looks := false }, kinds := [], alts := [], laidByText := true, laidKinds := [.data, .data, .data, .pinned, .pinned], laidTests := true, laidLooks := .later }
def TimesParsesUptoCardSaid : Prop := Claim7.holds Tryd.pinned (.plain (OpenSpec.upto timesParsesSpec)) timesParsesUptoCard
end Rows
end Go.Proofs.YtpdnlojennhmpaaDoor
