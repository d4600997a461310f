/-
  DERIVED. GIVEN WITH THE SEED: THE CARDS: each row of YtegihhjddnckgaaGreatDoorRows.lean that lists a variable, with what it lists TIED to the program's text (the seventh form; the later family's looks); each row that meets fmt, with fmt's text TOLD by the authors' own Lean function (tested against real Go, not proved from fmt's source: count such statements apart). THE CARD IS WHAT COUNTS. Prove the row's statement (the work); the ties are given (YtegihhjddnckgaaGreatDoorTie.lean); close each card by the builder's one call (the guide's Derived/Test/ToyasCard.lean, 'card_holds'). Laid BY PROGRAM, IN A SANDBOX (cutbox-door.mjs). By AI agents, Wed Nov 11 2026. No macro, syntax, notation, axiom, sorry.
-/
import Derived.Test.YtegihhjddnckgaaGreatDoorRows
import GoSem.ClaimSeven
namespace Go.Proofs.YtegihhjddnckgaaGreatDoor
namespace Rows

/-- THE TIED CARD OF 'twinrampartlaw3.WorldOne'. -/
def worldOneCard : Claim7 := { stood := { row := worldOneRow, standIns := [], harness := (true, "e3c068c78db1b92777b12d33a480f314f4bd38be1926a99b381d8eee9cdcf5e8"), looks := true }, kinds := [], alts := [], laidByText := true, laidKinds := [.sentinel, .sentinel, .sentinel, .sentinel, .sentinel, .sentinel, .sentinel, .sentinel, .sentinel, .sentinel], laidTests := true, laidLooks := .later }
def WorldOneCardSaid : Prop := Claim7.holds Tryz.pinned (.plain (OpenSpec.ofChange worldOneSpec)) worldOneCard

/-- THE SECOND FORM's CARD OF 'twinrampartlaw3.WorldOne'. -/
def worldOneUptoCard : Claim7 := { stood := { row := worldOneUptoRow, standIns := [], harness := (true, "e3c068c78db1b92777b12d33a480f314f4bd38be1926a99b381d8eee9cdcf5e8"), looks := true }, kinds := [], alts := [], laidByText := true, laidKinds := [.sentinel, .sentinel, .sentinel, .sentinel, .sentinel, .sentinel, .sentinel, .sentinel, .sentinel, .sentinel], laidTests := true, laidLooks := .later }
def WorldOneUptoCardSaid : Prop := Claim7.holds Tryz.pinned (.plain (OpenSpec.upto worldOneSpec)) worldOneUptoCard
end Rows
end Go.Proofs.YtegihhjddnckgaaGreatDoor
