/-
  DERIVED. GIVEN WITH THE SEED: THE CARDS: each row of YtenonidmgpmohaaGreatDoorRows.lean that lists a variable, with what it lists TIED to the program's text (the seventh form; the later family's looks); each row that meets fmt, with fmt's text TOLD by the authors' own Lean function (tested against real Go, not proved from fmt's source: count such statements apart). THE CARD IS WHAT COUNTS. Prove the row's statement (the work); the ties are given (YtenonidmgpmohaaGreatDoorTie.lean); close each card by the builder's one call (the guide's Derived/Test/ToyasCard.lean, 'card_holds'). Laid BY PROGRAM, IN A SANDBOX (cutbox-door.mjs). By AI agents, Wed Nov 11 2026. No macro, syntax, notation, axiom, sorry.
-/
import Derived.Test.YtenonidmgpmohaaGreatDoorRows
import GoSem.ClaimSeven
namespace Go.Proofs.YtenonidmgpmohaaGreatDoor
namespace Rows

/-- THE TIED CARD OF 'twinrampartlaw3.WorldMirrors'. -/
def worldMirrorsCard : Claim7 := { stood := { row := worldMirrorsRow, standIns := [], harness := (true, "6cf0bd124229ba1847c64c1c3aa48e9a0899e7e363e4d1377bfbd407439954f8"), looks := true }, kinds := [], alts := [], laidByText := true, laidKinds := [.sentinel, .sentinel, .sentinel, .sentinel, .sentinel, .sentinel, .sentinel, .sentinel, .sentinel, .sentinel], laidTests := true, laidLooks := .later }
def WorldMirrorsCardSaid : Prop := Claim7.holds Tryz.pinned (.plain (OpenSpec.ofChange worldMirrorsSpec)) worldMirrorsCard

/-- THE SECOND FORM's CARD OF 'twinrampartlaw3.WorldMirrors'. -/
def worldMirrorsUptoCard : Claim7 := { stood := { row := worldMirrorsUptoRow, standIns := [], harness := (true, "6cf0bd124229ba1847c64c1c3aa48e9a0899e7e363e4d1377bfbd407439954f8"), looks := true }, kinds := [], alts := [], laidByText := true, laidKinds := [.sentinel, .sentinel, .sentinel, .sentinel, .sentinel, .sentinel, .sentinel, .sentinel, .sentinel, .sentinel], laidTests := true, laidLooks := .later }
def WorldMirrorsUptoCardSaid : Prop := Claim7.holds Tryz.pinned (.plain (OpenSpec.upto worldMirrorsSpec)) worldMirrorsUptoCard
end Rows
end Go.Proofs.YtenonidmgpmohaaGreatDoor
