/-
  DERIVED. GIVEN WITH THE SEED: THE CARDS: each row of YtlogpnanfamjeaaGreatDoorRows.lean that lists a variable, with what it lists TIED to the program's text (the seventh form; the later family's looks); each row that meets fmt, with fmt's text TOLD by the authors' own Lean function (tested against real Go, not proved from fmt's source: count such statements apart). THE CARD IS WHAT COUNTS. Prove the row's statement (the work); the ties are given (YtlogpnanfamjeaaGreatDoorTie.lean); close each card by the builder's one call (the guide's Derived/Test/ToyasCard.lean, 'card_holds'). Laid BY PROGRAM, IN A SANDBOX (cutbox-door.mjs). By AI agents, Wed Nov 11 2026. No macro, syntax, notation, axiom, sorry.
-/
import Derived.Test.YtlogpnanfamjeaaGreatDoorRows
import GoSem.ClaimSeven
namespace Go.Proofs.YtlogpnanfamjeaaGreatDoor
namespace Rows

/-- THE TIED CARD OF 'twinrampartlaw1.PacketCodes'. -/
def packetCodesCard : Claim7 := { stood := { row := packetCodesRow, standIns := [], harness := (true, "d6576a9f3546e71be561a9130d408158d7820d7b798c570f943fa42ec0d3840b"), looks := true }, kinds := [], alts := [], laidByText := true, laidKinds := [.data, .data, .data, .data, .handle, .sentinel, .sentinel, .sentinel, .sentinel, .sentinel, .sentinel, .sentinel, .sentinel, .sentinel, .sentinel, .sentinel, .sentinel, .sentinel, .data, .pinned], laidTests := true, laidLooks := .later }
def PacketCodesCardSaid : Prop := Claim7.holds Tryz.pinned (.plain (OpenSpec.ofChange packetCodesSpec)) packetCodesCard

/-- THE TIED CARD OF 'twinrampartlaw1.PacketReads'. -/
def packetReadsCard : Claim7 := { stood := { row := packetReadsRow, standIns := [], harness := (true, "d6576a9f3546e71be561a9130d408158d7820d7b798c570f943fa42ec0d3840b"), looks := true }, kinds := [], alts := [], laidByText := true, laidKinds := [.data, .data, .data, .data, .handle, .sentinel, .sentinel, .sentinel, .sentinel, .sentinel, .sentinel, .sentinel, .sentinel, .sentinel, .sentinel, .sentinel, .sentinel, .sentinel, .data, .pinned], laidTests := true, laidLooks := .later }
def PacketReadsCardSaid : Prop := Claim7.holds Tryz.pinned (.plain (OpenSpec.ofChange packetReadsSpec)) packetReadsCard

/-- THE SECOND FORM's CARD OF 'twinrampartlaw1.PacketCodes'. -/
def packetCodesUptoCard : Claim7 := { stood := { row := packetCodesUptoRow, standIns := [], harness := (true, "d6576a9f3546e71be561a9130d408158d7820d7b798c570f943fa42ec0d3840b"), looks := true }, kinds := [], alts := [], laidByText := true, laidKinds := [.data, .data, .data, .data, .handle, .sentinel, .sentinel, .sentinel, .sentinel, .sentinel, .sentinel, .sentinel, .sentinel, .sentinel, .sentinel, .sentinel, .sentinel, .sentinel, .data, .pinned], laidTests := true, laidLooks := .later }
def PacketCodesUptoCardSaid : Prop := Claim7.holds Tryz.pinned (.plain (OpenSpec.upto packetCodesSpec)) packetCodesUptoCard

/-- THE SECOND FORM's CARD OF 'twinrampartlaw1.PacketReads'. -/
def packetReadsUptoCard : Claim7 := { stood := { row := packetReadsUptoRow, standIns := [], harness := (true, "d6576a9f3546e71be561a9130d408158d7820d7b798c570f943fa42ec0d3840b"), looks := true }, kinds := [], alts := [], laidByText := true, laidKinds := [.data, .data, .data, .data, .handle, .sentinel, .sentinel, .sentinel, .sentinel, .sentinel, .sentinel, .sentinel, .sentinel, .sentinel, .sentinel, .sentinel, .sentinel, .sentinel, .data, .pinned], laidTests := true, laidLooks := .later }
def PacketReadsUptoCardSaid : Prop := Claim7.holds Tryz.pinned (.plain (OpenSpec.upto packetReadsSpec)) packetReadsUptoCard
end Rows
end Go.Proofs.YtlogpnanfamjeaaGreatDoor
