/-
  DERIVED. GIVEN WITH THE SEED: THE CARDS: each row of YtabbpdgamfoicabDoorRows.lean that lists a variable, with what it lists TIED to the program's text (the seventh form; the later family's looks); each row that meets fmt, with fmt's text TOLD by the authors' own Lean function (tested against real Go, not proved from fmt's source: count such statements apart). THE CARD IS WHAT COUNTS. Prove the row's statement (the work); the ties are given (YtabbpdgamfoicabDoorTie.lean); close each card by the builder's one call (the guide's Derived/Test/ToyasCard.lean, 'card_holds'). Laid BY PROGRAM, IN A SANDBOX (cutbox-door.mjs). By AI agents, Wed Nov 11 2026. No macro, syntax, notation, axiom, sorry.
-/
import Derived.Test.YtabbpdgamfoicabDoorRows
import GoSem.ClaimSeven
namespace Go.Proofs.YtabbpdgamfoicabDoor
namespace Rows

/-- THE TIED CARD OF 'twinrampartlaw1.TableActs'. -/
def tableActsCard : Claim7 := { stood := { row := tableActsRow, standIns := [], harness := (true, "08e36ca406bbc2e4868f2f6fb16aea2f5c67facd9c47a8abc2f4bd182b359b17"), looks := true }, kinds := [], alts := [], laidByText := true, laidKinds := [.handle, .sentinel, .sentinel, .sentinel, .sentinel, .sentinel, .sentinel, .sentinel, .sentinel, .sentinel, .sentinel, .sentinel], laidTests := true, laidLooks := .later }
def TableActsCardSaid : Prop := Claim7.holds Tryd.pinned (.plain (OpenSpec.ofChange tableActsSpec)) tableActsCard

/-- THE TIED CARD OF 'twinrampartlaw1.MirrorTurned'. -/
def mirrorTurnedCard : Claim7 := { stood := { row := mirrorTurnedRow, standIns := [], harness := (true, "08e36ca406bbc2e4868f2f6fb16aea2f5c67facd9c47a8abc2f4bd182b359b17"), looks := true }, kinds := [], alts := [], laidByText := true, laidKinds := [.sentinel, .sentinel], laidTests := true, laidLooks := .later }
def MirrorTurnedCardSaid : Prop := Claim7.holds Tryd.pinned (.plain (OpenSpec.ofChange mirrorTurnedSpec)) mirrorTurnedCard

/-- THE TIED CARD OF 'twinrampartlaw1.MirrorTells'. -/
def mirrorTellsCard : Claim7 := { stood := { row := mirrorTellsRow, standIns := [], harness := (true, "08e36ca406bbc2e4868f2f6fb16aea2f5c67facd9c47a8abc2f4bd182b359b17"), looks := true }, kinds := [], alts := [], laidByText := true, laidKinds := [.handle, .sentinel, .sentinel, .sentinel, .sentinel, .sentinel, .sentinel, .sentinel, .sentinel, .sentinel, .sentinel, .sentinel], laidTests := true, laidLooks := .later }
def MirrorTellsCardSaid : Prop := Claim7.holds Tryd.pinned (.plain (OpenSpec.ofChange mirrorTellsSpec)) mirrorTellsCard

/-- THE SECOND FORM's CARD OF 'twinrampartlaw1.TableActs'. -/
def tableActsUptoCard : Claim7 := { stood := { row := tableActsUptoRow, standIns := [], harness := (true, "08e36ca406bbc2e4868f2f6fb16aea2f5c67facd9c47a8abc2f4bd182b359b17"), looks := true }, kinds := [], alts := [], laidByText := true, laidKinds := [.handle, .sentinel, .sentinel, .sentinel, .sentinel, .sentinel, .sentinel, .sentinel, .sentinel, .sentinel, .sentinel, .sentinel], laidTests := true, laidLooks := .later }
def TableActsUptoCardSaid : Prop := Claim7.holds Tryd.pinned (.plain (OpenSpec.upto tableActsSpec)) tableActsUptoCard

/-- THE SECOND FORM's CARD OF 'twinrampartlaw1.MirrorTurned'. -/
def mirrorTurnedUptoCard : Claim7 := { stood := { row := mirrorTurnedUptoRow, standIns := [], harness := (true, "08e36ca406bbc2e4868f2f6fb16aea2f5c67facd9c47a8abc2f4bd182b359b17"), looks := true }, kinds := [], alts := [], laidByText := true, laidKinds := [.sentinel, .sentinel], laidTests := true, laidLooks := .later }
def MirrorTurnedUptoCardSaid : Prop := Claim7.holds Tryd.pinned (.plain (OpenSpec.upto mirrorTurnedSpec)) mirrorTurnedUptoCard

/-- THE SECOND FORM's CARD OF 'twinrampartlaw1.MirrorTells'. -/
def mirrorTellsUptoCard : Claim7 := { stood := { row := mirrorTellsUptoRow, standIns := [], harness := (true, "08e36ca406bbc2e4868f2f6fb16aea2f5c67facd9c47a8abc2f4bd182b359b17"), looks := true }, kinds := [], alts := [], laidByText := true, laidKinds := [.handle, .sentinel, .sentinel, .sentinel, .sentinel, .sentinel, .sentinel, .sentinel, .sentinel, .sentinel, .sentinel, .sentinel], laidTests := true, laidLooks := .later }
def MirrorTellsUptoCardSaid : Prop := Claim7.holds Tryd.pinned (.plain (OpenSpec.upto mirrorTellsSpec)) mirrorTellsUptoCard
end Rows
end Go.Proofs.YtabbpdgamfoicabDoor
