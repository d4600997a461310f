/-
  DERIVED. GIVEN WITH THE SEED: THE CARDS: each row of YtifkbafdjkgnoaaDoorRows.lean that lists a variable, with what it lists TIED to the program's text (the seventh form; the later family's looks); each row that meets fmt, with fmt's text TOLD by the authors' own Lean function (tested against real Go, not proved from fmt's source: count such statements apart). THE CARD IS WHAT COUNTS. Prove the row's statement (the work); the ties are given (YtifkbafdjkgnoaaDoorTie.lean); close each card by the builder's one call (the guide's Derived/Test/ToyasCard.lean, 'card_holds'). Laid BY PROGRAM, IN A SANDBOX (cutbox-door.mjs). By AI agents, Wed Nov 11 2026. No macro, syntax, notation, axiom, sorry.
-/
import Derived.Test.YtifkbafdjkgnoaaDoorRows
import GoSem.ClaimSeven
namespace Go.Proofs.YtifkbafdjkgnoaaDoor
namespace Rows

/-- THE TIED CARD OF 'twinrampartlaw1.TellerAll'. -/
def tellerAllCard : Claim7 := { stood := { row := tellerAllRow, standIns := [], harness := (true, "ff9965fa1bc456e078b37555e4f001d89d3e448037827f5cba0b65773f318450"), looks := false }, kinds := [], alts := [], laidByText := true, laidKinds := [.sentinel, .sentinel, .sentinel, .sentinel, .sentinel], laidTests := true, laidLooks := .later }
def TellerAllCardSaid : Prop := Claim7.holds Tryd.pinned (.plain (OpenSpec.ofChange tellerAllSpec)) tellerAllCard

/-- THE TIED CARD OF 'twinrampartlaw1.TellerNext'. -/
def tellerNextCard : Claim7 := { stood := { row := tellerNextRow, standIns := [], harness := (true, "ff9965fa1bc456e078b37555e4f001d89d3e448037827f5cba0b65773f318450"), looks := false }, kinds := [], alts := [], laidByText := true, laidKinds := [.sentinel, .sentinel, .sentinel, .sentinel], laidTests := true, laidLooks := .later }
def TellerNextCardSaid : Prop := Claim7.holds Tryd.pinned (.plain (OpenSpec.ofChange tellerNextSpec)) tellerNextCard

/-- THE TIED CARD OF 'twinrampartlaw1.TellerSoon'. -/
def tellerSoonCard : Claim7 := { stood := { row := tellerSoonRow, standIns := [], harness := (true, "ff9965fa1bc456e078b37555e4f001d89d3e448037827f5cba0b65773f318450"), looks := false }, kinds := [], alts := [], laidByText := true, laidKinds := [.sentinel, .sentinel, .sentinel, .sentinel], laidTests := true, laidLooks := .later }
def TellerSoonCardSaid : Prop := Claim7.holds Tryd.pinned (.plain (OpenSpec.ofChange tellerSoonSpec)) tellerSoonCard

/-- THE SECOND FORM's CARD OF 'twinrampartlaw1.TellerAll'. -/
def tellerAllUptoCard : Claim7 := { stood := { row := tellerAllUptoRow, standIns := [], harness := (true, "ff9965fa1bc456e078b37555e4f001d89d3e448037827f5cba0b65773f318450"), looks := false }, kinds := [], alts := [], laidByText := true, laidKinds := [.sentinel, .sentinel, .sentinel, .sentinel, .sentinel], laidTests := true, laidLooks := .later }
def TellerAllUptoCardSaid : Prop := Claim7.holds Tryd.pinned (.plain (OpenSpec.upto tellerAllSpec)) tellerAllUptoCard

/-- THE SECOND FORM's CARD OF 'twinrampartlaw1.TellerNext'. -/
def tellerNextUptoCard : Claim7 := { stood := { row := tellerNextUptoRow, standIns := [], harness := (true, "ff9965fa1bc456e078b37555e4f001d89d3e448037827f5cba0b65773f318450"), looks := false }, kinds := [], alts := [], laidByText := true, laidKinds := [.sentinel, .sentinel, .sentinel, .sentinel], laidTests := true, laidLooks := .later }
def TellerNextUptoCardSaid : Prop := Claim7.holds Tryd.pinned (.plain (OpenSpec.upto tellerNextSpec)) tellerNextUptoCard

/-- THE SECOND FORM's CARD OF 'twinrampartlaw1.TellerSoon'. -/
def tellerSoonUptoCard : Claim7 := { stood := { row := tellerSoonUptoRow, standIns := [], harness := (true, "ff9965fa1bc456e078b37555e4f001d89d3e448037827f5cba0b65773f318450"), looks := false }, kinds := [], alts := [], laidByText := true, laidKinds := [.sentinel, .sentinel, .sentinel, .sentinel], laidTests := true, laidLooks := .later }
def TellerSoonUptoCardSaid : Prop := Claim7.holds Tryd.pinned (.plain (OpenSpec.upto tellerSoonSpec)) tellerSoonUptoCard
end Rows
end Go.Proofs.YtifkbafdjkgnoaaDoor
