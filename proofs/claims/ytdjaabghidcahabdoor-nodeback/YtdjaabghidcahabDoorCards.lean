/-
  DERIVED. GIVEN WITH THE SEED: THE CARDS: each row of YtdjaabghidcahabDoorRows.lean that lists a variable, with what it lists TIED to the program's text (the seventh form; the later family's looks); each row that meets fmt, with fmt's text TOLD by the authors' own Lean function (tested against real Go, not proved from fmt's source: count such statements apart). THE CARD IS WHAT COUNTS. Prove the row's statement (the work); the ties are given (YtdjaabghidcahabDoorTie.lean); close each card by the builder's one call (the guide's Derived/Test/ToyasCard.lean, 'card_holds'). Laid BY PROGRAM, IN A SANDBOX (cutbox-door.mjs). By AI agents, Wed Nov 11 2026. No macro, syntax, notation, axiom, sorry.
-/
import Derived.Test.YtdjaabghidcahabDoorRows
import GoSem.ClaimSeven
namespace Go.Proofs.YtdjaabghidcahabDoor
namespace Rows

/-- THE TIED CARD OF 'twinrampartlaw1.TableActs'. -/
def tableActsCard : Claim7 := { stood := { row := tableActsRow, standIns := [], harness := (true, "e3da8e1ddebc32b740bf745286f973a7c6051d29329db7094f1354e2cdf4f906"), looks := true }, kinds := [], alts := [], laidByText := true, laidKinds := [.handle, .sentinel, .sentinel, .sentinel, .sentinel, .sentinel, .sentinel, .sentinel, .sentinel, .sentinel, .sentinel, .sentinel], laidTests := true, laidLooks := .later }
def TableActsCardSaid : Prop := Claim7.holds Tryd.pinned (.plain (OpenSpec.ofChange tableActsSpec)) tableActsCard

/-- THE TIED CARD OF 'twinrampartlaw1.MirrorTurned'. -/
def mirrorTurnedCard : Claim7 := { stood := { row := mirrorTurnedRow, standIns := [], harness := (true, "e3da8e1ddebc32b740bf745286f973a7c6051d29329db7094f1354e2cdf4f906"), looks := true }, kinds := [], alts := [], laidByText := true, laidKinds := [.sentinel, .sentinel], laidTests := true, laidLooks := .later }
def MirrorTurnedCardSaid : Prop := Claim7.holds Tryd.pinned (.plain (OpenSpec.ofChange mirrorTurnedSpec)) mirrorTurnedCard

/-- THE TIED CARD OF 'twinrampartlaw1.MirrorTells'. -/
def mirrorTellsCard : Claim7 := { stood := { row := mirrorTellsRow, standIns := [], harness := (true, "e3da8e1ddebc32b740bf745286f973a7c6051d29329db7094f1354e2cdf4f906"), looks := true }, kinds := [], alts := [], laidByText := true, laidKinds := [.handle, .sentinel, .sentinel, .sentinel, .sentinel, .sentinel, .sentinel, .sentinel, .sentinel, .sentinel, .sentinel, .sentinel], laidTests := true, laidLooks := .later }
def MirrorTellsCardSaid : Prop := Claim7.holds Tryd.pinned (.plain (OpenSpec.ofChange mirrorTellsSpec)) mirrorTellsCard

/-- THE TIED CARD OF 'twinrampartlaw1.TellerAll'. -/
def tellerAllCard : Claim7 := { stood := { row := tellerAllRow, standIns := [], harness := (true, "e3da8e1ddebc32b740bf745286f973a7c6051d29329db7094f1354e2cdf4f906"), looks := true }, kinds := [], alts := [], laidByText := true, laidKinds := [.sentinel, .sentinel, .sentinel, .sentinel, .sentinel], laidTests := true, laidLooks := .later }
def TellerAllCardSaid : Prop := Claim7.holds Tryd.pinned (.plain (OpenSpec.ofChange tellerAllSpec)) tellerAllCard

/-- THE TIED CARD OF 'twinrampartlaw1.TellerNext'. -/
def tellerNextCard : Claim7 := { stood := { row := tellerNextRow, standIns := [], harness := (true, "e3da8e1ddebc32b740bf745286f973a7c6051d29329db7094f1354e2cdf4f906"), looks := true }, kinds := [], alts := [], laidByText := true, laidKinds := [.sentinel, .sentinel, .sentinel, .sentinel], laidTests := true, laidLooks := .later }
def TellerNextCardSaid : Prop := Claim7.holds Tryd.pinned (.plain (OpenSpec.ofChange tellerNextSpec)) tellerNextCard

/-- THE TIED CARD OF 'twinrampartlaw1.TellerSoon'. -/
def tellerSoonCard : Claim7 := { stood := { row := tellerSoonRow, standIns := [], harness := (true, "e3da8e1ddebc32b740bf745286f973a7c6051d29329db7094f1354e2cdf4f906"), looks := true }, kinds := [], alts := [], laidByText := true, laidKinds := [.sentinel, .sentinel, .sentinel, .sentinel], laidTests := true, laidLooks := .later }
def TellerSoonCardSaid : Prop := Claim7.holds Tryd.pinned (.plain (OpenSpec.ofChange tellerSoonSpec)) tellerSoonCard

/-- THE TIED CARD OF 'twinrampartlaw2.CellCuts'. -/
def cellCutsCard : Claim7 := { stood := { row := cellCutsRow, standIns := [], harness := (true, "e3da8e1ddebc32b740bf745286f973a7c6051d29329db7094f1354e2cdf4f906"), looks := true }, kinds := [], alts := [], laidByText := true, laidKinds := [.handle, .sentinel, .sentinel, .sentinel, .sentinel, .sentinel, .sentinel, .sentinel, .sentinel, .sentinel, .sentinel, .sentinel], laidTests := true, laidLooks := .later }
def CellCutsCardSaid : Prop := Claim7.holds Tryd.pinned (.plain (OpenSpec.ofChange cellCutsSpec)) cellCutsCard

/-- THE TIED CARD OF 'twinrampartlaw2.CellActs'. -/
def cellActsCard : Claim7 := { stood := { row := cellActsRow, standIns := [], harness := (true, "e3da8e1ddebc32b740bf745286f973a7c6051d29329db7094f1354e2cdf4f906"), looks := true }, kinds := [], alts := [], laidByText := true, laidKinds := [.handle, .sentinel, .sentinel, .sentinel, .sentinel, .sentinel, .sentinel, .sentinel, .sentinel, .sentinel, .sentinel, .sentinel], laidTests := true, laidLooks := .later }
def CellActsCardSaid : Prop := Claim7.holds Tryd.pinned (.plain (OpenSpec.ofChange cellActsSpec)) cellActsCard

/-- THE TIED CARD OF 'twinrampartlaw2.RoleApart'. -/
def roleApartCard : Claim7 := { stood := { row := roleApartRow, standIns := [], harness := (true, "e3da8e1ddebc32b740bf745286f973a7c6051d29329db7094f1354e2cdf4f906"), looks := true }, kinds := [], alts := [], laidByText := true, laidKinds := [.sentinel, .sentinel, .sentinel], laidTests := true, laidLooks := .later }
def RoleApartCardSaid : Prop := Claim7.holds Tryd.pinned (.plain (OpenSpec.ofChange roleApartSpec)) roleApartCard

/-- THE TIED CARD OF 'twinrampartlaw2.RoleSilence'. -/
def roleSilenceCard : Claim7 := { stood := { row := roleSilenceRow, standIns := [], harness := (true, "e3da8e1ddebc32b740bf745286f973a7c6051d29329db7094f1354e2cdf4f906"), looks := true }, kinds := [], alts := [], laidByText := true, laidKinds := [.sentinel, .sentinel, .sentinel], laidTests := true, laidLooks := .later }
def RoleSilenceCardSaid : Prop := Claim7.holds Tryd.pinned (.plain (OpenSpec.ofChange roleSilenceSpec)) roleSilenceCard

/-- THE TIED CARD OF 'twinrampartlaw2.RoleActs'. -/
def roleActsCard : Claim7 := { stood := { row := roleActsRow, standIns := [], harness := (true, "e3da8e1ddebc32b740bf745286f973a7c6051d29329db7094f1354e2cdf4f906"), looks := true }, kinds := [], alts := [], laidByText := true, laidKinds := [.handle, .sentinel, .sentinel, .sentinel, .sentinel, .sentinel, .sentinel, .sentinel, .sentinel, .sentinel, .sentinel, .sentinel], laidTests := true, laidLooks := .later }
def RoleActsCardSaid : Prop := Claim7.holds Tryd.pinned (.plain (OpenSpec.ofChange roleActsSpec)) roleActsCard

/-- THE TIED CARD OF 'twinrampartlaw2.NodeBack'. -/
def nodeBackCard : Claim7 := { stood := { row := nodeBackRow, standIns := [], harness := (true, "e3da8e1ddebc32b740bf745286f973a7c6051d29329db7094f1354e2cdf4f906"), looks := true }, kinds := [], alts := [], laidByText := true, laidKinds := [.sentinel, .sentinel, .sentinel, .sentinel, .sentinel, .sentinel, .sentinel, .sentinel, .sentinel, .sentinel], laidTests := true, laidLooks := .later }
def NodeBackCardSaid : Prop := Claim7.holds Tryd.pinned (.plain (OpenSpec.ofChange nodeBackSpec)) nodeBackCard

/-- THE SECOND FORM's CARD OF 'twinrampartlaw1.TableActs'. -/
def tableActsUptoCard : Claim7 := { stood := { row := tableActsUptoRow, standIns := [], harness := (true, "e3da8e1ddebc32b740bf745286f973a7c6051d29329db7094f1354e2cdf4f906"), looks := true }, kinds := [], alts := [], laidByText := true, laidKinds := [.handle, .sentinel, .sentinel, .sentinel, .sentinel, .sentinel, .sentinel, .sentinel, .sentinel, .sentinel, .sentinel, .sentinel], laidTests := true, laidLooks := .later }
def TableActsUptoCardSaid : Prop := Claim7.holds Tryd.pinned (.plain (OpenSpec.upto tableActsSpec)) tableActsUptoCard

/-- THE SECOND FORM's CARD OF 'twinrampartlaw1.MirrorTurned'. -/
def mirrorTurnedUptoCard : Claim7 := { stood := { row := mirrorTurnedUptoRow, standIns := [], harness := (true, "e3da8e1ddebc32b740bf745286f973a7c6051d29329db7094f1354e2cdf4f906"), looks := true }, kinds := [], alts := [], laidByText := true, laidKinds := [.sentinel, .sentinel], laidTests := true, laidLooks := .later }
def MirrorTurnedUptoCardSaid : Prop := Claim7.holds Tryd.pinned (.plain (OpenSpec.upto mirrorTurnedSpec)) mirrorTurnedUptoCard

/-- THE SECOND FORM's CARD OF 'twinrampartlaw1.MirrorTells'. -/
def mirrorTellsUptoCard : Claim7 := { stood := { row := mirrorTellsUptoRow, standIns := [], harness := (true, "e3da8e1ddebc32b740bf745286f973a7c6051d29329db7094f1354e2cdf4f906"), looks := true }, kinds := [], alts := [], laidByText := true, laidKinds := [.handle, .sentinel, .sentinel, .sentinel, .sentinel, .sentinel, .sentinel, .sentinel, .sentinel, .sentinel, .sentinel, .sentinel], laidTests := true, laidLooks := .later }
def MirrorTellsUptoCardSaid : Prop := Claim7.holds Tryd.pinned (.plain (OpenSpec.upto mirrorTellsSpec)) mirrorTellsUptoCard

/-- THE SECOND FORM's CARD OF 'twinrampartlaw1.TellerAll'. -/
def tellerAllUptoCard : Claim7 := { stood := { row := tellerAllUptoRow, standIns := [], harness := (true, "e3da8e1ddebc32b740bf745286f973a7c6051d29329db7094f1354e2cdf4f906"), looks := true }, kinds := [], alts := [], laidByText := true, laidKinds := [.sentinel, .sentinel, .sentinel, .sentinel, .sentinel], laidTests := true, laidLooks := .later }
def TellerAllUptoCardSaid : Prop := Claim7.holds Tryd.pinned (.plain (OpenSpec.upto tellerAllSpec)) tellerAllUptoCard

/-- THE SECOND FORM's CARD OF 'twinrampartlaw1.TellerNext'. -/
def tellerNextUptoCard : Claim7 := { stood := { row := tellerNextUptoRow, standIns := [], harness := (true, "e3da8e1ddebc32b740bf745286f973a7c6051d29329db7094f1354e2cdf4f906"), looks := true }, kinds := [], alts := [], laidByText := true, laidKinds := [.sentinel, .sentinel, .sentinel, .sentinel], laidTests := true, laidLooks := .later }
def TellerNextUptoCardSaid : Prop := Claim7.holds Tryd.pinned (.plain (OpenSpec.upto tellerNextSpec)) tellerNextUptoCard

/-- THE SECOND FORM's CARD OF 'twinrampartlaw1.TellerSoon'. -/
def tellerSoonUptoCard : Claim7 := { stood := { row := tellerSoonUptoRow, standIns := [], harness := (true, "e3da8e1ddebc32b740bf745286f973a7c6051d29329db7094f1354e2cdf4f906"), looks := true }, kinds := [], alts := [], laidByText := true, laidKinds := [.sentinel, .sentinel, .sentinel, .sentinel], laidTests := true, laidLooks := .later }
def TellerSoonUptoCardSaid : Prop := Claim7.holds Tryd.pinned (.plain (OpenSpec.upto tellerSoonSpec)) tellerSoonUptoCard

/-- THE SECOND FORM's CARD OF 'twinrampartlaw2.CellCuts'. -/
def cellCutsUptoCard : Claim7 := { stood := { row := cellCutsUptoRow, standIns := [], harness := (true, "e3da8e1ddebc32b740bf745286f973a7c6051d29329db7094f1354e2cdf4f906"), looks := true }, kinds := [], alts := [], laidByText := true, laidKinds := [.handle, .sentinel, .sentinel, .sentinel, .sentinel, .sentinel, .sentinel, .sentinel, .sentinel, .sentinel, .sentinel, .sentinel], laidTests := true, laidLooks := .later }
def CellCutsUptoCardSaid : Prop := Claim7.holds Tryd.pinned (.plain (OpenSpec.upto cellCutsSpec)) cellCutsUptoCard

/-- THE SECOND FORM's CARD OF 'twinrampartlaw2.CellActs'. -/
def cellActsUptoCard : Claim7 := { stood := { row := cellActsUptoRow, standIns := [], harness := (true, "e3da8e1ddebc32b740bf745286f973a7c6051d29329db7094f1354e2cdf4f906"), looks := true }, kinds := [], alts := [], laidByText := true, laidKinds := [.handle, .sentinel, .sentinel, .sentinel, .sentinel, .sentinel, .sentinel, .sentinel, .sentinel, .sentinel, .sentinel, .sentinel], laidTests := true, laidLooks := .later }
def CellActsUptoCardSaid : Prop := Claim7.holds Tryd.pinned (.plain (OpenSpec.upto cellActsSpec)) cellActsUptoCard

/-- THE SECOND FORM's CARD OF 'twinrampartlaw2.RoleApart'. -/
def roleApartUptoCard : Claim7 := { stood := { row := roleApartUptoRow, standIns := [], harness := (true, "e3da8e1ddebc32b740bf745286f973a7c6051d29329db7094f1354e2cdf4f906"), looks := true }, kinds := [], alts := [], laidByText := true, laidKinds := [.sentinel, .sentinel, .sentinel], laidTests := true, laidLooks := .later }
def RoleApartUptoCardSaid : Prop := Claim7.holds Tryd.pinned (.plain (OpenSpec.upto roleApartSpec)) roleApartUptoCard

/-- THE SECOND FORM's CARD OF 'twinrampartlaw2.RoleSilence'. -/
def roleSilenceUptoCard : Claim7 := { stood := { row := roleSilenceUptoRow, standIns := [], harness := (true, "e3da8e1ddebc32b740bf745286f973a7c6051d29329db7094f1354e2cdf4f906"), looks := true }, kinds := [], alts := [], laidByText := true, laidKinds := [.sentinel, .sentinel, .sentinel], laidTests := true, laidLooks := .later }
def RoleSilenceUptoCardSaid : Prop := Claim7.holds Tryd.pinned (.plain (OpenSpec.upto roleSilenceSpec)) roleSilenceUptoCard

/-- THE SECOND FORM's CARD OF 'twinrampartlaw2.RoleActs'. -/
def roleActsUptoCard : Claim7 := { stood := { row := roleActsUptoRow, standIns := [], harness := (true, "e3da8e1ddebc32b740bf745286f973a7c6051d29329db7094f1354e2cdf4f906"), looks := true }, kinds := [], alts := [], laidByText := true, laidKinds := [.handle, .sentinel, .sentinel, .sentinel, .sentinel, .sentinel, .sentinel, .sentinel, .sentinel, .sentinel, .sentinel, .sentinel], laidTests := true, laidLooks := .later }
def RoleActsUptoCardSaid : Prop := Claim7.holds Tryd.pinned (.plain (OpenSpec.upto roleActsSpec)) roleActsUptoCard

/-- THE SECOND FORM's CARD OF 'twinrampartlaw2.NodeBack'. -/
def nodeBackUptoCard : Claim7 := { stood := { row := nodeBackUptoRow, standIns := [], harness := (true, "e3da8e1ddebc32b740bf745286f973a7c6051d29329db7094f1354e2cdf4f906"), looks := true }, kinds := [], alts := [], laidByText := true, laidKinds := [.sentinel, .sentinel, .sentinel, .sentinel, .sentinel, .sentinel, .sentinel, .sentinel, .sentinel, .sentinel], laidTests := true, laidLooks := .later }
def NodeBackUptoCardSaid : Prop := Claim7.holds Tryd.pinned (.plain (OpenSpec.upto nodeBackSpec)) nodeBackUptoCard
end Rows
end Go.Proofs.YtdjaabghidcahabDoor
