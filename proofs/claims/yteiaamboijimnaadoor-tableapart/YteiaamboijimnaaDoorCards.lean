/-
  DERIVED. GIVEN WITH THE SEED: THE CARDS: each row of YteiaamboijimnaaDoorRows.lean that lists a variable, with what it lists TIED to the program's text (the seventh form; the later family's looks); each row that meets fmt, with fmt's text TOLD by the authors' own Lean function (tested against real Go, not proved from fmt's source: count such statements apart). THE CARD IS WHAT COUNTS. Prove the row's statement (the work); the ties are given (YteiaamboijimnaaDoorTie.lean); close each card by the builder's one call (the guide's Derived/Test/ToyasCard.lean, 'card_holds'). Laid BY PROGRAM, IN A SANDBOX (cutbox-door.mjs). By AI agents, Wed Nov 11 2026. No macro, syntax, notation, axiom, sorry.
-/
import Derived.Test.YteiaamboijimnaaDoorRows
import GoSem.ClaimSeven
namespace Go.Proofs.YteiaamboijimnaaDoor
namespace Rows

/-- THE TIED CARD OF 'twinrampartlaw1.Names'. -/
def namesCard : Claim7 := { stood := { row := namesRow, standIns := [], harness := (true, "0347751deb9f3cde31b988321564f259480e218fa3d426ee7fa21a7069b43236"), looks := true }, kinds := [], alts := [], laidByText := true, laidKinds := [.handle, .sentinel, .sentinel, .sentinel, .sentinel, .sentinel, .sentinel, .sentinel, .sentinel, .sentinel, .sentinel, .sentinel], laidTests := true, laidLooks := .later }
def NamesCardSaid : Prop := Claim7.holds Tryd.pinned (.plain (OpenSpec.ofChange namesSpec)) namesCard

/-- THE TIED CARD OF 'twinrampartlaw1.PolicyAdmits'. -/
def policyAdmitsCard : Claim7 := { stood := { row := policyAdmitsRow, standIns := [], harness := (true, "0347751deb9f3cde31b988321564f259480e218fa3d426ee7fa21a7069b43236"), looks := true }, kinds := [], alts := [], laidByText := true, laidKinds := [.data, .data, .data, .handle, .sentinel, .sentinel, .sentinel, .sentinel, .sentinel, .sentinel, .sentinel, .sentinel, .sentinel, .sentinel, .sentinel, .data], laidTests := true, laidLooks := .later }
def PolicyAdmitsCardSaid : Prop := Claim7.holds Tryd.pinned (.plain (OpenSpec.ofChange policyAdmitsSpec)) policyAdmitsCard

/-- THE TIED CARD OF 'twinrampartlaw1.PolicyShadow'. -/
def policyShadowCard : Claim7 := { stood := { row := policyShadowRow, standIns := [], harness := (true, "0347751deb9f3cde31b988321564f259480e218fa3d426ee7fa21a7069b43236"), looks := true }, kinds := [], alts := [], laidByText := true, laidKinds := [.data, .data, .data, .sentinel, .sentinel, .data], laidTests := true, laidLooks := .later }
def PolicyShadowCardSaid : Prop := Claim7.holds Tryd.pinned (.plain (OpenSpec.ofChange policyShadowSpec)) policyShadowCard

/-- THE TIED CARD OF 'twinrampartlaw1.PolicyFirst'. -/
def policyFirstCard : Claim7 := { stood := { row := policyFirstRow, standIns := [], harness := (true, "0347751deb9f3cde31b988321564f259480e218fa3d426ee7fa21a7069b43236"), looks := true }, kinds := [], alts := [], laidByText := true, laidKinds := [.data, .data, .data, .sentinel, .sentinel, .data], laidTests := true, laidLooks := .later }
def PolicyFirstCardSaid : Prop := Claim7.holds Tryd.pinned (.plain (OpenSpec.ofChange policyFirstSpec)) policyFirstCard

/-- THE TIED CARD OF 'twinrampartlaw1.TrackCloses'. -/
def trackClosesCard : Claim7 := { stood := { row := trackClosesRow, standIns := [], harness := (true, "0347751deb9f3cde31b988321564f259480e218fa3d426ee7fa21a7069b43236"), looks := true }, kinds := [], alts := [], laidByText := true, laidKinds := [.sentinel, .sentinel], laidTests := true, laidLooks := .later }
def TrackClosesCardSaid : Prop := Claim7.holds Tryd.pinned (.plain (OpenSpec.ofChange trackClosesSpec)) trackClosesCard

/-- THE TIED CARD OF 'twinrampartlaw1.TrackSteps'. -/
def trackStepsCard : Claim7 := { stood := { row := trackStepsRow, standIns := [], harness := (true, "0347751deb9f3cde31b988321564f259480e218fa3d426ee7fa21a7069b43236"), looks := true }, kinds := [], alts := [], laidByText := true, laidKinds := [.handle, .sentinel, .sentinel, .sentinel, .sentinel, .sentinel, .sentinel, .sentinel, .sentinel, .sentinel, .sentinel, .sentinel], laidTests := true, laidLooks := .later }
def TrackStepsCardSaid : Prop := Claim7.holds Tryd.pinned (.plain (OpenSpec.ofChange trackStepsSpec)) trackStepsCard

/-- THE TIED CARD OF 'twinrampartlaw1.TableApart'. -/
def tableApartCard : Claim7 := { stood := { row := tableApartRow, standIns := [], harness := (true, "0347751deb9f3cde31b988321564f259480e218fa3d426ee7fa21a7069b43236"), looks := true }, kinds := [], alts := [], laidByText := true, laidKinds := [.sentinel, .sentinel, .sentinel, .sentinel], laidTests := true, laidLooks := .later }
def TableApartCardSaid : Prop := Claim7.holds Tryd.pinned (.plain (OpenSpec.ofChange tableApartSpec)) tableApartCard

/-- THE TIED CARD OF 'twinrampartlaw1.TableFills'. -/
def tableFillsCard : Claim7 := { stood := { row := tableFillsRow, standIns := [], harness := (true, "0347751deb9f3cde31b988321564f259480e218fa3d426ee7fa21a7069b43236"), looks := true }, kinds := [], alts := [], laidByText := true, laidKinds := [.handle, .sentinel, .sentinel, .sentinel, .sentinel, .sentinel, .sentinel, .sentinel, .sentinel, .sentinel, .sentinel, .sentinel], laidTests := true, laidLooks := .later }
def TableFillsCardSaid : Prop := Claim7.holds Tryd.pinned (.plain (OpenSpec.ofChange tableFillsSpec)) tableFillsCard

/-- THE SECOND FORM's CARD OF 'twinrampartlaw1.Names'. -/
def namesUptoCard : Claim7 := { stood := { row := namesUptoRow, standIns := [], harness := (true, "0347751deb9f3cde31b988321564f259480e218fa3d426ee7fa21a7069b43236"), looks := true }, kinds := [], alts := [], laidByText := true, laidKinds := [.handle, .sentinel, .sentinel, .sentinel, .sentinel, .sentinel, .sentinel, .sentinel, .sentinel, .sentinel, .sentinel, .sentinel], laidTests := true, laidLooks := .later }
def NamesUptoCardSaid : Prop := Claim7.holds Tryd.pinned (.plain (OpenSpec.upto namesSpec)) namesUptoCard

/-- THE SECOND FORM's CARD OF 'twinrampartlaw1.PolicyAdmits'. -/
def policyAdmitsUptoCard : Claim7 := { stood := { row := policyAdmitsUptoRow, standIns := [], harness := (true, "0347751deb9f3cde31b988321564f259480e218fa3d426ee7fa21a7069b43236"), looks := true }, kinds := [], alts := [], laidByText := true, laidKinds := [.data, .data, .data, .handle, .sentinel, .sentinel, .sentinel, .sentinel, .sentinel, .sentinel, .sentinel, .sentinel, .sentinel, .sentinel, .sentinel, .data], laidTests := true, laidLooks := .later }
def PolicyAdmitsUptoCardSaid : Prop := Claim7.holds Tryd.pinned (.plain (OpenSpec.upto policyAdmitsSpec)) policyAdmitsUptoCard

/-- THE SECOND FORM's CARD OF 'twinrampartlaw1.PolicyShadow'. -/
def policyShadowUptoCard : Claim7 := { stood := { row := policyShadowUptoRow, standIns := [], harness := (true, "0347751deb9f3cde31b988321564f259480e218fa3d426ee7fa21a7069b43236"), looks := true }, kinds := [], alts := [], laidByText := true, laidKinds := [.data, .data, .data, .sentinel, .sentinel, .data], laidTests := true, laidLooks := .later }
def PolicyShadowUptoCardSaid : Prop := Claim7.holds Tryd.pinned (.plain (OpenSpec.upto policyShadowSpec)) policyShadowUptoCard

/-- THE SECOND FORM's CARD OF 'twinrampartlaw1.PolicyFirst'. -/
def policyFirstUptoCard : Claim7 := { stood := { row := policyFirstUptoRow, standIns := [], harness := (true, "0347751deb9f3cde31b988321564f259480e218fa3d426ee7fa21a7069b43236"), looks := true }, kinds := [], alts := [], laidByText := true, laidKinds := [.data, .data, .data, .sentinel, .sentinel, .data], laidTests := true, laidLooks := .later }
def PolicyFirstUptoCardSaid : Prop := Claim7.holds Tryd.pinned (.plain (OpenSpec.upto policyFirstSpec)) policyFirstUptoCard

/-- THE SECOND FORM's CARD OF 'twinrampartlaw1.TrackCloses'. -/
def trackClosesUptoCard : Claim7 := { stood := { row := trackClosesUptoRow, standIns := [], harness := (true, "0347751deb9f3cde31b988321564f259480e218fa3d426ee7fa21a7069b43236"), looks := true }, kinds := [], alts := [], laidByText := true, laidKinds := [.sentinel, .sentinel], laidTests := true, laidLooks := .later }
def TrackClosesUptoCardSaid : Prop := Claim7.holds Tryd.pinned (.plain (OpenSpec.upto trackClosesSpec)) trackClosesUptoCard

/-- THE SECOND FORM's CARD OF 'twinrampartlaw1.TrackSteps'. -/
def trackStepsUptoCard : Claim7 := { stood := { row := trackStepsUptoRow, standIns := [], harness := (true, "0347751deb9f3cde31b988321564f259480e218fa3d426ee7fa21a7069b43236"), looks := true }, kinds := [], alts := [], laidByText := true, laidKinds := [.handle, .sentinel, .sentinel, .sentinel, .sentinel, .sentinel, .sentinel, .sentinel, .sentinel, .sentinel, .sentinel, .sentinel], laidTests := true, laidLooks := .later }
def TrackStepsUptoCardSaid : Prop := Claim7.holds Tryd.pinned (.plain (OpenSpec.upto trackStepsSpec)) trackStepsUptoCard

/-- THE SECOND FORM's CARD OF 'twinrampartlaw1.TableApart'. -/
def tableApartUptoCard : Claim7 := { stood := { row := tableApartUptoRow, standIns := [], harness := (true, "0347751deb9f3cde31b988321564f259480e218fa3d426ee7fa21a7069b43236"), looks := true }, kinds := [], alts := [], laidByText := true, laidKinds := [.sentinel, .sentinel, .sentinel, .sentinel], laidTests := true, laidLooks := .later }
def TableApartUptoCardSaid : Prop := Claim7.holds Tryd.pinned (.plain (OpenSpec.upto tableApartSpec)) tableApartUptoCard

/-- THE SECOND FORM's CARD OF 'twinrampartlaw1.TableFills'. -/
def tableFillsUptoCard : Claim7 := { stood := { row := tableFillsUptoRow, standIns := [], harness := (true, "0347751deb9f3cde31b988321564f259480e218fa3d426ee7fa21a7069b43236"), looks := true }, kinds := [], alts := [], laidByText := true, laidKinds := [.handle, .sentinel, .sentinel, .sentinel, .sentinel, .sentinel, .sentinel, .sentinel, .sentinel, .sentinel, .sentinel, .sentinel], laidTests := true, laidLooks := .later }
def TableFillsUptoCardSaid : Prop := Claim7.holds Tryd.pinned (.plain (OpenSpec.upto tableFillsSpec)) tableFillsUptoCard
end Rows
end Go.Proofs.YteiaamboijimnaaDoor
