/-
  DERIVED. GIVEN WITH THE SEED: THE CARDS: each row of YtgappikejbldlaaDoorRows.lean that lists a variable, with what it lists TIED to the program's text (the seventh form; the later family's looks); each row that meets fmt, with fmt's text TOLD by the authors' own Lean function (tested against real Go, not proved from fmt's source: count such statements apart). THE CARD IS WHAT COUNTS. Prove the row's statement (the work); the ties are given (YtgappikejbldlaaDoorTie.lean); close each card by the builder's one call (the guide's Derived/Test/ToyasCard.lean, 'card_holds'). Laid BY PROGRAM, IN A SANDBOX (cutbox-door.mjs). By AI agents, Wed Nov 11 2026. No macro, syntax, notation, axiom, sorry.
-/
import Derived.Test.YtgappikejbldlaaDoorRows
import GoSem.ClaimSeven
namespace Go.Proofs.YtgappikejbldlaaDoor
namespace Rows

/-- THE TIED CARD OF 'twinrampartlaw2.NodeTimes'. -/
def nodeTimesCard : Claim7 := { stood := { row := nodeTimesRow, standIns := [], harness := (true, "10a3e062addc6efc86d307b4824d46b115b5a7a7a1703ce53fef55e9c9a5f98e"), looks := false }, kinds := [], alts := [], laidByText := true, laidKinds := [.sentinel, .sentinel, .sentinel, .sentinel, .sentinel, .sentinel, .sentinel, .sentinel, .sentinel, .sentinel], laidTests := true, laidLooks := .later }
def NodeTimesCardSaid : Prop := Claim7.holds Tryd.pinned (.plain (OpenSpec.ofChange nodeTimesSpec)) nodeTimesCard

/-- THE TIED CARD OF 'twinrampartlaw2.NodeLives'. -/
def nodeLivesCard : Claim7 := { stood := { row := nodeLivesRow, standIns := [], harness := (true, "10a3e062addc6efc86d307b4824d46b115b5a7a7a1703ce53fef55e9c9a5f98e"), looks := false }, kinds := [], alts := [], laidByText := true, laidKinds := [.sentinel, .sentinel, .sentinel, .sentinel, .sentinel, .sentinel, .sentinel], laidTests := true, laidLooks := .later }
def NodeLivesCardSaid : Prop := Claim7.holds Tryd.pinned (.plain (OpenSpec.ofChange nodeLivesSpec)) nodeLivesCard

/-- THE SECOND FORM's CARD OF 'twinrampartlaw2.NodeTimes'. -/
def nodeTimesUptoCard : Claim7 := { stood := { row := nodeTimesUptoRow, standIns := [], harness := (true, "10a3e062addc6efc86d307b4824d46b115b5a7a7a1703ce53fef55e9c9a5f98e"), looks := false }, kinds := [], alts := [], laidByText := true, laidKinds := [.sentinel, .sentinel, .sentinel, .sentinel, .sentinel, .sentinel, .sentinel, .sentinel, .sentinel, .sentinel], laidTests := true, laidLooks := .later }
def NodeTimesUptoCardSaid : Prop := Claim7.holds Tryd.pinned (.plain (OpenSpec.upto nodeTimesSpec)) nodeTimesUptoCard

/-- THE SECOND FORM's CARD OF 'twinrampartlaw2.NodeLives'. -/
def nodeLivesUptoCard : Claim7 := { stood := { row := nodeLivesUptoRow, standIns := [], harness := (true, "10a3e062addc6efc86d307b4824d46b115b5a7a7a1703ce53fef55e9c9a5f98e"), looks := false }, kinds := [], alts := [], laidByText := true, laidKinds := [.sentinel, .sentinel, .sentinel, .sentinel, .sentinel, .sentinel, .sentinel], laidTests := true, laidLooks := .later }
def NodeLivesUptoCardSaid : Prop := Claim7.holds Tryd.pinned (.plain (OpenSpec.upto nodeLivesSpec)) nodeLivesUptoCard
end Rows
end Go.Proofs.YtgappikejbldlaaDoor
