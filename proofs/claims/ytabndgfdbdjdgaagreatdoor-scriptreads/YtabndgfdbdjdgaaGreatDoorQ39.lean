/-
  What the claimed theorem reaches, part Q39.
-/
import Derived.Test.YtabndgfdbdjdgaaGreatDoorQ27
import Derived.ProofKit
import Derived.LaidMore
import Derived.Lay
import Derived.OpenShut
import Derived.Stop.Joined
import Derived.SevenTiedAt
import Derived.Deep.DeepHandedRow
import Derived.Deep.DeepWitnessRowRef
import Derived.Deep.Slices
import Derived.Lib.SmallJoins
import Derived.ChangeMaps5
import Derived.Carry
import Derived.Test.YtabndgfdbdjdgaaGreatDoorQ00
namespace Go.Proofs.YtabndgfdbdjdgaaGreatDoor
open Go.ChangeShapes Go.WideShapes Go.ChangeAt Go.RowKit Go.ChangeMaps
set_option maxRecDepth 100000
set_option maxHeartbeats 8000000
abbrev gArgs:Array Value:=#[.string ⟨#[]⟩,.slice none 0 0]
theorem g_met (os:Os):laidMetH Tryz.prog Rows.scriptReadsRow.laid ((zWorld os).forCall (fun _ _=>0) ⟨#[],gArgs,[]⟩).memory :=
 laidMetH_of_parts3 (fuel:=8) (laidMet_of_run' 8 (by kernel_rfl) (by kernel_rfl)) (by kernel_rfl) (by kernel_rfl)
end Go.Proofs.YtabndgfdbdjdgaaGreatDoor
