/-
  What the claimed theorem reaches, part Q41.
-/
import Derived.Test.YtgoalkeljpdmgaaGreatDoorQ30
import Derived.ProofKit
import Derived.LaidMore
import Derived.Lay
import Derived.OpenShut
import Derived.Stop.Joined
import Derived.SevenTiedAt
import Derived.Deep.DeepHandedRow
import Derived.Deep.DeepWitnessRowRef
import Derived.Deep.Slices
import Derived.Lib.SmallJoins
import Derived.ChangeMaps5
import Derived.Carry
import Derived.Test.YtgoalkeljpdmgaaGreatDoorQ00
namespace Go.Proofs.YtgoalkeljpdmgaaGreatDoor
open Go.ChangeShapes Go.WideShapes Go.ChangeAt Go.RowKit Go.ChangeMaps
set_option maxRecDepth 100000
set_option maxHeartbeats 8000000
abbrev gArgs:Array Value:=#[.slice none 0 0,.slice none 0 0,.int .i64 0]
theorem g_met (os:Os):laidMetH Tryz.prog Rows.scriptAgainRow.laid ((zWorld os).forCall (fun _ _=>0) ⟨#[],gArgs,[]⟩).memory :=
 laidMetH_of_parts3 (fuel:=8) (laidMet_of_run' 8 (by kernel_rfl) (by kernel_rfl)) (by kernel_rfl) (by kernel_rfl)
end Go.Proofs.YtgoalkeljpdmgaaGreatDoor
