/-
  What the claimed theorem reaches, part Q40.
-/
import Derived.Test.YtgoalkeljpdmgaaGreatDoorCards
import Derived.Test.YtgoalkeljpdmgaaGreatDoorTie
import Derived.Test.YtgoalkeljpdmgaaGreatDoorQ30
import Derived.Test.YtgoalkeljpdmgaaGreatDoorQ39
import Derived.ProofKit
import Derived.LaidMore
import Derived.Lay
import Derived.OpenShut
import Derived.Stop.Joined
import Derived.SevenTiedAt
import Derived.Deep.DeepHandedRow
import Derived.Deep.DeepWitnessRowRef
import Derived.Deep.Slices
import Derived.Lib.SmallJoins
import Derived.ChangeMaps5
import Derived.Carry
import Derived.Test.YtgoalkeljpdmgaaGreatDoorQ00
namespace Go.Proofs.YtgoalkeljpdmgaaGreatDoor
open Go.ChangeShapes Go.WideShapes Go.ChangeAt Go.RowKit Go.ChangeMaps
set_option maxRecDepth 100000
set_option maxHeartbeats 8000000
theorem g_env {W:World} (h:laidMetH Tryz.prog Rows.scriptAgainRow.laid W) (hS:W.ShapedOpen Tryz.prog):∃s,EnvL W s:=envS_of h hS (by kernel_rfl) (by kernel_rfl) (by kernel_rfl) (by kernel_rfl)
theorem g_pnm {W:World} (h:laidMetH Tryz.prog Rows.scriptAgainRow.laid W):PNm W:=pnm_of_laid h (by kernel_rfl)
end Go.Proofs.YtgoalkeljpdmgaaGreatDoor
