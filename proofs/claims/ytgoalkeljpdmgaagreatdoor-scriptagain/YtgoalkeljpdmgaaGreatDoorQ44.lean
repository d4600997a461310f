/-
  What the claimed theorem reaches, part Q44.
-/
import Derived.Test.YtgoalkeljpdmgaaGreatDoorCards
import Derived.Test.YtgoalkeljpdmgaaGreatDoorTie
import Derived.ProofKit
import Derived.Stop.Joined
import Derived.SevenTiedAt
import Derived.Test.YtgoalkeljpdmgaaGreatDoorQ00
namespace Go.Proofs.YtgoalkeljpdmgaaGreatDoor
open Go.ChangeShapes Go.WideShapes Go.ChangeAt Go.RowKit
set_option maxRecDepth 100000
set_option maxHeartbeats 8000000
theorem g_fa:(Rows.scriptAgainRow.wf (OpenSpec.ofChange (OpenSpec.ofChange Rows.scriptAgainSpec).bare) && laidOutB Tryz.pinned.checked.prog && mapsRowed Tryz.pinned.checked.prog && Tryz.f3.params.all (Tryz.pinned.checked.prog.readableRec ·) && namedTie Tryz.pinned.checked.prog Rows.scriptAgainRow.named ((OpenSpec.ofChange Rows.scriptAgainSpec).bare).vars && (Rows.scriptAgainRow.stops==[]) && (Tryz.pinned.checked.prog.stops==[]) && (Rows.scriptAgainRow.knobs==[]) && (Tryz.pinned.checked.prog.stopKnobs==[]))=true:=by kernel_rfl
end Go.Proofs.YtgoalkeljpdmgaaGreatDoor
