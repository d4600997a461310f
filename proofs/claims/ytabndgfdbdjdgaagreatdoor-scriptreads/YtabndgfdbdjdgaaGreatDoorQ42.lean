/-
  What the claimed theorem reaches, part Q42.
-/
import Derived.Test.YtabndgfdbdjdgaaGreatDoorCards
import Derived.Test.YtabndgfdbdjdgaaGreatDoorTie
import Derived.ProofKit
import Derived.Stop.Joined
import Derived.SevenTiedAt
import Derived.Test.YtabndgfdbdjdgaaGreatDoorQ00
namespace Go.Proofs.YtabndgfdbdjdgaaGreatDoor
open Go.ChangeShapes Go.WideShapes Go.ChangeAt Go.RowKit
set_option maxRecDepth 100000
set_option maxHeartbeats 8000000
theorem g_fa:(Rows.scriptReadsRow.wf (OpenSpec.ofChange (OpenSpec.ofChange Rows.scriptReadsSpec).bare) && laidOutB Tryz.pinned.checked.prog && mapsRowed Tryz.pinned.checked.prog && Tryz.f3.params.all (Tryz.pinned.checked.prog.readableRec ·) && namedTie Tryz.pinned.checked.prog Rows.scriptReadsRow.named ((OpenSpec.ofChange Rows.scriptReadsSpec).bare).vars && (Rows.scriptReadsRow.stops==[]) && (Tryz.pinned.checked.prog.stops==[]) && (Rows.scriptReadsRow.knobs==[]) && (Tryz.pinned.checked.prog.stopKnobs==[]))=true:=by kernel_rfl
end Go.Proofs.YtabndgfdbdjdgaaGreatDoor
