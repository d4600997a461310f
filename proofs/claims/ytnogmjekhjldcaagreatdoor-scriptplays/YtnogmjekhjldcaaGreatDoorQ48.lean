/-
  What the claimed theorem reaches, part Q48.
-/
import Derived.Test.YtnogmjekhjldcaaGreatDoorCards
import Derived.Test.YtnogmjekhjldcaaGreatDoorTie
import Derived.Stop.Joined
import Derived.SevenTiedAt
import Derived.Test.YtnogmjekhjldcaaGreatDoorQ00
namespace Go.Proofs.YtnogmjekhjldcaaGreatDoor
open Go.ChangeShapes Go.WideShapes Go.ChangeAt Go.RowKit Go.Proofs.Tryz
set_option maxRecDepth 100000
set_option maxHeartbeats 8000000
theorem ahs:(Rows.scriptPlaysRow.wf (OpenSpec.ofChange (OpenSpec.ofChange Rows.scriptPlaysSpec).bare) && laidOutB Tryz.pinned.checked.prog && mapsRowed Tryz.pinned.checked.prog && Tryz.f3.params.all (Tryz.pinned.checked.prog.readableRec ·) && namedTie Tryz.pinned.checked.prog Rows.scriptPlaysRow.named ((OpenSpec.ofChange Rows.scriptPlaysSpec).bare).vars && (Rows.scriptPlaysRow.stops==[]) && (Tryz.pinned.checked.prog.stops==[]) && (Rows.scriptPlaysRow.knobs==[]) && (Tryz.pinned.checked.prog.stopKnobs==[]))=true:=by kernel_rfl
end Go.Proofs.YtnogmjekhjldcaaGreatDoor
