/-
  What the claimed theorem reaches, part Q47.
-/
import Derived.Test.YtgoalkeljpdmgaaGreatDoorCards
import Derived.Test.YtgoalkeljpdmgaaGreatDoorTie
import Derived.ProofKit
import Derived.Stop.Joined
import Derived.SevenTiedAt
import Derived.Test.YtgoalkeljpdmgaaGreatDoorQ00
namespace Go.Proofs.YtgoalkeljpdmgaaGreatDoor
open Go.ChangeShapes Go.WideShapes Go.ChangeAt Go.RowKit
set_option maxRecDepth 100000
set_option maxHeartbeats 8000000
theorem g_fd:(Rows.scriptAgainRow.recurses == Tryz.pinned.checked.prog.recurses 3)=true:=by kernel_rfl
end Go.Proofs.YtgoalkeljpdmgaaGreatDoor
