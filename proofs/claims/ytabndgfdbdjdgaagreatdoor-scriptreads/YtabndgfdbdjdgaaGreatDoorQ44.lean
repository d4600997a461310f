/-
  What the claimed theorem reaches, part Q44.
-/
import Derived.Test.YtabndgfdbdjdgaaGreatDoorCards
import Derived.Test.YtabndgfdbdjdgaaGreatDoorTie
import Derived.ProofKit
import Derived.Stop.Joined
import Derived.SevenTiedAt
import Derived.Test.YtabndgfdbdjdgaaGreatDoorQ00
namespace Go.Proofs.YtabndgfdbdjdgaaGreatDoor
open Go.ChangeShapes Go.WideShapes Go.ChangeAt Go.RowKit
set_option maxRecDepth 100000
set_option maxHeartbeats 8000000
theorem g_fc:(Rows.scriptReadsRow.unfollowed == Tryz.pinned.checked.prog.unfollowed 3)=true:=by kernel_rfl
end Go.Proofs.YtabndgfdbdjdgaaGreatDoor
