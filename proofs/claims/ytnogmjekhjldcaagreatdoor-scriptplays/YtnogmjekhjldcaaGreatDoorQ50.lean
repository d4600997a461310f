/-
  What the claimed theorem reaches, part Q50.
-/
import Derived.Test.YtnogmjekhjldcaaGreatDoorCards
import Derived.Test.YtnogmjekhjldcaaGreatDoorTie
import Derived.Stop.Joined
import Derived.SevenTiedAt
import Derived.Test.YtnogmjekhjldcaaGreatDoorQ00
namespace Go.Proofs.YtnogmjekhjldcaaGreatDoor
open Go.ChangeShapes Go.WideShapes Go.ChangeAt Go.RowKit Go.Proofs.Tryz
set_option maxRecDepth 100000
set_option maxHeartbeats 8000000
theorem ahu:(Rows.scriptPlaysRow.unfollowed == Tryz.pinned.checked.prog.unfollowed 3)=true:=by kernel_rfl
end Go.Proofs.YtnogmjekhjldcaaGreatDoor
