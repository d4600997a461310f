/-
  What the claimed theorem reaches, part Q44.
-/
import Derived.Test.YtnogmjekhjldcaaGreatDoorQ42
import Derived.Test.YtnogmjekhjldcaaGreatDoorQ43
import Derived.Carry
namespace Go.Proofs.YtnogmjekhjldcaaGreatDoor
open Go.ChangeShapes Go.WideShapes Go.ChangeAt Go.RowKit Go.ChangeMaps Go.Proofs.Tryz
set_option maxRecDepth 100000
set_option maxHeartbeats 8000000
theorem ag0 {W:World} (h:laidMetH prog Rows.scriptPlaysRow.laid W) (a:W.ShapedOpen prog):∃s,oI W s:=aec h a kr kr kr kr
theorem ag1 {W:World} (h:laidMetH prog Rows.scriptPlaysRow.laid W):Ji W:=NU h kr
end Go.Proofs.YtnogmjekhjldcaaGreatDoor
