/-
  What the claimed theorem reaches, part Q45.
-/
import Derived.Test.YtnogmjekhjldcaaGreatDoorQ42
import Derived.Lib.SmallJoins
import Derived.ChangeMaps5
import Derived.Carry
namespace Go.Proofs.YtnogmjekhjldcaaGreatDoor
open Go.ChangeShapes Go.WideShapes Go.ChangeAt Go.RowKit Go.ChangeMaps Go.Proofs.Tryz
set_option maxRecDepth 100000
set_option maxHeartbeats 8000000
abbrev Tv:Array Value:=#[.slice none 0 0,.slice none 0 0]
theorem ag2 (a:Os):laidMetH prog Rows.scriptPlaysRow.laid ((QY a).forCall (fun _ _=>0) ⟨#[],Tv,[]⟩).memory :=
 laidMetH_of_parts3 (fuel:=8) (laidMet_of_run' 8 kr kr) kr kr
end Go.Proofs.YtnogmjekhjldcaaGreatDoor
