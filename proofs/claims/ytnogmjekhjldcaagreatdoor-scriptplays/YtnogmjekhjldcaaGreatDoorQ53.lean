/-
  What the claimed theorem reaches, part Q53.
-/
import Derived.Test.YtnogmjekhjldcaaGreatDoorQ48
import Derived.Test.YtnogmjekhjldcaaGreatDoorQ49
import Derived.Test.YtnogmjekhjldcaaGreatDoorQ50
import Derived.Test.YtnogmjekhjldcaaGreatDoorQ51
import Derived.Test.YtnogmjekhjldcaaGreatDoorQ52
namespace Go.Proofs.YtnogmjekhjldcaaGreatDoor
open Go.ChangeShapes Go.WideShapes Go.ChangeAt Go.RowKit Go.Proofs.Tryz
set_option maxRecDepth 100000
set_option maxHeartbeats 8000000
theorem NY {a b:Bool} (h:a=true) (k:b=true):(a && b)=true:=by rw[h,k];rfl
theorem abQ:joinedFacts Tryz.pinned.checked.prog 3 Tryz.f3 (OpenSpec.ofChange Rows.scriptPlaysSpec).bare Rows.scriptPlaysRow=true:=by
 unfold joinedFacts;repeat (first | (with_reducible exact NY (NY (NY (NY ahs aht) ahu) ahv) ahw) | (with_reducible refine NY ?_ kr))
end Go.Proofs.YtnogmjekhjldcaaGreatDoor
