/-
  What the claimed theorem reaches, part Q47.
-/
import Derived.Test.YtabndgfdbdjdgaaGreatDoorCards
import Derived.Test.YtabndgfdbdjdgaaGreatDoorTie
import Derived.Test.YtabndgfdbdjdgaaGreatDoorQ42
import Derived.Test.YtabndgfdbdjdgaaGreatDoorQ43
import Derived.Test.YtabndgfdbdjdgaaGreatDoorQ44
import Derived.Test.YtabndgfdbdjdgaaGreatDoorQ45
import Derived.Test.YtabndgfdbdjdgaaGreatDoorQ46
import Derived.ProofKit
import Derived.Stop.Joined
import Derived.SevenTiedAt
import Derived.Test.YtabndgfdbdjdgaaGreatDoorQ00
namespace Go.Proofs.YtabndgfdbdjdgaaGreatDoor
open Go.ChangeShapes Go.WideShapes Go.ChangeAt Go.RowKit
set_option maxRecDepth 100000
set_option maxHeartbeats 8000000
theorem and_t {a b:Bool} (h:a=true) (k:b=true):(a && b)=true:=by rw[h,k];rfl
theorem g_closed:joinedFacts Tryz.pinned.checked.prog 3 Tryz.f3 (OpenSpec.ofChange Rows.scriptReadsSpec).bare Rows.scriptReadsRow=true:=by
 unfold joinedFacts
 repeat (first | (with_reducible exact and_t (and_t (and_t (and_t g_fa g_fb) g_fc) g_fd) g_fe) | (with_reducible refine and_t ?_ (by kernel_rfl)))
end Go.Proofs.YtabndgfdbdjdgaaGreatDoor
