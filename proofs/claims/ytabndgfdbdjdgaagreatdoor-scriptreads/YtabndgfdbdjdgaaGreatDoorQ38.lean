/-
  What the claimed theorem reaches, part Q38.
-/
import Derived.Test.YtabndgfdbdjdgaaGreatDoorCards
import Derived.Test.YtabndgfdbdjdgaaGreatDoorTie
import Derived.Test.YtabndgfdbdjdgaaGreatDoorQ27
import Derived.Test.YtabndgfdbdjdgaaGreatDoorQ37
import Derived.ProofKit
import Derived.LaidMore
import Derived.Lay
import Derived.OpenShut
import Derived.Stop.Joined
import Derived.SevenTiedAt
import Derived.Deep.DeepHandedRow
import Derived.Deep.DeepWitnessRowRef
import Derived.Deep.Slices
import Derived.Lib.SmallJoins
import Derived.ChangeMaps5
import Derived.Carry
import Derived.Test.YtabndgfdbdjdgaaGreatDoorQ00
namespace Go.Proofs.YtabndgfdbdjdgaaGreatDoor
open Go.ChangeShapes Go.WideShapes Go.ChangeAt Go.RowKit Go.ChangeMaps
set_option maxRecDepth 100000
set_option maxHeartbeats 8000000
theorem g_env {W:World} (h:laidMetH Tryz.prog Rows.scriptReadsRow.laid W) (hS:W.ShapedOpen Tryz.prog):∃s,EnvL W s/\Sents W s:=by
 obtain⟨s,E⟩:=envS_of h hS (by kernel_rfl) (by kernel_rfl) (by kernel_rfl) (by kernel_rfl)
 obtain⟨s',S'⟩:=sents_of_laid h (by kernel_rfl) (by kernel_rfl)
 exact⟨s,E,sents_conv E.e.s S'⟩
theorem g_pnm {W:World} (h:laidMetH Tryz.prog Rows.scriptReadsRow.laid W):PNm W:=pnm_of_laid h (by kernel_rfl)
end Go.Proofs.YtabndgfdbdjdgaaGreatDoor
