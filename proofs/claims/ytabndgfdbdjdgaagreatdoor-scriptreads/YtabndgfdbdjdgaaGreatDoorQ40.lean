/-
  What the claimed theorem reaches, part Q40.
-/
import Derived.Test.YtabndgfdbdjdgaaGreatDoorQ39
import Derived.ProofKit
import Derived.LaidMore
import Derived.Lay
import Derived.OpenShut
import Derived.Stop.Joined
import Derived.SevenTiedAt
import Derived.Deep.DeepHandedRow
import Derived.Deep.DeepWitnessRowRef
import Derived.Deep.Slices
import Derived.Lib.SmallJoins
import Derived.ChangeMaps5
import Derived.Carry
import Derived.Test.YtabndgfdbdjdgaaGreatDoorQ00
namespace Go.Proofs.YtabndgfdbdjdgaaGreatDoor
open Go.ChangeShapes Go.WideShapes Go.ChangeAt Go.RowKit Go.ChangeMaps
set_option maxRecDepth 100000
set_option maxHeartbeats 8000000
theorem g_reads (os:Os) {H:Type} (enc:TypeId×Value->H):∃places,DataW.whole enc Tryz.prog ((zWorld os).forCall (fun _ _=>0) ⟨#[],gArgs,[]⟩).memory Tryz.f3.params.toList Rows.scriptReadsSpec.vars false gArgs.toList 8=some ([.lit (.string []),.nil],[],places) :=
 ⟨[],by kernel_rfl⟩
end Go.Proofs.YtabndgfdbdjdgaaGreatDoor
