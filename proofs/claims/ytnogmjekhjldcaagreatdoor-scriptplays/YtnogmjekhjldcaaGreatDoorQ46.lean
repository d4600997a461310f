/-
  What the claimed theorem reaches, part Q46.
-/
import Derived.Test.YtnogmjekhjldcaaGreatDoorQ45
namespace Go.Proofs.YtnogmjekhjldcaaGreatDoor
open Go.ChangeShapes Go.WideShapes Go.ChangeAt Go.RowKit Go.ChangeMaps Go.Proofs.Tryz
set_option maxRecDepth 100000
set_option maxHeartbeats 8000000
theorem aef (e:Os) {H:Type} (enc:TypeId×Value->H):∃a,DataW.whole enc prog ((QY e).forCall (fun _ _=>0) ⟨#[],Tv,[]⟩).memory Tryz.f3.params.toList Rows.scriptPlaysSpec.vars false Tv.toList 8=some ([.nil,.nil],[],a) :=
 ⟨[],by kernel_rfl⟩
end Go.Proofs.YtnogmjekhjldcaaGreatDoor
