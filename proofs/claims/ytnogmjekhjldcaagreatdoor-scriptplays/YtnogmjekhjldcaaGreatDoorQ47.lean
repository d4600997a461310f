/-
  What the claimed theorem reaches, part Q47.
-/
import Derived.Test.YtnogmjekhjldcaaGreatDoorQ40
import Derived.Test.YtnogmjekhjldcaaGreatDoorQ44
import Derived.Test.YtnogmjekhjldcaaGreatDoorQ46
namespace Go.Proofs.YtnogmjekhjldcaaGreatDoor
open Go.ChangeShapes Go.WideShapes Go.ChangeAt Go.RowKit Go.ChangeMaps Go.Proofs.Tryz
set_option maxRecDepth 100000
set_option maxHeartbeats 8000000
theorem g_lifted (w:Os) (a:w.Started) (H:Type) (enc:TypeId×Value->H) (F:Stop.Interp) :
  ReturnsInHanded {} Tryz.checked w 3 .any ((OpenSpec.ofChange Rows.scriptPlaysSpec).preRow enc prog Tryz.f3 Rows.scriptPlaysRow.domain false Rows.scriptPlaysRow.laid) (((OpenSpec.ofChange Rows.scriptPlaysSpec).at F).post enc prog Tryz.f3 false true false false):=by
 obtain⟨D,m⟩:=aef w enc;refine returnsInHanded_of_row (C := Tryz.checked) (s:=OpenSpec.ofChange Rows.scriptPlaysSpec) Tryz.own a kr func3
  (witness_row_atRef (enc:=enc) (C := Tryz.checked) false (QY w) Tv (World.layVars_os _ _ _) kr kr kr
   (OpenSpec.preRow_of_cond 8 m kr (fun k Y=>by cases Y) kr (ag2 w))) ?_
 intro W base args Z gs E o N _ _ _ O G _;have i:∀(j:Nat) t v,Tryz.f3.params[j]? = some t->args[j]? = some v->Value.okWide prog W .any base t v:=o;have y:=N;obtain⟨p,q,I,hV,rfl,Zg,Zh⟩:=N;have Q:DataW.TrodAll enc prog W 0 (fun _=>true) true Tryz.f3.params.toList args.toList Z p:=I;rw[Tryz.params3]at Q i;obtain⟨v0,v1,z,A,T,U,rfl,rfl,rfl,V,X⟩:=trodAll_two Q;obtain⟨rfl,rfl⟩:=trodVars_none hV;have B:∀x ∈ T++U,x.block < W.heap.size:=fun x m=>y.lt x (lU.2 (.inl m));obtain⟨rl,R⟩:=QZ (i 0 22 v0 rfl rfl) V;obtain⟨l,L⟩:=Q7 (i 1 23 v1 rfl rfl) X;obtain⟨s,S⟩:=ag0 O G;have u:=QV v0 rl v1 l s W S (ag1 O) R L;refine u.mono fun e J ⟨he,K⟩=>?_;subst he;have M:Rows.scriptPlaysSpec.fn H ([z,A]++[])={results:=[.lit (.bool true)],args:=[z,A]}:=by simp[Rows.scriptPlaysSpec]
 have g0:=Below.trod (P := prog) (t := 22) kr kr (abU kr) V K (fun x m=>B x (by simp[m]));have g1:=Below.trod (P := prog) (t := 23) kr kr (abU kr) X K (fun x m=>B x (by simp[m]));refine⟨_,rfl,_,_,_,[],T++(U),[],y,?_,?_,?_,K.frame _,fun h=>by cases h⟩
 ·show DataW.TrodAll enc prog J _ _ _ _ _ (Rows.scriptPlaysSpec.fn H ([z,A]++[])).results _;rw[M];exact trodAll_mk1 (shut_bool Tryz.underlying4 true)
 ·show DataW.TrodAll enc prog J _ _ _ _ _ (Rows.scriptPlaysSpec.fn H ([z,A]++[])).args _;rw[M];exact trodAll_mk2 g0 g1
 ·show DataW.TrodVars enc prog J _ _ (Rows.scriptPlaysSpec.fn H ([z,A]++[])).vars _;rw[M];rfl
end Go.Proofs.YtnogmjekhjldcaaGreatDoor
