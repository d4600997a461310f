/-
  What the claimed theorem reaches, part Q18.
-/
import Derived.Test.YtdpmeoflgpaljaaGreatDoorQ17
import Derived.Test.YtdpmeoflgpaljaaGreatDoorRows
import Derived.LaidLaws
import Derived.LaidHandle
import Derived.LaidSub
import Derived.Laws.IdiomArrays
import Derived.OpenShut
import Derived.Test.YtdpmeoflgpaljaaGreatDoorQ00
namespace Go.Proofs.YtdpmeoflgpaljaaGreatDoor
open Go.RowKit Go.ChangeShapes Go.WideShapes
set_option maxRecDepth 100000
set_option maxHeartbeats 8000000
def flgD (n:String) (a b c d:Int):String×DataW Unit:=(n,.agg [.lit (.int .i64 a),.lit (.int .i64 b),.lit (.int .i64 c),.lit (.int .i64 d)])
def flgL:List (String×DataW Unit):=[flgD "twinrampart/play.insideFlags" 1 2 6 8,flgD "twinrampart/play.outsideFlags" 3 2 6 8]
def isFlg (x:String×DataW Unit):Bool:=x.1 == "twinrampart/play.insideFlags" || x.1 == "twinrampart/play.outsideFlags"
theorem Tryz.gInF : Tryz.prog.globalNamed "twinrampart/play.insideFlags"=some 12:=by kernel_rfl
theorem Tryz.gOuF : Tryz.prog.globalNamed "twinrampart/play.outsideFlags"=some 13:=by kernel_rfl
theorem Tryz.gInFT:(Tryz.prog.globals[12]?).map (·.type)=some 235:=by kernel_rfl
theorem Tryz.gOuFT:(Tryz.prog.globals[13]?).map (·.type)=some 235:=by kernel_rfl
theorem Tryz.ciF : Tryz.prog.cellsOf 3=1:=by kernel_rfl
theorem Tryz.caF : Tryz.prog.cellsOf 235=4:=by kernel_rfl
theorem trod_lit {W:World} {sp:Nat->Bool} {fuel:Nat} {c:Value} {y:DataW Unit×List MemPlace} {x:Int} (h:DataW.trod (fun _=>()) Tryz.prog W 0 sp false fuel 3 [c]=some y) (e:y.1=.lit (.int .i64 x)):c=.int .i64 x:=by
 obtain⟨d,p⟩:=y
 obtain⟨z,e1,e2,_⟩:=DataW.trod_int Tryz.underlying3 h
 have e3:(d,p)=(DataW.lit (.int .i64 z),[]):=e2
 have e4:d=DataW.lit (.int .i64 z):=congrArg Prod.fst e3
 have e5:DataW.lit (H:=Unit) (.int .i64 z)=.lit (.int .i64 x):=e4.symm.trans e
 have e6:z=x:=by injection e5 with h5;injection h5
 subst e6
 simpa using e1
theorem flg_at {W:World} {n:String} {g:Nat} {a b c d:Int} {r:List (String×DataW Unit)} {ps:List MemPlace} (hg : Tryz.prog.globalNamed n=some g) (ht:(Tryz.prog.globals[g]?).map (·.type)=some 235) (h:DataW.LaidVars Tryz.prog W (flgD n a b c d::r) ps) :
  (W.cell? (g,0)=a/\W.cell? (g,1)=b/\W.cell? (g,2)=c/\W.cell? (g,3)=d)/\∃q,DataW.LaidVars Tryz.prog W r q:=by
 obtain⟨g0,t0,cs0,f0,p0,q0,hg0,ht0,hv0,hd0,hq,e0⟩:=h
 have hg0' : Tryz.prog.globalNamed n=some g0:=hg0
 obtain rfl:=Option.some.inj (hg.symm.trans hg0')
 obtain rfl:=Option.some.inj (ht.symm.trans ht0)
 refine⟨?_,q0,hq⟩
 obtain⟨xs,m,_,_,hl,_,_⟩:=DataW.trod_array Tryz.underlying235 hd0
 rw[Tryz.caF]at hl
 obtain⟨l⟩:=cs0
 have hl4:l.length=4:=hl
 obtain⟨c0,l,rfl⟩:∃c0 l',l=c0::l':=by cases l with | nil=>cases hl4 | cons a b=>exact⟨a,b,rfl⟩
 obtain⟨c1,l,rfl⟩:∃c0 l',l=c0::l':=by cases l with | nil=>cases hl4 | cons a b=>exact⟨a,b,rfl⟩
 obtain⟨c2,l,rfl⟩:∃c0 l',l=c0::l':=by cases l with | nil=>cases hl4 | cons a b=>exact⟨a,b,rfl⟩
 obtain⟨c3,l,rfl⟩:∃c0 l',l=c0::l':=by cases l with | nil=>cases hl4 | cons a b=>exact⟨a,b,rfl⟩
 have hl0:l=[]:=by cases l with | nil=>rfl | cons a b=>simp at hl4
 subst hl0
 ·clear hl hl4
  obtain⟨y0,y1,y2,y3,k,hx,h0,h1,h2,h3⟩:=trod_array4 Tryz.underlying235 Tryz.ciF hd0
  simp only[Prod.mk.injEq,DataW.agg.injEq,List.cons.injEq,and_true]at hx
  obtain⟨⟨e0,e1,e2,e3⟩,_⟩:=hx
  have k0:=trod_lit h0 e0.symm
  have k1:=trod_lit h1 e1.symm
  have k2:=trod_lit h2 e2.symm
  have k3:=trod_lit h3 e3.symm
  subst k0 k1 k2 k3
  exact⟨World.var?_cell hg hv0 0,World.var?_cell hg hv0 1,World.var?_cell hg hv0 2,World.var?_cell hg hv0 3⟩
theorem flags_of_laid {l:List (String×DataW Unit)} {W:World} (h:laidMetH Tryz.prog l W) (e:l.filter isFlg=flgL):PyF W:=by
 have h1:=h.filter isFlg
 rw[e]at h1
 have h2:laidMet Tryz.prog flgL W:=h1
 obtain⟨ps,hv,_⟩:=h2
 obtain⟨⟨a0,a1,a2,a3⟩,q,hq⟩:=flg_at Tryz.gInF Tryz.gInFT hv
 obtain⟨⟨b0,b1,b2,b3⟩,_⟩:=flg_at Tryz.gOuF Tryz.gOuFT hq
 refine⟨fun j hj=>?_,fun j hj=>?_⟩
 ·have hl:j=0\/j=1\/j=2\/j=3:=by omega
  rcases hl with rfl | rfl | rfl | rfl
  ·exact a0
  ·exact a1
  ·exact a2
  ·exact a3
 ·have hl:j=0\/j=1\/j=2\/j=3:=by omega
  rcases hl with rfl | rfl | rfl | rfl
  ·exact b0
  ·exact b1
  ·exact b2
  ·exact b3
end Go.Proofs.YtdpmeoflgpaljaaGreatDoor
