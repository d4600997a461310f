/-
  What the claimed theorem reaches, part Q01.
-/
import Derived.Test.YtabndgfdbdjdgaaGreatDoorRows
import Derived.Test.YtabndgfdbdjdgaaGreatDoorProg
import Derived.LaidLaws
import Derived.LaidHandle
import Derived.LaidSub
import Derived.RowKitTokens
import Derived.Test.YtabndgfdbdjdgaaGreatDoorQ00
namespace Go.Proofs.YtabndgfdbdjdgaaGreatDoor
open Go.RowKit Go.ChangeShapes Go.WideShapes
set_option maxRecDepth 100000
set_option maxHeartbeats 8000000
def sentD (x:String×List UInt8):String×DataW Unit:=(x.1,.iface "*errors.errorString" (.ptr (.agg [.lit (.string x.2)])))
theorem sents_list {P:Program} {W:World} {ti tp te ts:TypeId} {ms:Array (String×TypeId)} {f:Field}
  (hi:P.underlying ti=some (.interface ms)) (hrow:∀u,P.typeName? 3 u=some "*errors.errorString"->u=tp)
  (hp:P.underlying tp=some (.pointer te)) (he:P.underlying te=some (.struct #[f])) (hft:f.type=ts) (hfo:f.offset=0) (hs:P.underlying ts=some .string) (hc:P.cellsOf te=1) (hcs:P.cellsOf ts=1) :
  ∀(L:List (String×List UInt8)) (ps:List MemPlace),(∀x,x ∈ L->∃g,P.globalNamed x.1=some g/\(P.globals[g]?).map (·.type)=some ti) ->
   DataW.LaidVars P W (L.map sentD) ps ->
   (∀b off,MemPlace.cell b off ∈ ps->(∃c t,W.heap[b]? = some (.cells c t (0,0)))/\∀u v,W.cell? ⟨b,off,none⟩=some (.iface u v)->Value.okWide P W .any 0 u v) ->
   ∃zs:List Addr,zs.length=L.length/\(∀(i:Nat) (x:String×List UInt8) (a:Addr),L[i]? = some x->zs[i]? = some a->W.var? P x.1=some #[.iface tp (.pointer (some a))]/\∃c t,W.heap[a.block]? = some (.cells c t (0,0))) /\
    (zs.map fun a=>MemPlace.cell a.block a.off).Sublist ps
 | [],ps,_,h,_=>by
  refine⟨[],rfl,fun i x a h=>by simp at h,?_⟩
  simp
 | x::r,ps,hty,h,hrows=>by
  obtain⟨g0,t0,cs0,f0,p0,q0,hg0,ht0,hv0,hd0,hq,e0⟩:=h
  obtain⟨g,hg,ht⟩:=hty x (by simp)
  have hg0':P.globalNamed x.1=some g0:=hg0
  obtain rfl:=Option.some.inj (hg.symm.trans hg0')
  obtain rfl:=Option.some.inj (ht.symm.trans ht0)
  subst e0
  obtain⟨l0⟩:=cs0
  have ok0:∀u v,l0=[.iface u v]->Value.okWide P W .any 0 u v:=fun u v e=>by
   subst e
   exact(hrows g 0 (by simp[MemPlace.row])).2 u v (by simpa using World.var?_cell hg0 hv0 0)
  obtain⟨a0,s0,rfl,hc0,hs0,hz0,rfl⟩:=errorString_of_trod hi hrow hp he hft hfo hs hc hcs hd0 ok0
  obtain⟨zs,hl,hf,hsub⟩:=sents_list hi hrow hp he hft hfo hs hc hcs r q0 (fun y hy=>hty y (List.mem_cons_of_mem _ hy)) hq
   (fun b off hm=>hrows b off (List.mem_append_right _ hm))
  refine⟨a0::zs,by simp[hl],?_,?_⟩
  ·intro i y a hy ha
   cases i with
   | zero =>
    simp only[List.getElem?_cons_zero,Option.some.injEq]at hy ha
    subst hy;subst ha
    exact⟨hv0,(hrows a0.block a0.off (by simp[MemPlace.row])).1⟩
   | succ i =>
    simp only[List.getElem?_cons_succ]at hy ha
    exact hf i y a hy ha
  ·have h2:(MemPlace.cell a0.block a0.off::zs.map fun a=>MemPlace.cell a.block a.off).Sublist (MemPlace.row a0 1++q0):=by
    simp[MemPlace.row];exact hsub
   have h3:(MemPlace.row a0 1++q0).Sublist (MemPlace.row (g,0) 1++MemPlace.row a0 1++q0):=by
    rw[List.append_assoc];exact List.sublist_append_right _ _
   exact h2.trans h3
def sentL:List (String×List UInt8):=[
 ("twinrampart/api.ErrText",[116,119,105,110,114,97,109,112,97,114,116,58,32,116,101,120,116]),
 ("twinrampart/api.ErrBound",[116,119,105,110,114,97,109,112,97,114,116,58,32,98,111,117,110,100]),
 ("twinrampart/api.ErrShape",[116,119,105,110,114,97,109,112,97,114,116,58,32,115,104,97,112,101]),
 ("twinrampart/api.ErrNone",[116,119,105,110,114,97,109,112,97,114,116,58,32,110,111,110,101]),
 ("twinrampart/api.ErrExist",[116,119,105,110,114,97,109,112,97,114,116,58,32,101,120,105,115,116]),
 ("twinrampart/api.ErrFull",[116,119,105,110,114,97,109,112,97,114,116,58,32,102,117,108,108]),
 ("twinrampart/api.ErrOff",[116,119,105,110,114,97,109,112,97,114,116,58,32,111,102,102]),
 ("twinrampart/api.ErrDeny",[116,119,105,110,114,97,109,112,97,114,116,58,32,100,101,110,121]),
 ("twinrampart/api.ErrState",[116,119,105,110,114,97,109,112,97,114,116,58,32,115,116,97,116,101]),
 ("twinrampart/api.ErrOld",[116,119,105,110,114,97,109,112,97,114,116,58,32,111,108,100]),
 ("twinrampart/api.ErrHeld",[116,119,105,110,114,97,109,112,97,114,116,58,32,104,101,108,100])]
def isSent (x:String×DataW Unit):Bool:=(sentL.map (·.1)).contains x.1
theorem Tryz.cellsES : Tryz.prog.cellsOf 314=1:=by kernel_rfl
theorem Tryz.cellsS : Tryz.prog.cellsOf 9=1:=by kernel_rfl
theorem Tryz.star:("*errors.errorString":String) = "*" ++ "errors.errorString":=by decide
theorem Tryz.rowES (u:TypeId) (h : Tryz.prog.typeName? 3 u=some "*errors.errorString"):u = 312 :=
 typeName_ptr_named (nm := "errors.errorString") (by rw[<- Tryz.star];kernel_rfl) (by kernel_rfl) (by decide) u (by rw[<- Tryz.star];exact h)
end Go.Proofs.YtabndgfdbdjdgaaGreatDoor
