/-
  What the claimed theorem reaches, part Q03.
-/
import Derived.Test.YtdpmeoflgpaljaaGreatDoorRows
import Derived.Test.YtdpmeoflgpaljaaGreatDoorProg
import Derived.LaidLaws
import Derived.LaidHandle
import Derived.LaidSub
import Derived.RowKitTokens
import Derived.Test.YtdpmeoflgpaljaaGreatDoorQ00
import Derived.Test.YtdpmeoflgpaljaaGreatDoorQ02
namespace Go.Proofs.YtdpmeoflgpaljaaGreatDoor
open Go.RowKit Go.ChangeShapes Go.WideShapes
set_option maxRecDepth 100000
set_option maxHeartbeats 8000000
def sentD (x:String×List UInt8):String×DataW Unit:=(x.1,.iface "*errors.errorString" (.ptr (.agg [.lit (.string x.2)])))
theorem sents_list {P:Program} {W:World} {ti tp te ts:TypeId} {ms:Array (String×TypeId)} {f:Field}
  (hi:P.underlying ti=some (.interface ms)) (hrow:∀u,P.typeName? 3 u=some "*errors.errorString"->u=tp)
  (hp:P.underlying tp=some (.pointer te)) (he:P.underlying te=some (.struct #[f])) (hft:f.type=ts) (hfo:f.offset=0) (hs:P.underlying ts=some .string) (hc:P.cellsOf te=1) (hcs:P.cellsOf ts=1) :
  ∀(L:List (String×List UInt8)) (ps:List MemPlace),(∀x,x ∈ L->∃g,P.globalNamed x.1=some g/\(P.globals[g]?).map (·.type)=some ti) ->
   DataW.LaidVars P W (L.map sentD) ps ->
   (∀b off,MemPlace.cell b off ∈ ps->(∃c t,W.heap[b]? = some (.cells c t (0,0)))/\∀u v,W.cell? ⟨b,off,none⟩=some (.iface u v)->Value.okWide P W .any 0 u v) ->
   ∃zs:List Addr,zs.length=L.length/\(∀(i:Nat) (x:String×List UInt8) (a:Addr),L[i]? = some x->zs[i]? = some a->W.var? P x.1=some #[.iface tp (.pointer (some a))]/\∃c t,W.heap[a.block]? = some (.cells c t (0,0))) /\
    (zs.map fun a=>MemPlace.cell a.block a.off).Sublist ps
 | [],ps,_,h,_=>by
  refine⟨[],rfl,fun i x a h=>by simp at h,?_⟩
  simp
 | x::r,ps,hty,h,hrows=>by
  obtain⟨g0,t0,cs0,f0,p0,q0,hg0,ht0,hv0,hd0,hq,e0⟩:=h
  obtain⟨g,hg,ht⟩:=hty x (by simp)
  have hg0':P.globalNamed x.1=some g0:=hg0
  obtain rfl:=Option.some.inj (hg.symm.trans hg0')
  obtain rfl:=Option.some.inj (ht.symm.trans ht0)
  subst e0
  obtain⟨l0⟩:=cs0
  have ok0:∀u v,l0=[.iface u v]->Value.okWide P W .any 0 u v:=fun u v e=>by
   subst e
   exact(hrows g 0 (by simp[MemPlace.row])).2 u v (by simpa using World.var?_cell hg0 hv0 0)
  obtain⟨a0,s0,rfl,hc0,hs0,hz0,rfl⟩:=errorString_of_trod hi hrow hp he hft hfo hs hc hcs hd0 ok0
  obtain⟨zs,hl,hf,hsub⟩:=sents_list hi hrow hp he hft hfo hs hc hcs r q0 (fun y hy=>hty y (List.mem_cons_of_mem _ hy)) hq
   (fun b off hm=>hrows b off (List.mem_append_right _ hm))
  refine⟨a0::zs,by simp[hl],?_,?_⟩
  ·intro i y a hy ha
   cases i with
   | zero =>
    simp only[List.getElem?_cons_zero,Option.some.injEq]at hy ha
    subst hy;subst ha
    exact⟨hv0,(hrows a0.block a0.off (by simp[MemPlace.row])).1⟩
   | succ i =>
    simp only[List.getElem?_cons_succ]at hy ha
    exact hf i y a hy ha
  ·have h2:(MemPlace.cell a0.block a0.off::zs.map fun a=>MemPlace.cell a.block a.off).Sublist (MemPlace.row a0 1++q0):=by
    simp[MemPlace.row];exact hsub
   have h3:(MemPlace.row a0 1++q0).Sublist (MemPlace.row (g,0) 1++MemPlace.row a0 1++q0):=by
    rw[List.append_assoc];exact List.sublist_append_right _ _
   exact h2.trans h3
def sentL:List (String×List UInt8):=[
 ("twinrampart/api.ErrText",[116,119,105,110,114,97,109,112,97,114,116,58,32,116,101,120,116]),
 ("twinrampart/api.ErrBound",[116,119,105,110,114,97,109,112,97,114,116,58,32,98,111,117,110,100]),
 ("twinrampart/api.ErrShape",[116,119,105,110,114,97,109,112,97,114,116,58,32,115,104,97,112,101]),
 ("twinrampart/api.ErrNone",[116,119,105,110,114,97,109,112,97,114,116,58,32,110,111,110,101]),
 ("twinrampart/api.ErrExist",[116,119,105,110,114,97,109,112,97,114,116,58,32,101,120,105,115,116]),
 ("twinrampart/api.ErrFull",[116,119,105,110,114,97,109,112,97,114,116,58,32,102,117,108,108]),
 ("twinrampart/api.ErrOff",[116,119,105,110,114,97,109,112,97,114,116,58,32,111,102,102]),
 ("twinrampart/api.ErrDeny",[116,119,105,110,114,97,109,112,97,114,116,58,32,100,101,110,121]),
 ("twinrampart/api.ErrState",[116,119,105,110,114,97,109,112,97,114,116,58,32,115,116,97,116,101]),
 ("twinrampart/api.ErrOld",[116,119,105,110,114,97,109,112,97,114,116,58,32,111,108,100]),
 ("twinrampart/api.ErrHeld",[116,119,105,110,114,97,109,112,97,114,116,58,32,104,101,108,100])]
def isSent (x:String×DataW Unit):Bool:=(sentL.map (·.1)).contains x.1
theorem Tryz.cellsES : Tryz.prog.cellsOf 330=1:=by kernel_rfl
theorem Tryz.cellsS : Tryz.prog.cellsOf 9=1:=by kernel_rfl
theorem Tryz.star:("*errors.errorString":String) = "*" ++ "errors.errorString":=by decide
theorem Tryz.rowES (u:TypeId) (h : Tryz.prog.typeName? 3 u=some "*errors.errorString"):u = 310 :=
 typeName_ptr_named (nm := "errors.errorString") (by rw[<- Tryz.star];kernel_rfl) (by kernel_rfl) (by decide) u (by rw[<- Tryz.star];exact h)
def isHandle (x:String×DataW Unit):Bool:=x.1 == "errors.errorType"
def handleD:DataW Unit:=.iface "internal/reflectlite.rtype" (.agg [.ptr (.lit (.string [101,114,114,111,114]))])
theorem Tryz.gText : Tryz.prog.globalNamed "twinrampart/api.ErrText"=some 4:=by kernel_rfl
theorem Tryz.gBound : Tryz.prog.globalNamed "twinrampart/api.ErrBound"=some 2:=by kernel_rfl
theorem Tryz.gShape : Tryz.prog.globalNamed "twinrampart/api.ErrShape"=some 5:=by kernel_rfl
theorem Tryz.gNone : Tryz.prog.globalNamed "twinrampart/api.ErrNone"=some 1:=by kernel_rfl
theorem Tryz.gExist : Tryz.prog.globalNamed "twinrampart/api.ErrExist"=some 6:=by kernel_rfl
theorem Tryz.gFull : Tryz.prog.globalNamed "twinrampart/api.ErrFull"=some 7:=by kernel_rfl
theorem Tryz.gOff : Tryz.prog.globalNamed "twinrampart/api.ErrOff"=some 0:=by kernel_rfl
theorem Tryz.gDeny : Tryz.prog.globalNamed "twinrampart/api.ErrDeny"=some 8:=by kernel_rfl
theorem Tryz.gState : Tryz.prog.globalNamed "twinrampart/api.ErrState"=some 9:=by kernel_rfl
theorem Tryz.gOld : Tryz.prog.globalNamed "twinrampart/api.ErrOld"=some 10:=by kernel_rfl
theorem Tryz.gHeld : Tryz.prog.globalNamed "twinrampart/api.ErrHeld"=some 3:=by kernel_rfl
theorem Tryz.gEt : Tryz.prog.globalNamed "errors.errorType"=some 11:=by kernel_rfl
theorem Tryz.sentTypes:(sentL.all fun x=>match Tryz.prog.globalNamed x.1 with | some g=>(match Tryz.prog.globals[g]? with | some v=>v.type == 30 | none=>false) | none=>false)=true:=by kernel_rfl
theorem Tryz.rt:(Tryz.prog.cutTypes.find? (·.1 == "internal/reflectlite.rtype")).map (·.2)=some 214:=by kernel_rfl
theorem Tryz.oneRow:((List.range 342).filter fun t => Tryz.prog.rowNamed t [101,114,114,111,114])=[30]:=by kernel_rfl
theorem Tryz.sizeT : Tryz.prog.types.size = 342:=by kernel_rfl
theorem sents_of_laid {l:List (String×DataW Unit)} {W:World} (h:laidMetH Tryz.prog l W)
  (e1:l.filter isSent=sentL.map sentD) (e2:l.filter isHandle=[("errors.errorType",handleD)]):∃s,Sents W s:=by
 have h1:=h.filter isSent
 rw[e1]at h1
 have h1':laidMet Tryz.prog (sentL.map sentD) W:=h1
 have h2:=h.filter isHandle
 rw[e2]at h2
 have h2':laidMet Tryz.prog [] W/\handlesMet Tryz.prog [("errors.errorType",handleD)] W:=h2
 have het:W.cell? (11,0)=some (.iface 214 (.agg #[.pointer (some (14,30))])):=by
  obtain⟨name,u,ty,k1,k2,k3,k4,k5⟩:=h2'.2 _ (List.mem_singleton.2 rfl)
  have en:name=[101,114,114,111,114]:=(Option.some.inj k1).symm
  subst en
  obtain rfl:=Option.some.inj (Tryz.rt.symm.trans k2)
  have hm:ty ∈ (List.range 342).filter fun t => Tryz.prog.rowNamed t [101,114,114,111,114]:=List.mem_filter.2 ⟨List.mem_range.2 (by rw[<- Tryz.sizeT];exact k3),k4⟩
  rw[Tryz.oneRow]at hm
  obtain rfl:=List.mem_singleton.1 hm
  have hh:typeHandle Tryz.prog 30=.pointer (some (14,30)):=by kernel_rfl
  rw[hh]at k5
  simpa using World.var?_cell Tryz.gEt k5 0
 obtain⟨ps,hv,hnd,hrows⟩:=h1'
 obtain⟨zs,hlen,hf,hsub⟩:=sents_list Tryz.underlying30 Tryz.rowES Tryz.underlying310 Tryz.underlying330 rfl rfl Tryz.underlying9 Tryz.cellsES Tryz.cellsS sentL ps
  (fun x hx=>by
   have:=List.all_eq_true.1 Tryz.sentTypes x hx
   revert this
   cases hg : Tryz.prog.globalNamed x.1 with
   | none=>intro h;cases h
   | some g =>
    intro h
    refine⟨g,rfl,?_⟩
    cases hv : Tryz.prog.globals[g]? with
    | none=>simp[hv]at h
    | some v=>simp[hv]at h;simp[h]) hv hrows
 have hl:zs.length=11:=by rw[hlen];rfl
 have hnd':=hnd.sublist hsub
 have at':∀i:Nat,i < 11->zs[i]? = some (zs.getD i (0,0)):=fun i hi=>by
  rw[List.getD_eq_getElem?_getD,List.getElem?_eq_getElem (by omega)];rfl
 have cellOf:∀(i:Nat) (x:String×List UInt8) (g:Nat),i < 11->sentL[i]? = some x -> Tryz.prog.globalNamed x.1=some g->W.cell? (g,0)=some (.iface 310 (.pointer (some (zs.getD i (0,0))))):=fun i x g hi hx hg=>by
  simpa using World.var?_cell hg (hf i x _ hx (at' i hi)).1 0
 refine⟨fun i=>zs.getD i (0,0),⟨het,cellOf 0 _ _ (by omega) rfl Tryz.gText,cellOf 1 _ _ (by omega) rfl Tryz.gBound,cellOf 2 _ _ (by omega) rfl Tryz.gShape,cellOf 3 _ _ (by omega) rfl Tryz.gNone,
  cellOf 4 _ _ (by omega) rfl Tryz.gExist,cellOf 5 _ _ (by omega) rfl Tryz.gFull,cellOf 6 _ _ (by omega) rfl Tryz.gOff,cellOf 7 _ _ (by omega) rfl Tryz.gDeny,cellOf 8 _ _ (by omega) rfl Tryz.gState,
  cellOf 9 _ _ (by omega) rfl Tryz.gOld,cellOf 10 _ _ (by omega) rfl Tryz.gHeld,fun i hi=>?_,fun i j hi hj hij=>?_⟩⟩
 ·obtain⟨x,hx⟩:∃x,sentL[i]? = some x:=by
   have:i < sentL.length:=by show i < 11;exact hi
   exact⟨_,List.getElem?_eq_getElem this⟩
  exact(hf i x _ hx (at' i hi)).2
 ·intro he
  have he':zs.getD i (0,0)=zs.getD j (0,0):=he
  have e1:=at' i hi
  have e2:=at' j hj
  have n1:(zs.map fun a=>MemPlace.cell a.block a.off)[i]? = some (.cell (zs.getD i (0,0)).block (zs.getD i (0,0)).off):=by rw[List.getElem?_map,e1];rfl
  have n2:(zs.map fun a=>MemPlace.cell a.block a.off)[j]? = some (.cell (zs.getD i (0,0)).block (zs.getD i (0,0)).off):=by rw[List.getElem?_map,e2,he'];rfl
  exact hij ((List.getElem?_inj (by simp;omega) hnd').1 (n1.trans n2.symm))
end Go.Proofs.YtdpmeoflgpaljaaGreatDoor
