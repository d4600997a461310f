/-
  What the claimed theorem reaches, part Q36.
-/
import Derived.Test.YtabndgfdbdjdgaaGreatDoorRows
import Derived.Test.YtabndgfdbdjdgaaGreatDoorQ32
import Derived.Test.YtabndgfdbdjdgaaGreatDoorQ01
import Derived.LaidLaws
import Derived.LaidHandle
import Derived.LaidSub
import Derived.RowKitTokens
import Derived.Test.YtabndgfdbdjdgaaGreatDoorQ00
namespace Go.Proofs.YtabndgfdbdjdgaaGreatDoor
open Go.RowKit Go.ChangeShapes Go.WideShapes
set_option maxRecDepth 100000
set_option maxHeartbeats 8000000
def isHandle (x:String×DataW Unit):Bool:=x.1 == "errors.errorType"
def handleD:DataW Unit:=.iface "internal/reflectlite.rtype" (.agg [.ptr (.lit (.string [101,114,114,111,114]))])
theorem Tryz.gText : Tryz.prog.globalNamed "twinrampart/api.ErrText"=some 1:=by kernel_rfl
theorem Tryz.gBound : Tryz.prog.globalNamed "twinrampart/api.ErrBound"=some 0:=by kernel_rfl
theorem Tryz.gShape : Tryz.prog.globalNamed "twinrampart/api.ErrShape"=some 2:=by kernel_rfl
theorem Tryz.gNone : Tryz.prog.globalNamed "twinrampart/api.ErrNone"=some 3:=by kernel_rfl
theorem Tryz.gExist : Tryz.prog.globalNamed "twinrampart/api.ErrExist"=some 4:=by kernel_rfl
theorem Tryz.gFull : Tryz.prog.globalNamed "twinrampart/api.ErrFull"=some 5:=by kernel_rfl
theorem Tryz.gOff : Tryz.prog.globalNamed "twinrampart/api.ErrOff"=some 6:=by kernel_rfl
theorem Tryz.gDeny : Tryz.prog.globalNamed "twinrampart/api.ErrDeny"=some 7:=by kernel_rfl
theorem Tryz.gState : Tryz.prog.globalNamed "twinrampart/api.ErrState"=some 8:=by kernel_rfl
theorem Tryz.gOld : Tryz.prog.globalNamed "twinrampart/api.ErrOld"=some 9:=by kernel_rfl
theorem Tryz.gHeld : Tryz.prog.globalNamed "twinrampart/api.ErrHeld"=some 10:=by kernel_rfl
theorem Tryz.gEt : Tryz.prog.globalNamed "errors.errorType"=some 11:=by kernel_rfl
theorem Tryz.sentTypes:(sentL.all fun x=>match Tryz.prog.globalNamed x.1 with | some g=>(match Tryz.prog.globals[g]? with | some v=>v.type == 25 | none=>false) | none=>false)=true:=by kernel_rfl
theorem Tryz.rt:(Tryz.prog.cutTypes.find? (·.1 == "internal/reflectlite.rtype")).map (·.2)=some 195:=by kernel_rfl
theorem Tryz.oneRow:((List.range 375).filter fun t => Tryz.prog.rowNamed t [101,114,114,111,114])=[25]:=by kernel_rfl
theorem Tryz.sizeT : Tryz.prog.types.size = 375:=by kernel_rfl
theorem sents_of_laid {l:List (String×DataW Unit)} {W:World} (h:laidMetH Tryz.prog l W)
  (e1:l.filter isSent=sentL.map sentD) (e2:l.filter isHandle=[("errors.errorType",handleD)]):∃s,Sents W s:=by
 have h1:=h.filter isSent
 rw[e1]at h1
 have h1':laidMet Tryz.prog (sentL.map sentD) W:=h1
 have h2:=h.filter isHandle
 rw[e2]at h2
 have h2':laidMet Tryz.prog [] W/\handlesMet Tryz.prog [("errors.errorType",handleD)] W:=h2
 have het:W.cell? (11,0)=some (.iface 195 (.agg #[.pointer (some (27,25))])):=by
  obtain⟨name,u,ty,k1,k2,k3,k4,k5⟩:=h2'.2 _ (List.mem_singleton.2 rfl)
  have en:name=[101,114,114,111,114]:=(Option.some.inj k1).symm
  subst en
  obtain rfl:=Option.some.inj (Tryz.rt.symm.trans k2)
  have hm:ty ∈ (List.range 375).filter fun t => Tryz.prog.rowNamed t [101,114,114,111,114]:=List.mem_filter.2 ⟨List.mem_range.2 (by rw[<- Tryz.sizeT];exact k3),k4⟩
  rw[Tryz.oneRow]at hm
  obtain rfl:=List.mem_singleton.1 hm
  have hh:typeHandle Tryz.prog 25=.pointer (some (27,25)):=by kernel_rfl
  rw[hh]at k5
  simpa using World.var?_cell Tryz.gEt k5 0
 obtain⟨ps,hv,hnd,hrows⟩:=h1'
 obtain⟨zs,hlen,hf,hsub⟩:=sents_list Tryz.underlying25 Tryz.rowES Tryz.underlying312 Tryz.underlying314 rfl rfl Tryz.underlying9 Tryz.cellsES Tryz.cellsS sentL ps
  (fun x hx=>by
   have:=List.all_eq_true.1 Tryz.sentTypes x hx
   revert this
   cases hg : Tryz.prog.globalNamed x.1 with
   | none=>intro h;cases h
   | some g =>
    intro h
    refine⟨g,rfl,?_⟩
    cases hv : Tryz.prog.globals[g]? with
    | none=>simp[hv]at h
    | some v=>simp[hv]at h;simp[h]) hv hrows
 have hl:zs.length=11:=by rw[hlen];rfl
 have hnd':=hnd.sublist hsub
 have at':∀i:Nat,i < 11->zs[i]? = some (zs.getD i (0,0)):=fun i hi=>by
  rw[List.getD_eq_getElem?_getD,List.getElem?_eq_getElem (by omega)];rfl
 have cellOf:∀(i:Nat) (x:String×List UInt8) (g:Nat),i < 11->sentL[i]? = some x -> Tryz.prog.globalNamed x.1=some g->W.cell? (g,0)=some (.iface 312 (.pointer (some (zs.getD i (0,0))))):=fun i x g hi hx hg=>by
  simpa using World.var?_cell hg (hf i x _ hx (at' i hi)).1 0
 refine⟨fun i=>zs.getD i (0,0),⟨het,cellOf 0 _ _ (by omega) rfl Tryz.gText,cellOf 1 _ _ (by omega) rfl Tryz.gBound,cellOf 2 _ _ (by omega) rfl Tryz.gShape,cellOf 3 _ _ (by omega) rfl Tryz.gNone,
  cellOf 4 _ _ (by omega) rfl Tryz.gExist,cellOf 5 _ _ (by omega) rfl Tryz.gFull,cellOf 6 _ _ (by omega) rfl Tryz.gOff,cellOf 7 _ _ (by omega) rfl Tryz.gDeny,cellOf 8 _ _ (by omega) rfl Tryz.gState,
  cellOf 9 _ _ (by omega) rfl Tryz.gOld,cellOf 10 _ _ (by omega) rfl Tryz.gHeld,fun i hi=>?_,fun i j hi hj hij=>?_⟩⟩
 ·obtain⟨x,hx⟩:∃x,sentL[i]? = some x:=by
   have:i < sentL.length:=by show i < 11;exact hi
   exact⟨_,List.getElem?_eq_getElem this⟩
  exact(hf i x _ hx (at' i hi)).2
 ·intro he
  have he':zs.getD i (0,0)=zs.getD j (0,0):=he
  have e1:=at' i hi
  have e2:=at' j hj
  have n1:(zs.map fun a=>MemPlace.cell a.block a.off)[i]? = some (.cell (zs.getD i (0,0)).block (zs.getD i (0,0)).off):=by rw[List.getElem?_map,e1];rfl
  have n2:(zs.map fun a=>MemPlace.cell a.block a.off)[j]? = some (.cell (zs.getD i (0,0)).block (zs.getD i (0,0)).off):=by rw[List.getElem?_map,e2,he'];rfl
  exact hij ((List.getElem?_inj (by simp;omega) hnd').1 (n1.trans n2.symm))
end Go.Proofs.YtabndgfdbdjdgaaGreatDoor
