/-
  What the claimed theorem reaches, part Q27.
-/
import Derived.Test.YtabndgfdbdjdgaaGreatDoorCards
import Derived.Test.YtabndgfdbdjdgaaGreatDoorTie
import Derived.Test.YtabndgfdbdjdgaaGreatDoorQ01
import Derived.Test.YtabndgfdbdjdgaaGreatDoorQ26
import Derived.Test.YtabndgfdbdjdgaaGreatDoorQ24
import Derived.Test.YtabndgfdbdjdgaaGreatDoorQ16
import Derived.ProofKit
import Derived.LaidMore
import Derived.Lay
import Derived.OpenShut
import Derived.Stop.Joined
import Derived.SevenTiedAt
import Derived.Deep.DeepHandedRow
import Derived.Deep.DeepWitnessRowRef
import Derived.Deep.Slices
import Derived.Lib.LaidTab
import Derived.Shelf.Vars
import Derived.ShapedOpen
import Derived.Test.YtabndgfdbdjdgaaGreatDoorQ00
namespace Go.Proofs.YtabndgfdbdjdgaaGreatDoor
open Go.ChangeShapes Go.WideShapes Go.ChangeAt Go.RowKit
set_option maxRecDepth 100000
set_option maxHeartbeats 8000000
theorem sents_list2 {P:Program} {W:World} {ti tp te ts:TypeId} {ms:Array (String×TypeId)} {f:Field}
  (hi:P.underlying ti=some (.interface ms)) (hrow:∀u,P.typeName? 3 u=some "*errors.errorString"->u=tp)
  (hp:P.underlying tp=some (.pointer te)) (he:P.underlying te=some (.struct #[f])) (hft:f.type=ts) (hfo:f.offset=0) (hs:P.underlying ts=some .string) (hc:P.cellsOf te=1) (hcs:P.cellsOf ts=1) :
  ∀(L:List (String×List UInt8)) (ps:List MemPlace),(∀x,x ∈ L->∃g,P.globalNamed x.1=some g/\(P.globals[g]?).map (·.type)=some ti) ->
   DataW.LaidVars P W (L.map sentD) ps ->
   (∀b off,MemPlace.cell b off ∈ ps->(∃c t,W.heap[b]? = some (.cells c t (0,0)))/\∀u v,W.cell? ⟨b,off,none⟩=some (.iface u v)->Value.okWide P W .any 0 u v) ->
   ∃zs:List Addr,zs.length=L.length/\(∀(i:Nat) (x:String×List UInt8) (a:Addr),L[i]? = some x->zs[i]? = some a->W.var? P x.1=some #[.iface tp (.pointer (some a))]/\∃z:ByteArray,W.cell? a=some (.string z)/\z.data.toList=x.2)
 | [],ps,_,h,_=>by
  exact⟨[],rfl,fun i x a h=>by simp at h⟩
 | x::r,ps,hty,h,hrows=>by
  obtain⟨g0,t0,cs0,f0,p0,q0,hg0,ht0,hv0,hd0,hq,e0⟩:=h
  obtain⟨g,hg,ht⟩:=hty x (by simp)
  have hg0':P.globalNamed x.1=some g0:=hg0
  obtain rfl:=Option.some.inj (hg.symm.trans hg0')
  obtain rfl:=Option.some.inj (ht.symm.trans ht0)
  subst e0
  obtain⟨l0⟩:=cs0
  have ok0:∀u v,l0=[.iface u v]->Value.okWide P W .any 0 u v:=fun u v e=>by
   subst e
   exact(hrows g 0 (by simp[MemPlace.row])).2 u v (by simpa using World.var?_cell hg0 hv0 0)
  obtain⟨a0,s0,rfl,hc0,hs0,hz0,rfl⟩:=errorString_of_trod hi hrow hp he hft hfo hs hc hcs hd0 ok0
  obtain⟨zs,hl,hf⟩:=sents_list2 hi hrow hp he hft hfo hs hc hcs r q0 (fun y hy=>hty y (List.mem_cons_of_mem _ hy)) hq
   (fun b off hm=>hrows b off (List.mem_append_right _ hm))
  refine⟨a0::zs,by simp[hl],?_⟩
  ·intro i y a hy ha
   cases i with
   | zero =>
    simp only[List.getElem?_cons_zero,Option.some.injEq]at hy ha
    subst hy;subst ha
    exact⟨hv0,s0,hc0,hs0⟩
   | succ i =>
    simp only[List.getElem?_cons_succ]at hy ha
    exact hf i y a hy ha
def isOne (n:String) (x:String×DataW Unit):Bool:=x.1==n
theorem Tryz.gPow : Tryz.prog.globalNamed "internal/strconv.uint64pow10"=some 19:=by kernel_rfl
theorem Tryz.gPowT:(Tryz.prog.globals[19]?).map (·.type)=some 307:=by kernel_rfl
theorem Tryz.cellsU64 : Tryz.prog.cellsOf 267=1:=by kernel_rfl
theorem Tryz.cellsPow : Tryz.prog.cellsOf 307=20:=by kernel_rfl
theorem pow_of_laid {l:List (String×DataW Unit)} {W:World} (h:laidMetH Tryz.prog l W) (e:l.filter (isOne "internal/strconv.uint64pow10")=[("internal/strconv.uint64pow10",Lib.tabData .u64 Lib.pow10Tab)]):Pow W:=by
 have h1:=h.filter (isOne "internal/strconv.uint64pow10")
 rw[e]at h1
 exact Lib.tabIs_of_head (rest:=[]) Tryz.gPow Tryz.gPowT Tryz.underlying307 Tryz.underlying267 Tryz.cellsU64 Tryz.cellsPow h1
theorem row_words {H:Type} {enc:TypeId×Value->H} {W:World} {base:Nat} {sp:Nat->Bool} {held:Bool} {fuel:Nat} {cs:List Value} {x:DataW H×List MemPlace} (h:DataW.trod enc Tryz.prog W base sp held fuel 22 cs=some x)
  (ws:List (List UInt8)) (hw:ws≠[]) (hx:x.1=.slice (ws.map fun t=>.lit (.string t)) []) :
  ∃b o k:Nat,cs=[.slice (some ⟨b,o,none⟩) ws.length k]/\∀(j:Nat) t,ws[j]? = some t->W.cell? ⟨b,o+j,none⟩=some (.string ⟨t.toArray⟩):=by
 rcases Go.Deep.open_slice1 Tryz.underlying22 Tryz.cellsS h with⟨_,rfl⟩ | ⟨a,len,cap,m,n,V,D,Pl,rfl,_,hlc,_,hm,rfl,hV⟩
 ·cases hx
 have hlm:len<=m:=by rw[hm];split <;> omega
 have hE:(List.range len).map D=ws.map fun t=>.lit (.string t):=(DataW.slice.inj hx).1
 have hlen:len=ws.length:=by have:=congrArg List.length hE;simpa using this
 subst hlen
 have key:∀(j:Nat) t,ws[j]? = some t->W.cell? (a.add j)=some (.string ⟨t.toArray⟩):=fun j t hj=>by
  obtain⟨hlt,_⟩:=List.getElem?_eq_some_iff.1 hj
  obtain⟨h1,h2⟩:=hV j (by omega)
  obtain⟨z,e1,e2,_⟩:=DataW.trod_string Tryz.underlying9 h2
  have e3:D j=.lit (.string t):=by
   have h3:((List.range ws.length).map D)[j]? = some (D j):=by rw[List.getElem?_map,List.getElem?_range hlt];rfl
   rw[hE,List.getElem?_map,hj]at h3
   exact(Option.some.inj h3).symm
  rw[h1]
  have e4:V j=.string z:=by simpa using e1
  have e5:t=z.data.toList:=by
   have:=(Prod.mk.inj e2).1
   rw[e3]at this
   simpa using this
  rw[e4]
  have:z=⟨t.toArray⟩:=by apply ByteArray.ext;apply Array.ext';rw[e5]
  rw[this]
 obtain⟨b,o,sp'⟩:=a
 obtain⟨t0,ht0⟩:∃t,ws[0]? = some t:=by
  cases ws with
  | nil=>exact absurd rfl hw
  | cons t r=>exact⟨t,rfl⟩
 have hsp:sp'=none:=by
  have h0:=key 0 t0 ht0
  cases sp' with
  | none=>rfl
  | some q =>
   have e:Addr.add ⟨b,o,some q⟩ 0=⟨b,o,some q⟩:=rfl
   rw[e]at h0
   unfold World.cell? at h0
   split at h0
   ·simp at h0
   ·cases h0
 subst hsp
 exact⟨b,o,cap,rfl,fun j t hj=>by rw[<- addr_add];exact key j t hj⟩
theorem Tryz.gPn : Tryz.prog.globalNamed "twinrampart/policy.names"=some 13:=by kernel_rfl
theorem Tryz.gPnT:(Tryz.prog.globals[13]?).map (·.type)=some 164:=by kernel_rfl
theorem Tryz.cellsSl : Tryz.prog.cellsOf 22=1:=by kernel_rfl
def pnW:List (List (List UInt8)):=[[[100,101,110,121],[97,108,108,111,119]],[[105,110],[111,117,116]],[[97,110,121],[117,100,112],[116,99,112]]]
def pnD:DataW Unit:=.agg (pnW.map fun r=>.slice (r.map fun t=>.lit (.string t)) [])
theorem pnm_of_laid {l:List (String×DataW Unit)} {W:World} (h:laidMetH Tryz.prog l W) (e:l.filter (isOne "twinrampart/policy.names")=[("twinrampart/policy.names",pnD)]):PNm W:=by
 have h1:=h.filter (isOne "twinrampart/policy.names")
 rw[e]at h1
 have h2:laidMet Tryz.prog [("twinrampart/policy.names",pnD)] W:=h1
 obtain⟨ps,⟨g,t,cs,fuel,p,q,hg,ht,hv,hd,_,_⟩,_,_⟩:=h2
 obtain rfl:=Option.some.inj (Tryz.gPn.symm.trans hg)
 obtain rfl:=Option.some.inj (Tryz.gPnT.symm.trans ht)
 obtain⟨xs,m,_,ex,_,hl,hel⟩:=DataW.trod_array Tryz.underlying164 hd
 have e3:(xs.map (·.1))=pnW.map fun r=>.slice (r.map fun t=>.lit (.string t)) []:=(DataW.agg.inj (Prod.mk.inj ex).1).symm
 have key:∀(r:Nat) (ws:List (List UInt8)),r < 3->pnW[r]? = some ws->ws≠[]->∃b o k:Nat,W.cell? ⟨13,r,none⟩=some (.slice (some ⟨b,o,none⟩) ws.length k)/\∀(j:Nat) t,ws[j]? = some t->W.cell? ⟨b,o+j,none⟩=some (.string ⟨t.toArray⟩):=fun r ws hr hx hne=>by
  have hE:=hel r hr
  rw[Tryz.cellsSl,Nat.mul_one,List.getElem?_eq_getElem (by omega)]at hE
  have hx1:(xs[r]'(by omega)).1=.slice (ws.map fun t=>.lit (.string t)) []:=by
   have h4:(xs.map (·.1))[r]? = some (.slice (ws.map fun t=>.lit (.string t)) []):=by rw[e3,List.getElem?_map,hx];rfl
   rw[List.getElem?_map,List.getElem?_eq_getElem (by omega:r < xs.length)]at h4
   exact Option.some.inj h4
  obtain⟨b,o,k,e1,hc⟩:=row_words hE ws hne hx1
  refine⟨b,o,k,?_,hc⟩
  rw[World.var?_cell hg hv r]
  have h0:((cs.toList.drop r).take 1)[0]? = some (.slice (some ⟨b,o,none⟩) ws.length k):=by rw[e1];rfl
  simpa using h0
 intro i hi
 match i,hi with
 | 0,_ =>
  obtain⟨b,o,k,h1,h2⟩:=key 0 _ (by omega) rfl (by simp)
  refine⟨b,o,k,h1,fun j hj=>?_⟩
  match j,hj with
  | 0,_=>exact h2 0 _ rfl
  | 1,_=>exact h2 1 _ rfl
 | 1,_ =>
  obtain⟨b,o,k,h1,h2⟩:=key 1 _ (by omega) rfl (by simp)
  refine⟨b,o,k,h1,fun j hj=>?_⟩
  match j,hj with
  | 0,_=>exact h2 0 _ rfl
  | 1,_=>exact h2 1 _ rfl
 | 2,_ =>
  obtain⟨b,o,k,h1,h2⟩:=key 2 _ (by omega) rfl (by simp)
  refine⟨b,o,k,h1,fun j hj=>?_⟩
  match j,hj with
  | 0,_=>exact h2 0 _ rfl
  | 1,_=>exact h2 1 _ rfl
  | 2,_=>exact h2 2 _ rfl
theorem Tryz.gNm : Tryz.prog.globalNamed "twinrampart/packet.flagNames"=some 12:=by kernel_rfl
theorem Tryz.gNmT:(Tryz.prog.globals[12]?).map (·.type)=some 159:=by kernel_rfl
def nmD:DataW Unit:=.agg [.lit (.string [115,121,110]),.lit (.string [97,99,107]),.lit (.string [102,105,110]),.lit (.string [114,115,116])]
theorem nms_of_laid {l:List (String×DataW Unit)} {W:World} (h:laidMetH Tryz.prog l W) (e:l.filter (isOne "twinrampart/packet.flagNames")=[("twinrampart/packet.flagNames",nmD)]):Nms W:=by
 have h1:=h.filter (isOne "twinrampart/packet.flagNames")
 rw[e]at h1
 have h2:laidMet Tryz.prog [("twinrampart/packet.flagNames",nmD)] W:=h1
 obtain⟨ps,⟨g,t,cs,fuel,p,q,hg,ht,hv,hd,_,_⟩,_,_⟩:=h2
 obtain rfl:=Option.some.inj (Tryz.gNm.symm.trans hg)
 obtain rfl:=Option.some.inj (Tryz.gNmT.symm.trans ht)
 obtain⟨xs,m,_,ex,_,hl,hel⟩:=DataW.trod_array Tryz.underlying159 hd
 have e3:(xs.map (·.1))=[.lit (.string [115,121,110]),.lit (.string [97,99,107]),.lit (.string [102,105,110]),.lit (.string [114,115,116])]:=(DataW.agg.inj (Prod.mk.inj ex).1).symm
 have key:∀(r:Nat) (t:List UInt8),r < 4->(xs.map (·.1))[r]? = some (.lit (.string t))->W.cell? ⟨12,r,none⟩=some (.string ⟨t.toArray⟩):=fun r t hr hx=>by
  have hE:=hel r hr
  rw[Tryz.cellsS,Nat.mul_one,List.getElem?_eq_getElem (by omega)]at hE
  obtain⟨z,e1,e2,_⟩:=DataW.trod_string Tryz.underlying9 hE
  rw[List.getElem?_map,List.getElem?_eq_getElem (by omega:r < xs.length),e2]at hx
  simp only[Option.map_some,Option.some.injEq,DataW.lit.injEq,Lit.string.injEq]at hx
  rw[World.var?_cell hg hv r]
  have h0:((cs.toList.drop r).take 1)[0]? = some (.string z):=by rw[e1];rfl
  have h3:cs[r]? = some (.string z):=by simpa using h0
  rw[h3]
  have:z=⟨t.toArray⟩:=by apply ByteArray.ext;apply Array.ext';rw[hx]
  rw[this]
 exact⟨key 0 _ (by omega) (by rw[e3];rfl),key 1 _ (by omega) (by rw[e3];rfl),key 2 _ (by omega) (by rw[e3];rfl),key 3 _ (by omega) (by rw[e3];rfl)⟩
def libL:List (String×List UInt8):=[("strconv.ErrRange",[118,97,108,117,101,32,111,117,116,32,111,102,32,114,97,110,103,101]),("strconv.ErrSyntax",[105,110,118,97,108,105,100,32,115,121,110,116,97,120])]
def isLib (x:String×DataW Unit):Bool:=(libL.map (·.1)).contains x.1
theorem Tryz.gSyn : Tryz.prog.globalNamed "strconv.ErrSyntax"=some 15:=by kernel_rfl
theorem Tryz.gRan : Tryz.prog.globalNamed "strconv.ErrRange"=some 16:=by kernel_rfl
theorem Tryz.gSynT:(Tryz.prog.globals[15]?).map (·.type)=some 25:=by kernel_rfl
theorem Tryz.gRanT:(Tryz.prog.globals[16]?).map (·.type)=some 25:=by kernel_rfl
theorem libs_of {l:List (String×DataW Unit)} {W:World} (h:laidMetH Tryz.prog l W) (e:l.filter isLib=libL.map sentD) (hS:W.ShapedOpen Tryz.prog):Libs W:=by
 have h1:=h.filter isLib
 rw[e]at h1
 have h2:laidMet Tryz.prog (libL.map sentD) W:=h1
 obtain⟨ps,hv,hnd,hrows⟩:=h2
 obtain⟨zs,hlen,hf⟩:=sents_list2 Tryz.underlying25 Tryz.rowES Tryz.underlying312 Tryz.underlying314 rfl rfl Tryz.underlying9 Tryz.cellsES Tryz.cellsS libL ps
  (fun x hx=>by
   simp only[libL,List.mem_cons,List.not_mem_nil,or_false]at hx
   rcases hx with rfl | rfl
   ·exact⟨_,Tryz.gRan,Tryz.gRanT⟩
   ·exact⟨_,Tryz.gSyn,Tryz.gSynT⟩) hv hrows
 have hl:zs.length=2:=by rw[hlen];rfl
 have at':∀i:Nat,i < 2->zs[i]? = some (zs.getD i ⟨0,0,none⟩):=fun i hi=>by
  rw[List.getD_eq_getElem?_getD,List.getElem?_eq_getElem (by omega)];rfl
 refine⟨?_,?_,?_⟩
 ·exact cell_of_shapedOpen_int (g := 14) (t := 3) (k:=.i64) (zero:=#[.int .i64 0]) hS (of_decide_eq_true (by kernel_rfl)) (by kernel_rfl) rfl (by kernel_rfl) (by kernel_rfl) Tryz.underlying3
 ·exact⟨_,_,by simpa using World.var?_cell Tryz.gSyn (hf 1 _ _ rfl (at' 1 (by omega))).1 0⟩
 ·exact⟨_,_,by simpa using World.var?_cell Tryz.gRan (hf 0 _ _ rfl (at' 0 (by omega))).1 0⟩
theorem Tryz.gTextSc : Tryz.prog.globalNamed "twinrampart/api.ErrText"=some 1:=by kernel_rfl
theorem Tryz.gBoundSc : Tryz.prog.globalNamed "twinrampart/api.ErrBound"=some 0:=by kernel_rfl
theorem Tryz.gShapeSc : Tryz.prog.globalNamed "twinrampart/api.ErrShape"=some 2:=by kernel_rfl
theorem Tryz.gNoneSc : Tryz.prog.globalNamed "twinrampart/api.ErrNone"=some 3:=by kernel_rfl
theorem Tryz.gExistSc : Tryz.prog.globalNamed "twinrampart/api.ErrExist"=some 4:=by kernel_rfl
theorem Tryz.gFullSc : Tryz.prog.globalNamed "twinrampart/api.ErrFull"=some 5:=by kernel_rfl
theorem Tryz.gOffSc : Tryz.prog.globalNamed "twinrampart/api.ErrOff"=some 6:=by kernel_rfl
theorem Tryz.gDenySc : Tryz.prog.globalNamed "twinrampart/api.ErrDeny"=some 7:=by kernel_rfl
theorem Tryz.gStateSc : Tryz.prog.globalNamed "twinrampart/api.ErrState"=some 8:=by kernel_rfl
theorem Tryz.gOldSc : Tryz.prog.globalNamed "twinrampart/api.ErrOld"=some 9:=by kernel_rfl
theorem Tryz.gHeldSc : Tryz.prog.globalNamed "twinrampart/api.ErrHeld"=some 10:=by kernel_rfl
theorem Tryz.typesSc:(sentL.all fun x=>match Tryz.prog.globalNamed x.1 with | some g=>(match Tryz.prog.globals[g]? with | some v=>v.type == 25 | none=>false) | none=>false)=true:=by kernel_rfl
theorem ses_of_laid {l:List (String×DataW Unit)} {W:World} (h:laidMetH Tryz.prog l W) (e1:l.filter isSent=sentL.map sentD):∃s,SeS W s:=by
 have h1:=h.filter isSent
 rw[e1]at h1
 have h1':laidMet Tryz.prog (sentL.map sentD) W:=h1
 obtain⟨ps,hv,hnd,hrows⟩:=h1'
 obtain⟨zs,hlen,hf⟩:=sents_list2 Tryz.underlying25 Tryz.rowES Tryz.underlying312 Tryz.underlying314 rfl rfl Tryz.underlying9 Tryz.cellsES Tryz.cellsS sentL ps
  (fun x hx=>by
   have:=List.all_eq_true.1 Tryz.typesSc x hx
   revert this
   cases hg : Tryz.prog.globalNamed x.1 with
   | none=>intro h;cases h
   | some g =>
    intro h
    refine⟨g,rfl,?_⟩
    cases hv : Tryz.prog.globals[g]? with
    | none=>simp[hv]at h
    | some v=>simp[hv]at h;simp[h]) hv hrows
 have hl:zs.length=11:=by rw[hlen];rfl
 have at':∀i:Nat,i < 11->zs[i]? = some (zs.getD i ⟨0,0,none⟩):=fun i hi=>by
  rw[List.getD_eq_getElem?_getD,List.getElem?_eq_getElem (by omega)];rfl
 have cellOf:∀(i:Nat) (x:String×List UInt8) (g:Nat),i < 11->sentL[i]? = some x -> Tryz.prog.globalNamed x.1=some g->W.cell? ⟨g,0,none⟩=some (.iface 312 (.pointer (some (zs.getD i ⟨0,0,none⟩)))):=fun i x g hi hx hg=>by
  simpa using World.var?_cell hg (hf i x _ hx (at' i hi)).1 0
 have textOf:∀(i:Nat) (x:String×List UInt8),i < 11->sentL[i]? = some x->x.2=(etx i).data.toList->W.cell? (zs.getD i ⟨0,0,none⟩)=some (.string (etx i)):=fun i x hi hx ht=>by
  obtain⟨_,z,hz,he⟩:=hf i x _ hx (at' i hi)
  rw[hz]
  have:z=etx i:=by
   apply ByteArray.ext
   apply Array.ext'
   rw[he,ht]
  rw[this]
 refine⟨fun i=>zs.getD i ⟨0,0,none⟩,cellOf 0 _ _ (by omega) rfl Tryz.gTextSc,⟨cellOf 1 _ _ (by omega) rfl Tryz.gBoundSc,cellOf 2 _ _ (by omega) rfl Tryz.gShapeSc,cellOf 3 _ _ (by omega) rfl Tryz.gNoneSc,cellOf 4 _ _ (by omega) rfl Tryz.gExistSc,cellOf 5 _ _ (by omega) rfl Tryz.gFullSc,cellOf 6 _ _ (by omega) rfl Tryz.gOffSc,cellOf 7 _ _ (by omega) rfl Tryz.gDenySc,cellOf 8 _ _ (by omega) rfl Tryz.gStateSc,cellOf 9 _ _ (by omega) rfl Tryz.gOldSc,cellOf 10 _ _ (by omega) rfl Tryz.gHeldSc⟩,fun i hi=>?_⟩
 match i,hi with
 | 0,_=>exact textOf 0 _ (by omega) rfl rfl
 | 1,_=>exact textOf 1 _ (by omega) rfl rfl
 | 2,_=>exact textOf 2 _ (by omega) rfl rfl
 | 3,_=>exact textOf 3 _ (by omega) rfl rfl
 | 4,_=>exact textOf 4 _ (by omega) rfl rfl
 | 5,_=>exact textOf 5 _ (by omega) rfl rfl
 | 6,_=>exact textOf 6 _ (by omega) rfl rfl
 | 7,_=>exact textOf 7 _ (by omega) rfl rfl
 | 8,_=>exact textOf 8 _ (by omega) rfl rfl
 | 9,_=>exact textOf 9 _ (by omega) rfl rfl
 | 10,_=>exact textOf 10 _ (by omega) rfl rfl
theorem envS_of {l:List (String×DataW Unit)} {W:World} (h:laidMetH Tryz.prog l W) (hS:W.ShapedOpen Tryz.prog) (e1:l.filter isSent=sentL.map sentD)
  (e3:l.filter (isOne "internal/strconv.uint64pow10")=[("internal/strconv.uint64pow10",Lib.tabData .u64 Lib.pow10Tab)]) (e4:l.filter (isOne "twinrampart/packet.flagNames")=[("twinrampart/packet.flagNames",nmD)]) (e5:l.filter isLib=libL.map sentD):∃s,EnvL W s:=by
 obtain⟨s,S⟩:=ses_of_laid h e1
 exact⟨s,⟨⟨S,pow_of_laid h e3,nms_of_laid h e4⟩,libs_of h e5 hS⟩⟩
theorem Tryz.own:ownKnob Tryz.prog.godebug=none:=by kernel_rfl
noncomputable def zWorld (os:Os):World:=(World.doorLaid Tryz.prog 301 os).layVars Tryz.prog [("unicode/utf8.first",Rows.laid_unicode_utf8_first)]
end Go.Proofs.YtabndgfdbdjdgaaGreatDoor
