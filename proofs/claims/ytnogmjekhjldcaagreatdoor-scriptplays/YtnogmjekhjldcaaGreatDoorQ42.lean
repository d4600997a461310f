/-
  What the claimed theorem reaches, part Q42.
-/
import Derived.Test.YtnogmjekhjldcaaGreatDoorCards
import Derived.Test.YtnogmjekhjldcaaGreatDoorTie
import Derived.Test.YtnogmjekhjldcaaGreatDoorQ41
import Derived.Test.YtnogmjekhjldcaaGreatDoorQ33
import Derived.LaidMore
import Derived.Lay
import Derived.OpenShut
import Derived.Stop.Joined
import Derived.SevenTiedAt
import Derived.Deep.DeepHandedRow
import Derived.Deep.DeepWitnessRowRef
import Derived.Deep.Slices
import Derived.Lib.LaidTab
import Derived.Shelf.Vars
import Derived.ShapedOpen
namespace Go.Proofs.YtnogmjekhjldcaaGreatDoor
open Go.ChangeShapes Go.WideShapes Go.ChangeAt Go.RowKit Go.Proofs.Tryz
set_option maxRecDepth 100000
set_option maxHeartbeats 8000000
theorem uz {P:Program} {W:World} {K tp C D:TypeId} {S:Array (String×TypeId)} {f:Field}
  (M:P.underlying K=some (.interface S)) (j:∀u,P.typeName? 3 u=some "*errors.errorString"->u=tp)
  (N:P.underlying tp=some (.pointer C)) (O:P.underlying C=some (.struct #[f])) (l:f.type=D) (m:f.offset=0) (Q:P.underlying D=some .string) (R:P.cellsOf C=1) (o:P.cellsOf D=1) :
  ∀(L:List (String×List UInt8)) (w:List MemPlace),(∀x,x ∈ L->∃g,P.globalNamed x.1=some g/\(P.globals[g]?).map (·.type)=some K) ->
   DataW.LaidVars P W (L.map E5) w ->
   (∀b off,MemPlace.cell b off ∈ w->(∃c t,W.heap[b]? = some (.cells c t (0,0)))/\∀u v,W.cell? ⟨b,off,none⟩=some (.iface u v)->Value.okWide P W .any 0 u v) ->
   ∃A:List Addr,A.length=L.length/\(∀(i:Nat) (x:String×List UInt8) (a:Addr),L[i]? = some x->A[i]? = some a->W.var? P x.1=some #[.iface tp (.pointer (some a))]/\∃z:ByteArray,W.cell? a=some (.string z)/\z.data.toList=x.2)
 | [],w,_,h,_=>by
  exact⟨[],rfl,fun i x a h=>by simp at h⟩
 | x::r,w,hty,h,hrows=>by
  obtain⟨g0,t0,E,f0,p0,T,p,F,q,G,U,V⟩:=h;obtain⟨g,X,Y⟩:=hty x sM;have s:P.globalNamed x.1=some g0:=p;obtain rfl:=sS (X.symm.trans s);obtain rfl:=sS (Y.symm.trans F);subst V;obtain⟨Z⟩:=E;have H:∀u v,Z=[.iface u v]->Value.okWide P W .any 0 u v:=fun u v e=>by
   subst e;exact(hrows g 0 (by simp[MemPlace.row])).2 u v (by simpa using TI p q 0)
  obtain⟨a0,s0,rfl,I,J,Zg,rfl⟩:=errorString_of_trod M j N O l m Q R o G H;obtain⟨A,hl,hf⟩:=uz M j N O l m Q R o r T (fun y k=>hty y (Oo _ k)) U
   (fun b off hm=>hrows b off (abY _ hm))
  refine⟨a0::A,by simp[hl],?_⟩
  ·intro i y a k B
   cases i with
   | zero =>
    simp only[List.getElem?_cons_zero,abV]at k B;subst k;subst B;exact⟨q,s0,I,J⟩
   | succ i =>
    simp only[Oj]at k B;exact hf i y a k B
def Am (n:String) (x:String×DataW Unit):Bool:=x.1==n
theorem Tryz.ahp : prog.globalNamed "internal/strconv.uint64pow10"=some 17:=by kernel_rfl
theorem Tryz.agU:(prog.globals[17]?).map (·.type)=some 351:=by kernel_rfl
theorem Tryz.abD : prog.cellsOf 301=1:=by kernel_rfl
theorem Tryz.abE : prog.cellsOf 351=20:=by kernel_rfl
theorem NS {l:List (String×DataW Unit)} {W:World} (h:laidMetH prog l W) (e:l.filter (Am "internal/strconv.uint64pow10")=[("internal/strconv.uint64pow10",Lib.tabData .u64 Lib.pow10Tab)]):Pow W:=by
 have a:=h.filter (Am "internal/strconv.uint64pow10");rw[e]at a;exact Lib.tabIs_of_head (rest:=[]) Tryz.ahp Tryz.agU Tryz.underlying351 Tryz.underlying301 Tryz.abD Tryz.abE a
theorem Wq {H:Type} {enc:TypeId×Value->H} {W:World} {base:Nat} {G:Nat->Bool} {i:Bool} {fuel:Nat} {cs:List Value} {x:DataW H×List MemPlace} (h:DataW.trod enc prog W base G i fuel 28 cs=some x)
  (f:List (List UInt8)) (I:f≠[]) (C:x.1=.slice (f.map fun t=>.lit (.string t)) []) :
  ∃b o k:Nat,cs=[.slice (some ⟨b,o,none⟩) f.length k]/\∀(j:Nat) t,f[j]? = some t->W.cell? ⟨b,o+j,none⟩=some (.string ⟨t.toArray⟩):=by
 rcases Go.Deep.open_slice1 Tryz.underlying28 Tryz.cellsS h with⟨_,rfl⟩ | ⟨a,len,cap,m,n,V,D,Pl,rfl,_,hlc,_,hm,rfl,hV⟩
 ·cases C
 have J:len<=m:=by rw[hm];split <;> omega
 have E:(List.range len).map D=f.map fun t=>.lit (.string t):=(DataW.slice.inj C).1;have l:len=f.length:=by have:=dP List.length E;simpa using this
 subst l;have p:∀(j:Nat) t,f[j]? = some t->W.cell? (a.add j)=some (.string ⟨t.toArray⟩):=fun j t w=>by
  obtain⟨y,_⟩:=List.getElem?_eq_some_iff.1 w;obtain⟨K,L⟩:=hV j om;obtain⟨z,M,N,_⟩:=DataW.trod_string Tryz.underlying9 L;have O:D j=.lit (.string t):=by
   have F:((List.range f.length).map D)[j]? = some (D j):=by rw[kK,yN y];rfl
   rw[E,kK,w]at F;exact(sS F).symm
  rw[K];have P:V j=.string z:=by simpa using M
  have Q:t=z.data.toList:=by
   have:=(Prod.mk.inj N).1;rw[O]at this;simpa using this
  rw[P];have:z=⟨t.toArray⟩:=by apply jB;apply Ci;rw[Q]
  rw[this]
 obtain⟨b,o,s⟩:=a;obtain⟨t0,A⟩:∃t,f[0]? = some t:=by
  cases f with
  | nil=>exact absurd rfl I
  | cons t r=>exact⟨t,rfl⟩
 have B:s=none:=by
  have u:=p 0 t0 A
  cases s with
  | none=>rfl
  | some q =>
   have e:Addr.add ⟨b,o,some q⟩ 0=⟨b,o,some q⟩:=rfl;rw[e]at u;unfold World.cell? at u;split at u
   ·simp at u
   ·cases u
 subst B;exact⟨b,o,cap,rfl,fun j t w=>by rw[<- addr_add];exact p j t w⟩
theorem Tryz.gPn : prog.globalNamed "twinrampart/policy.names"=some 2:=by kernel_rfl
theorem Tryz.ahq:(prog.globals[2]?).map (·.type)=some 205:=by kernel_rfl
theorem Tryz.ad4 : prog.cellsOf 28=1:=by kernel_rfl
def pnW:List (List (List UInt8)):=[[[100,101,110,121],[97,108,108,111,119]],[[105,110],[111,117,116]],[[97,110,121],[117,100,112],[116,99,112]]]
def pnD:DataW Unit:=.agg (pnW.map fun r=>.slice (r.map fun t=>.lit (.string t)) [])
theorem NU {l:List (String×DataW Unit)} {W:World} (h:laidMetH prog l W) (e:l.filter (Am "twinrampart/policy.names")=[("twinrampart/policy.names",pnD)]):Ji W:=by
 have s:=h.filter (Am "twinrampart/policy.names");rw[e]at s;have a:laidMet prog [("twinrampart/policy.names",pnD)] W:=s;obtain⟨O,⟨g,t,cs,fuel,p,q,B,E,F,G,_,_⟩,_,_⟩:=a;obtain rfl:=sS (Tryz.gPn.symm.trans B);obtain rfl:=sS (Tryz.ahq.symm.trans E);obtain⟨x,m,_,H,_,P,y⟩:=DataW.trod_array Tryz.underlying205 G;have I:(x.map (·.1))=pnW.map fun r=>.slice (r.map fun t=>.lit (.string t)) []:=(DataW.agg.inj (Prod.mk.inj H).1).symm;have u:∀(r:Nat) (f:List (List UInt8)),r < 3->pnW[r]? = some f->f≠[]->∃b o k:Nat,W.cell? ⟨2,r,none⟩=some (.slice (some ⟨b,o,none⟩) f.length k)/\∀(j:Nat) t,f[j]? = some t->W.cell? ⟨b,o+j,none⟩=some (.string ⟨t.toArray⟩):=fun r f hr J z=>by
  have C:=y r hr;rw[Tryz.ad4,Ot,fD om]at C;have A:(x[r]' om).1=.slice (f.map fun t=>.lit (.string t)) []:=by
   have D:(x.map (·.1))[r]? = some (.slice (f.map fun t=>.lit (.string t)) []):=by rw[I,kK,J];rfl
   rw[kK,fD (by omega:r < x.length)]at D;exact sS D
  obtain⟨b,o,k,K,L⟩:=Wq C f z A;refine⟨b,o,k,?_,L⟩;rw[TI B F r];have M:((cs.toList.drop r).take 1)[0]? = some (.slice (some ⟨b,o,none⟩) f.length k):=by rw[K];rfl
  simpa using M
 intro i N;match i,N with
 | 0,_ =>
  obtain⟨b,o,k,s,a⟩:=u 0 _ om rfl sM;refine⟨b,o,k,s,fun j w=>?_⟩;match j,w with
  | 0,_=>exact a 0 _ rfl
  | 1,_=>exact a 1 _ rfl
 | 1,_ =>
  obtain⟨b,o,k,s,a⟩:=u 1 _ om rfl sM;refine⟨b,o,k,s,fun j w=>?_⟩;match j,w with
  | 0,_=>exact a 0 _ rfl
  | 1,_=>exact a 1 _ rfl
 | 2,_ =>
  obtain⟨b,o,k,s,a⟩:=u 2 _ om rfl sM;refine⟨b,o,k,s,fun j w=>?_⟩;match j,w with
  | 0,_=>exact a 0 _ rfl
  | 1,_=>exact a 1 _ rfl
  | 2,_=>exact a 2 _ rfl
theorem Tryz.gNm : prog.globalNamed "twinrampart/packet.flagNames"=some 9:=by kernel_rfl
theorem Tryz.ahr:(prog.globals[9]?).map (·.type)=some 294:=by kernel_rfl
def nmD:DataW Unit:=.agg [.lit (.string [115,121,110]),.lit (.string [97,99,107]),.lit (.string [102,105,110]),.lit (.string [114,115,116])]
theorem NV {l:List (String×DataW Unit)} {W:World} (h:laidMetH prog l W) (e:l.filter (Am "twinrampart/packet.flagNames")=[("twinrampart/packet.flagNames",nmD)]):Oh W:=by
 have o:=h.filter (Am "twinrampart/packet.flagNames");rw[e]at o;have w:laidMet prog [("twinrampart/packet.flagNames",nmD)] W:=o;obtain⟨G,⟨g,t,cs,fuel,p,q,s,x,y,A,_,_⟩,_,_⟩:=w;obtain rfl:=sS (Tryz.gNm.symm.trans s);obtain rfl:=sS (Tryz.ahr.symm.trans x);obtain⟨i,m,_,B,_,H,j⟩:=DataW.trod_array Tryz.underlying294 A;have f:(i.map (·.1))=[.lit (.string [115,121,110]),.lit (.string [97,99,107]),.lit (.string [102,105,110]),.lit (.string [114,115,116])]:=(DataW.agg.inj (Prod.mk.inj B).1).symm;have a:∀(r:Nat) (t:List UInt8),r < 4->(i.map (·.1))[r]? = some (.lit (.string t))->W.cell? ⟨9,r,none⟩=some (.string ⟨t.toArray⟩):=fun r t hr k=>by
  have u:=j r hr;rw[Tryz.cellsS,Ot,fD om]at u;obtain⟨z,C,D,_⟩:=DataW.trod_string Tryz.underlying9 u;rw[kK,fD (by omega:r < i.length),D]at k;simp only[nX,abV,DataW.lit.injEq,Lit.string.injEq]at k;rw[TI s y r];have E:((cs.toList.drop r).take 1)[0]? = some (.string z):=by rw[C];rfl
  have F:cs[r]? = some (.string z):=by simpa using E
  rw[F];have:z=⟨t.toArray⟩:=by apply jB;apply Ci;rw[k]
  rw[this]
 exact⟨a 0 _ om (by rw[f];rfl),a 1 _ om (by rw[f];rfl),a 2 _ om (by rw[f];rfl),a 3 _ om (by rw[f];rfl)⟩
def Ws:List (String×List UInt8):=[("strconv.ErrRange",[118,97,108,117,101,32,111,117,116,32,111,102,32,114,97,110,103,101]),("strconv.ErrSyntax",[105,110,118,97,108,105,100,32,115,121,110,116,97,120])]
def abG (x:String×DataW Unit):Bool:=(Ws.map (·.1)).contains x.1
theorem Tryz.agV : prog.globalNamed "strconv.ErrSyntax"=some 13:=by kernel_rfl
theorem Tryz.agW : prog.globalNamed "strconv.ErrRange"=some 14:=by kernel_rfl
theorem Tryz.agX:(prog.globals[13]?).map (·.type)=some 42:=by kernel_rfl
theorem Tryz.agY:(prog.globals[14]?).map (·.type)=some 42:=by kernel_rfl
theorem ad5 {l:List (String×DataW Unit)} {W:World} (h:laidMetH prog l W) (e:l.filter abG=Ws.map E5) (q:W.ShapedOpen prog):jU W:=by
 have m:=h.filter abG;rw[e]at m;have s:laidMet prog (Ws.map E5) W:=m;obtain⟨u,w,y,a⟩:=s;obtain⟨j,f,o⟩:=uz Tryz.underlying42 Tryz.aeD Tryz.underlying359 Tryz.underlying361 rfl rfl Tryz.underlying9 Tryz.Tj Tryz.cellsS Ws u
  (fun x p=>by
   simp only[Ws,dI,eY,fA]at p;rcases p with rfl | rfl
   ·exact⟨_,Tryz.agW,Tryz.agY⟩
   ·exact⟨_,Tryz.agV,Tryz.agX⟩) w a
 have z:j.length=2:=by rw[f];rfl
 have at':∀i:Nat,i < 2->j[i]? = some (j.getD i ⟨0,0,none⟩):=fun i A=>by
  rw[qj,fD om];rfl
 refine⟨?_,?_,?_⟩
 ·exact cell_of_shapedOpen_int (g := 8) (t := 3) (k:=.i64) (zero:=#[.int .i64 0]) q (abU kr) kr rfl kr kr Tryz.underlying3
 ·exact⟨_,_,by simpa using TI Tryz.agV (o 1 _ _ rfl (at' 1 om)).1 0⟩
 ·exact⟨_,_,by simpa using TI Tryz.agW (o 0 _ _ rfl (at' 0 om)).1 0⟩
theorem Tryz.ad6 : prog.globalNamed "twinrampart/api.ErrText"=some 1:=by kernel_rfl
theorem Tryz.abH : prog.globalNamed "twinrampart/api.ErrBound"=some 0:=by kernel_rfl
theorem Tryz.abI : prog.globalNamed "twinrampart/api.ErrShape"=some 7:=by kernel_rfl
theorem Tryz.ad7 : prog.globalNamed "twinrampart/api.ErrNone"=some 4:=by kernel_rfl
theorem Tryz.abJ : prog.globalNamed "twinrampart/api.ErrExist"=some 18:=by kernel_rfl
theorem Tryz.ad8 : prog.globalNamed "twinrampart/api.ErrFull"=some 5:=by kernel_rfl
theorem Tryz.afZ : prog.globalNamed "twinrampart/api.ErrOff"=some 6:=by kernel_rfl
theorem Tryz.ad9 : prog.globalNamed "twinrampart/api.ErrDeny"=some 16:=by kernel_rfl
theorem Tryz.abK : prog.globalNamed "twinrampart/api.ErrState"=some 10:=by kernel_rfl
theorem Tryz.af0 : prog.globalNamed "twinrampart/api.ErrOld"=some 15:=by kernel_rfl
theorem Tryz.aea : prog.globalNamed "twinrampart/api.ErrHeld"=some 3:=by kernel_rfl
theorem Tryz.aeb:(Ak.all fun x=>match prog.globalNamed x.1 with | some g=>(match prog.globals[g]? with | some v=>v.type == 42 | none=>false) | none=>false)=true:=by kernel_rfl
theorem NW {l:List (String×DataW Unit)} {W:World} (h:laidMetH prog l W) (A:l.filter QW=Ak.map E5):∃s,Af W s:=by
 have u:=h.filter QW;rw[A]at u;have q:laidMet prog (Ak.map E5) W:=u;obtain⟨B,p,C,f⟩:=q;obtain⟨j,m,w⟩:=uz Tryz.underlying42 Tryz.aeD Tryz.underlying359 Tryz.underlying361 rfl rfl Tryz.underlying9 Tryz.Tj Tryz.cellsS Ak B
  (fun x o=>by
   have:=List.all_eq_true.1 Tryz.aeb x o;revert this
   cases y : prog.globalNamed x.1 with
   | none=>intro h;cases h
   | some g =>
    intro h;refine⟨g,rfl,?_⟩
    cases p : prog.globals[g]? with
    | none=>simp[p]at h
    | some v=>simp[p]at h;simp[h]) p f
 have G:j.length=11:=by rw[m];rfl
 have at':∀i:Nat,i < 11->j[i]? = some (j.getD i ⟨0,0,none⟩):=fun i k=>by
  rw[qj,fD om];rfl
 have a:∀(i:Nat) (x:String×List UInt8) (g:Nat),i < 11->Ak[i]? = some x -> prog.globalNamed x.1=some g->W.cell? ⟨g,0,none⟩=some (.iface 359 (.pointer (some (j.getD i ⟨0,0,none⟩)))):=fun i x g k o y=>by
  simpa using TI y (w i x _ o (at' i k)).1 0
 have e:∀(i:Nat) (x:String×List UInt8),i < 11->Ak[i]? = some x->x.2=(etx i).data.toList->W.cell? (j.getD i ⟨0,0,none⟩)=some (.string (etx i)):=fun i x k o D=>by
  obtain⟨_,z,E,F⟩:=w i x _ o (at' i k);rw[E];have:z=etx i:=by
   apply jB;apply Ci;rw[F,D]
  rw[this]
 refine⟨fun i=>j.getD i ⟨0,0,none⟩,a 0 _ _ om rfl Tryz.ad6,⟨a 1 _ _ om rfl Tryz.abH,a 2 _ _ om rfl Tryz.abI,a 3 _ _ om rfl Tryz.ad7,a 4 _ _ om rfl Tryz.abJ,a 5 _ _ om rfl Tryz.ad8,a 6 _ _ om rfl Tryz.afZ,a 7 _ _ om rfl Tryz.ad9,a 8 _ _ om rfl Tryz.abK,a 9 _ _ om rfl Tryz.af0,a 10 _ _ om rfl Tryz.aea⟩,fun i k=>?_⟩;match i,k with
 | 0,_=>exact e 0 _ om rfl rfl
 | 1,_=>exact e 1 _ om rfl rfl
 | 2,_=>exact e 2 _ om rfl rfl
 | 3,_=>exact e 3 _ om rfl rfl
 | 4,_=>exact e 4 _ om rfl rfl
 | 5,_=>exact e 5 _ om rfl rfl
 | 6,_=>exact e 6 _ om rfl rfl
 | 7,_=>exact e 7 _ om rfl rfl
 | 8,_=>exact e 8 _ om rfl rfl
 | 9,_=>exact e 9 _ om rfl rfl
 | 10,_=>exact e 10 _ om rfl rfl
theorem aec {l:List (String×DataW Unit)} {W:World} (h:laidMetH prog l W) (a:W.ShapedOpen prog) (e:l.filter QW=Ak.map E5)
  (f:l.filter (Am "internal/strconv.uint64pow10")=[("internal/strconv.uint64pow10",Lib.tabData .u64 Lib.pow10Tab)]) (i:l.filter (Am "twinrampart/packet.flagNames")=[("twinrampart/packet.flagNames",nmD)]) (j:l.filter abG=Ws.map E5):∃s,oI W s:=by
 obtain⟨s,S⟩:=NW h e;exact⟨s,⟨⟨S,NS h f,NV h i⟩,ad5 h j a⟩⟩
theorem Tryz.own:ownKnob prog.godebug=none:=by kernel_rfl
noncomputable def QY (a:Os):World:=(World.doorLaid prog 294 a).layVars prog [("unicode/utf8.first",Rows.laid_unicode_utf8_first)]
end Go.Proofs.YtnogmjekhjldcaaGreatDoor
