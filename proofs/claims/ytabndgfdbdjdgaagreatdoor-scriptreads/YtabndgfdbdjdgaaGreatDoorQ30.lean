/-
  What the claimed theorem reaches, part Q30.
-/
import Derived.Test.YtabndgfdbdjdgaaGreatDoorQ29
import Derived.Test.YtabndgfdbdjdgaaGreatDoorQ00
import Derived.Test.YtabndgfdbdjdgaaGreatDoorQ28
import Derived.Test.YtabndgfdbdjdgaaGreatDoorQ24
import Derived.Test.YtabndgfdbdjdgaaGreatDoorProg
import Derived.WalkKit
import Derived.Below
import Derived.OwnWalk
namespace Go.Proofs.YtabndgfdbdjdgaaGreatDoor
open Go.RowKit
set_option maxRecDepth 100000
set_option maxHeartbeats 8000000
section
variable {x a:ByteArray} {r:List ByteArray} {w:World} {b:Nat}
theorem rest_glue:∀ws:List ByteArray,restL ws=glue 32 ws
 | []=>rfl
 | [a]=>by simp[restL,Lib.join,glue,List.intercalate]
 | a::b::r=>by
  have ih:=rest_glue (b::r)
  unfold restL Lib.join at ih ⊢
  simp only[glue]
  rw[<- ih]
  simp[List.intercalate]
theorem words_rest (h:words x 32=a::r):(r=[]->x.data.toList=a.data.toList)/\(r≠[]->x.data.toList=a.data.toList++32::restL r):=by
 have h1:=cut_glue 32 x.data.toList []
 rw[<- words_eq,h]at h1
 refine⟨fun e=>?_,fun e=>?_⟩
 ·subst e
  exact h1.symm
 ·obtain⟨b,r',rfl⟩:=List.exists_cons_of_ne_nil e
  rw[rest_glue]
  exact h1.symm
theorem words_bound (h:words x 32=a::r):(restL r).length<=x.size/\r.length<=x.size/\∀z ∈ r,z.size<=x.size:=by
 have hx:x.data.toList.length=x.size:=Array.length_toList
 refine⟨?_,?_,fun z hz=>?_⟩
 ·by_cases e:r=[]
  ·subst e
   simp[restL,Lib.join]
  ·have:=congrArg List.length ((words_rest h).2 e)
   simp at this
   omega
 ·have:=words_le x 32
  rw[h]at this
  simp at this
  omega
 ·have:=cut_size 32 x.data.toList [] z (by rw[<- words_eq,h];exact List.mem_cons_of_mem _ hz)
  simp at this
  omega
theorem wsI_of {w':World} {Z:Nat} (h:∀(j:Nat) (y:ByteArray),(a::r)[j]? = some y->w.cell? ⟨Z,j,none⟩=some (.string y)) (hb:Below w.heap.size w w') (p:Option Addr) (c:Nat) (hc:r.length<=c) (hp:r≠[]->p=some ⟨Z,1,none⟩):WsI w' (.slice p r.length c) r :=
 ⟨p,c,rfl,hc,fun j y hy=>⟨Z,1,hp (by rintro rfl;simp at hy),tk hb (by rw[Nat.add_comm];exact h (j+1) y hy)⟩⟩
theorem readArgs_any (f:Nat) (hf:f < 5) {w:World} {v:Value} {ws:List ByteArray} {s:Nat->Addr} (h:WsI w v ws) (hl:(restL ws).length<=4000) (hn:ws.length<=5000) (hw:∀a ∈ ws,a.size<=4000) (E:EnvL w s) (g:Int×Int×Pk) (hg:g=(argsOf f ws).getD (0,0,noP)) (c:Nat) (hc:c=ecO (argsOf f ws)) :
  Calls Tryz.prog 82 #[.string (fmB f),v] w fun e w'=>e=.returned (.tuple #[argV g.1 g.2.1 g.2.2,terr s c])/\Below w.heap.size w w':=by
 have hlen:ws.length≠(fmB f).size->f < 4->argsOf f ws=none->Calls Tryz.prog 82 #[.string (fmB f),v] w fun e w'=>e=.returned (.tuple #[argV g.1 g.2.1 g.2.2,terr s c])/\Below w.heap.size w w':=fun h1 h2 h3=>by
  rw[h3]at hg hc
  subst hg hc
  obtain⟨p,cp,rfl,_,_⟩:=h
  exact ra_len f h2 h1 E.e.s
 match f,hf with
 | 0,_ =>
  match ws,h with
  | [],h=>subst hg hc;exact ra_0 h E.e.s E.l E.e.p _ rfl
  | a::r,h=>exact hlen (by simp[fmB,ByteArray.size]) (by omega) rfl
 | 1,_ =>
  match ws,h with
  | [],h=>exact hlen (by simp[fmB,ByteArray.size]) (by omega) rfl
  | [a],h =>
   have:=ra_S h (hw a (by simp)) E.e.s E.l E.e.p _ rfl
   have e:argsOf 1 [a]=if isS a then some (dv a,0,noP) else none:=rfl
   rw[e]at hg hc
   subst hg hc
   by_cases hb:isS a=true
   ·rw[if_pos hb]at *;exact this
   ·rw[if_neg hb]at *;exact this
  | a::b::r,h=>exact hlen (by simp[fmB,ByteArray.size]) (by omega) rfl
 | 2,_ =>
  match ws,h with
  | [],h=>exact hlen (by simp[fmB,ByteArray.size]) (by omega) rfl
  | [a],h =>
   have:=ra_N h (hw a (by simp)) E.e.s E.l E.e.p _ rfl
   have e:argsOf 2 [a]=if isN a then some (0,dv a,noP) else none:=rfl
   rw[e]at hg hc
   subst hg hc
   by_cases hb:isN a=true
   ·rw[if_pos hb]at *;exact this
   ·rw[if_neg hb]at *;exact this
  | a::b::r,h=>exact hlen (by simp[fmB,ByteArray.size]) (by omega) rfl
 | 3,_ =>
  match ws,h with
  | [],h=>exact hlen (by simp[fmB,ByteArray.size]) (by omega) rfl
  | [a],h=>exact hlen (by simp[fmB,ByteArray.size]) (by omega) rfl
  | [a,b],h =>
   have:=ra_SN h (hw a (by simp)) (hw b (by simp)) E.e.s E.l E.e.p _ rfl
   have e:argsOf 3 [a,b]=if isS a && isN b then some (dv a,dv b,noP) else none:=rfl
   rw[e]at hg hc
   subst hg hc
   by_cases hb:(isS a && isN b)=true
   ·rw[if_pos hb]at *;exact this
   ·rw[if_neg hb]at *;exact this
  | a::b::z::r,h=>exact hlen (by simp[fmB,ByteArray.size]) (by omega) rfl
 | 4,_ =>
  have:=ra_pkt h hl hn E
  have e:argsOf 4 ws=(rdP ⟨(restL ws).toArray⟩).map fun p=>(0,0,p):=by cases ws <;> rfl
  rw[e]at hg hc
  subst hg hc
  cases hr:rdP ⟨(restL ws).toArray⟩ with
  | none=>rw[hr]at this;exact this
  | some p=>rw[hr]at this;exact this
theorem readArgs_ws {w2 w3 u:World} {Z k c cp:Nat} {p:Option Addr} {s:Nat->Addr} {g:Int×Int×Pk} (h:∀(j:Nat) (y:ByteArray),(a::r)[j]? = some y->w2.cell? ⟨Z,j,none⟩=some (.string y)) (h3:Below w2.heap.size w2 w3) (hx:x.size<=3000) (hw:words x 32=a::r) (E:EnvL w2 s) (hg:g=(argsOf (fmk k) r).getD (0,0,noP)/\c=ecO (argsOf (fmk k) r)) (hu:Below w3.heap.size w3 u) (hc:r.length<=cp) (hp:r≠[]->p=some ⟨Z,1,none⟩) :
  Calls Tryz.prog 82 #[.string (fmB (fmk k)),.slice p r.length cp] u fun e w'=>e=.returned (.tuple #[argV g.1 g.2.1 g.2.2,terr s c])/\Below w3.heap.size w3 w'/\Below u.heap.size u w':=by
 have hb:=words_bound hw
 refine(readArgs_any (fmk k) (fmk_lt k) (wsI_of h (t2 h3 hu) p cp hc hp) (by omega) (by omega) (fun z hz=>by have:=hb.2.2 z hz;omega) (E.below (t2 h3 hu)) g hg.1 c hg.2).mono ?_
 rintro e w' ⟨rfl,b⟩
 exact⟨rfl,t2 hu b,b⟩
theorem setFar {c o i:Nat} {u v:Value} (h:b < c) (k:w.cell? ⟨b,o,none⟩=some u):(w.setCell ⟨c,i,none⟩ v).cell? ⟨b,o,none⟩=some u:=(World.cell?_setCell_other _ _ _ _ (fun e=>by have:=congrArg Addr.block e;simp at this;omega)).trans k
theorem arg_set8 {Q:Nat} {n m:Int} {p:Pk} (h:w.heap[Q]? = some (argB n m p)) (n' m':Int) (p':Pk) :
  ((((((((w.setCell ⟨Q,0,none⟩ (.int .i64 n')).setCell ⟨Q,1,none⟩ (.int .i64 m')).setCell ⟨Q,2,none⟩ (.int .i64 p'.pr)).setCell ⟨Q,3,none⟩ (.int .i64 p'.a1)).setCell ⟨Q,4,none⟩ (.int .i64 p'.p1)).setCell ⟨Q,5,none⟩ (.int .i64 p'.a2)).setCell ⟨Q,6,none⟩ (.int .i64 p'.p2)).setCell ⟨Q,7,none⟩ (.int .i64 p'.fl)).heap[Q]? = some (argB n' m' p'):=by
 have h0:(w.setCell ⟨Q,0,none⟩ (.int .i64 n')).heap[Q]? = some (argB n' m p):=heap_setCell_same w Q 0 _ _ _ h
 have h1:((w.setCell ⟨Q,0,none⟩ (.int .i64 n')).setCell ⟨Q,1,none⟩ (.int .i64 m')).heap[Q]? = some (argB n' m' p):=heap_setCell_same _ Q 1 _ _ _ h0
 have h2:(((w.setCell ⟨Q,0,none⟩ (.int .i64 n')).setCell ⟨Q,1,none⟩ (.int .i64 m')).setCell ⟨Q,2,none⟩ (.int .i64 p'.pr)).heap[Q]? = some (argB n' m' ⟨p'.pr,p.a1,p.p1,p.a2,p.p2,p.fl⟩):=heap_setCell_same _ Q 2 _ _ _ h1
 have h3:((((w.setCell ⟨Q,0,none⟩ (.int .i64 n')).setCell ⟨Q,1,none⟩ (.int .i64 m')).setCell ⟨Q,2,none⟩ (.int .i64 p'.pr)).setCell ⟨Q,3,none⟩ (.int .i64 p'.a1)).heap[Q]? = some (argB n' m' ⟨p'.pr,p'.a1,p.p1,p.a2,p.p2,p.fl⟩):=heap_setCell_same _ Q 3 _ _ _ h2
 have h4:(((((w.setCell ⟨Q,0,none⟩ (.int .i64 n')).setCell ⟨Q,1,none⟩ (.int .i64 m')).setCell ⟨Q,2,none⟩ (.int .i64 p'.pr)).setCell ⟨Q,3,none⟩ (.int .i64 p'.a1)).setCell ⟨Q,4,none⟩ (.int .i64 p'.p1)).heap[Q]? = some (argB n' m' ⟨p'.pr,p'.a1,p'.p1,p.a2,p.p2,p.fl⟩):=heap_setCell_same _ Q 4 _ _ _ h3
 have h5:((((((w.setCell ⟨Q,0,none⟩ (.int .i64 n')).setCell ⟨Q,1,none⟩ (.int .i64 m')).setCell ⟨Q,2,none⟩ (.int .i64 p'.pr)).setCell ⟨Q,3,none⟩ (.int .i64 p'.a1)).setCell ⟨Q,4,none⟩ (.int .i64 p'.p1)).setCell ⟨Q,5,none⟩ (.int .i64 p'.a2)).heap[Q]? = some (argB n' m' ⟨p'.pr,p'.a1,p'.p1,p'.a2,p.p2,p.fl⟩):=heap_setCell_same _ Q 5 _ _ _ h4
 have h6:(((((((w.setCell ⟨Q,0,none⟩ (.int .i64 n')).setCell ⟨Q,1,none⟩ (.int .i64 m')).setCell ⟨Q,2,none⟩ (.int .i64 p'.pr)).setCell ⟨Q,3,none⟩ (.int .i64 p'.a1)).setCell ⟨Q,4,none⟩ (.int .i64 p'.p1)).setCell ⟨Q,5,none⟩ (.int .i64 p'.a2)).setCell ⟨Q,6,none⟩ (.int .i64 p'.p2)).heap[Q]? = some (argB n' m' ⟨p'.pr,p'.a1,p'.p1,p'.a2,p'.p2,p.fl⟩):=heap_setCell_same _ Q 6 _ _ _ h5
 have h7:((((((((w.setCell ⟨Q,0,none⟩ (.int .i64 n')).setCell ⟨Q,1,none⟩ (.int .i64 m')).setCell ⟨Q,2,none⟩ (.int .i64 p'.pr)).setCell ⟨Q,3,none⟩ (.int .i64 p'.a1)).setCell ⟨Q,4,none⟩ (.int .i64 p'.p1)).setCell ⟨Q,5,none⟩ (.int .i64 p'.a2)).setCell ⟨Q,6,none⟩ (.int .i64 p'.p2)).setCell ⟨Q,7,none⟩ (.int .i64 p'.fl)).heap[Q]? = some (argB n' m' ⟨p'.pr,p'.a1,p'.p1,p'.a2,p'.p2,p'.fl⟩):=heap_setCell_same _ Q 7 _ _ _ h6
 exact h7
theorem cf_commandsOf_3 (gs:Array Value) (u:World):(callFunc 69 gs).run Tryz.prog u=.ok (.enter 69 gs) u:=by kernel_rfl
theorem cf_onNode_1 (gs:Array Value) (u:World):(callFunc 112 gs).run Tryz.prog u=.ok (.enter 112 gs) u:=by kernel_rfl
theorem cf_onNodeAndNumber_1 (gs:Array Value) (u:World):(callFunc 102 gs).run Tryz.prog u=.ok (.enter 102 gs) u:=by kernel_rfl
theorem cf_onNumber_1 (gs:Array Value) (u:World):(callFunc 106 gs).run Tryz.prog u=.ok (.enter 106 gs) u:=by kernel_rfl
theorem cf_onPacket_1 (gs:Array Value) (u:World):(callFunc 114 gs).run Tryz.prog u=.ok (.enter 114 gs) u:=by kernel_rfl
theorem cf_showing_1 (gs:Array Value) (u:World):(callFunc 124 gs).run Tryz.prog u=.ok (.enter 124 gs) u:=by kernel_rfl
theorem cf_telling_1 (gs:Array Value) (u:World):(callFunc 118 gs).run Tryz.prog u=.ok (.enter 118 gs) u:=by kernel_rfl
theorem ent_run {w0:World} {Y:Nat->Option Obj} {wb B N M pb:Nat} {s:Nat->Addr} {k:Nat} {v:Value} (hk:k < 18) (h:Ent (fun q=>B<=q/\q < N) w b wb pb k v) :
  ∃cl caps,v=.agg #[.string (fmB (fmk k)),.func (.func cl) #[] caps]/\(∀(gs:Array Value) (u:World),(callFunc cl gs).run Tryz.prog u=.ok (.enter cl gs) u)/\∀(u:World) (t q:Nat) (W:Wo) (n m:Int) (p:Pk),Below w.heap.size w u->Bgn w0 u wb Y B N b M pb t q s W k n m p->Calls Tryz.prog cl (#[argV n m p]++caps) u (Fin w0 wb Y B N b M pb s (doR k n m p W) (t+cst k m)):=by
 match k,hk,h with
 | 0,_,⟨x,_,e,c⟩=>exact⟨_,_,e,cf_onNodeAndNumber_1,fun u t q W n m p hb g=>run0 g (tk hb c)⟩
 | 1,_,⟨x,_,e,c⟩=>exact⟨_,_,e,cf_onNodeAndNumber_1,fun u t q W n m p hb g=>run1 g (tk hb c)⟩
 | 2,_,⟨x,_,e,c⟩=>exact⟨_,_,e,cf_onNumber_1,fun u t q W n m p hb g=>run2 g (tk hb c)⟩
 | 3,_,⟨x,_,e,c⟩=>exact⟨_,_,e,cf_onNumber_1,fun u t q W n m p hb g=>run3 g (tk hb c)⟩
 | 4,_,⟨x,_,e,c⟩=>exact⟨_,_,e,cf_onNumber_1,fun u t q W n m p hb g=>run4 g (tk hb c)⟩
 | 5,_,⟨x,_,e,c⟩=>exact⟨_,_,e,cf_onNode_1,fun u t q W n m p hb g=>run5 g (tk hb c)⟩
 | 6,_,⟨x,_,e,c⟩=>exact⟨_,_,e,cf_onNode_1,fun u t q W n m p hb g=>run6 g (tk hb c)⟩
 | 7,_,⟨x,_,e,c⟩=>exact⟨_,_,e,cf_onPacket_1,fun u t q W n m p hb g=>run7 g (tk hb c)⟩
 | 8,_,⟨x,_,e,c⟩=>exact⟨_,_,e,cf_onPacket_1,fun u t q W n m p hb g=>run8 g (tk hb c)⟩
 | 9,_,⟨x,_,e,c⟩=>exact⟨_,_,e,cf_telling_1,fun u t q W n m p hb g=>run9 g (tk hb c)⟩
 | 10,_,⟨x,_,e,c⟩=>exact⟨_,_,e,cf_telling_1,fun u t q W n m p hb g=>run10 g (tk hb c)⟩
 | 11,_,⟨x,_,e,c⟩=>exact⟨_,_,e,cf_telling_1,fun u t q W n m p hb g=>run11 g (tk hb c)⟩
 | 12,_,⟨x,_,e,c⟩=>exact⟨_,_,e,cf_telling_1,fun u t q W n m p hb g=>run12 g (tk hb c)⟩
 | 13,_,e=>exact⟨_,_,e,cf_commandsOf_3,fun u t q W n m p hb g=>run13 g⟩
 | 14,_,⟨x,y,_,_,e,c,d⟩=>exact⟨_,_,e,cf_showing_1,fun u t q W n m p hb g=>run14 g (tk hb c) (tk hb d)⟩
 | 15,_,⟨x,y,_,_,e,c,d⟩=>exact⟨_,_,e,cf_showing_1,fun u t q W n m p hb g=>run15 g (tk hb c) (tk hb d)⟩
 | 16,_,⟨x,y,_,_,e,c,d⟩=>exact⟨_,_,e,cf_showing_1,fun u t q W n m p hb g=>run16 g (tk hb c) (tk hb d)⟩
 | 17,_,⟨x,y,_,_,e,c,d⟩=>exact⟨_,_,e,cf_showing_1,fun u t q W n m p hb g=>run17 g (tk hb c) (tk hb d)⟩
 | _+18,hk,_=>exact absurd hk (by omega)
theorem mlook2 {es:Array MapEntry} (hk:KyS es) (k:ByteArray) :
  (∃e ∈ es.toList,e.key=.string k/\∀(w:World) (M clk:Nat),w.heap[M]? = some (.map es clk)->(Instr.lookup 74 (.map (some M)) (.string k) true).run Tryz.prog w=.ok (.tuple #[e.val,.bool true]) w) \/
  ((∀e ∈ es.toList,e.key≠.string k)/\∀(w:World) (M clk:Nat),w.heap[M]? = some (.map es clk)->(Instr.lookup 74 (.map (some M)) (.string k) true).run Tryz.prog w=.ok (.tuple #[.agg #[.string ⟨#[]⟩,.nilFunc],.bool false]) w):=by
 have hd : Tryz.prog.underlying 9=some .string := Tryz.underlying9
 have hkk:MapKept.IsKey .string (.string k):=trivial
 rcases MapKept.findNow_spec hkk es.toList 0 hk.is with⟨h1,h2⟩ | ⟨j,e,h1,h2,h3⟩
 ·exact .inr ⟨h2,fun w M clk hb=>by simp[Instr.lookup,run_underlying Tryz.underlying74,MapKept.run_getObj_map hb,MapKept.run_checkKey hd hkk,MapKept.run_findKey hd h1]⟩
 ·exact .inl ⟨e,List.mem_of_getElem? h2,h3,fun w M clk hb=>by simp[Instr.lookup,run_underlying Tryz.underlying74,MapKept.run_getObj_map hb,MapKept.run_checkKey hd hkk,MapKept.run_findKey hd h1,Result.andThen]⟩
theorem look_any {w0:World} {K:WK} {B N M pb:Nat} (h:Ply w0 w K B N b M pb) (a:ByteArray) :
  (∃k v,cmdK a=some k/\k < 18/\Ent (fun q=>B<=q/\q < N) w b K.wb pb k v/\∀u,Below w.heap.size w u->(Instr.lookup 74 (.map (some M)) (.string a) true).run Tryz.prog u=.ok (.tuple #[v,.bool true]) u) \/
  (cmdK a=none/\∀u,Below w.heap.size w u->(Instr.lookup 74 (.map (some M)) (.string a) true).run Tryz.prog u=.ok (.tuple #[.agg #[.string ⟨#[]⟩,.nilFunc],.bool false]) u):=by
 obtain⟨es,clk,h1,h2,h3,h4⟩:=h.mp
 have hM:M < w.heap.size:=block_in h1
 have inj:∀k,k < 18->Value.string (ky k)=.string a->cmdK a=some k:=fun k hk e=>by
  rw[<- Value.string.inj e]
  exact cmdK_ky hk
 rcases mlook2 h2 a with⟨e,he,ek,hr⟩ | ⟨hno,hr⟩
 ·obtain⟨k,k1,k2,k3⟩:=h3 e he
  exact .inl ⟨k,e.val,inj k k1 (k2.symm.trans ek),k1,k3,fun u hb=>hr u M clk ((hb.block M hM).trans h1)⟩
 ·refine .inr ⟨?_,fun u hb=>hr u M clk ((hb.block M hM).trans h1)⟩
  cases hc:cmdK a with
  | none=>rfl
  | some k =>
   obtain⟨k1,k2⟩:=cmdK_some hc
   obtain⟨x,hx,ex⟩:=h4 k k1
   exact absurd (by rw[ex,k2]) (hno x hx)
theorem args_fit {f:Nat} {ws:List ByteArray} {g:Int×Int×Pk} (h:argsOf f ws=some g):0<=g.2.1/\g.2.1<=100000/\In6 g.2.2.pr:=by
 have hd:∀a,0<=dv a/\dv a<=100000:=fun a=>by
  have:=numOf_lt a.data.toList
  unfold dv dg
  split <;> omega
 have hn:In6 noP.pr:=by unfold In6;exact⟨by decide,by decide⟩
 unfold argsOf at h
 split at h
 ·cases h;exact⟨Int.le_refl 0,by show(0:Int)<=100000;omega,hn⟩
 ·split at h
  ·cases h;exact⟨Int.le_refl 0,by show(0:Int)<=100000;omega,hn⟩
  ·cases h
 ·split at h
  ·cases h;exact⟨(hd _).1,(hd _).2,hn⟩
  ·cases h
 ·split at h
  ·cases h;exact⟨(hd _).1,(hd _).2,hn⟩
  ·cases h
 ·obtain⟨p,hp,rfl⟩:=Option.map_eq_some_iff.1 h
  refine⟨Int.le_refl 0,by show(0:Int)<=100000;omega,?_⟩
  unfold rdP at hp
  split at hp
  ·split at hp
   ·rename_i hc
    cases hp
    rename_i pr u v y z fl _
    have h7:(pr=1/\fl=0)\/pr=2:=(pkErr_zero.1 hc.1).1
    show -9223372036854775808<=pr/\pr<=9223372036854775807
    omega
   ·cases hp
  ·cases hp
 ·cases h
end
def Ne0 (x:ByteArray):Prop:=x.data.toList≠[]
theorem ne0_of {l:List UInt8} (h:l≠[]):Ne0 ⟨l.toArray⟩:=by
 show(l.toArray).toList≠[]
 exact h
theorem etx_ne (i:Nat):Ne0 (etx i):=ne0_of (by simp)
theorem dec_ne (u:Nat):Lib.decDigits u≠[]:=by
 rw[Lib.decDigits]
 split <;> simp
theorem itoa_ne (z:Int):Lib.itoa z≠[]:=by
 unfold Lib.itoa
 split
 ·simp
 ·exact dec_ne _
theorem itT_ne (z:Int):Ne0 (itT z):=ne0_of (itoa_ne z)
theorem clT_ne (n e:Int):Ne0 (clT n e):=ne0_of (by simp)
theorem noT_ne:Ne0 noT:=by show[_,_,_,_,_,_,_]≠[];simp
theorem okT_ne:Ne0 okT:=by show[_,_]≠[];simp
theorem pText_ne (pr a1 p1 a2 p2 fl:Int):pText pr a1 p1 a2 p2 fl≠[]:=by
 unfold pText
 simp
theorem evT_ne (W:Wo):Ne0 (evT W):=by
 unfold evT
 split
 ·exact noT_ne
 ·rename_i h
  obtain⟨x,r,hx⟩:=List.exists_cons_of_ne_nil h
  refine ne0_of ?_
  rw[hx]
  show Lib.join ((clT x.1 x.2).data.toList::(evTs r).map (·.data.toList)) [44,32]≠[]
  rw[Lib.join_cons]
  intro e
  exact clT_ne x.1 x.2 (List.append_eq_nil_iff.1 e).1
theorem said_of {r:ByteArray×Nat} (h:r.2=0->Ne0 r.1):Ne0 (saidT r):=by
 obtain⟨a,e⟩:=r
 cases e with
 | zero=>exact h rfl
 | succ e=>exact etx_ne e
theorem pkD_ne (e:Nat) (p:Pk):Ne0 (saidT (pkD e p)):=said_of fun h=>by
 unfold pkD at h ⊢
 split
 ·rename_i he
  rw[if_pos he]at h
  unfold pkT at h ⊢
  split
  ·exact ne0_of (pText_ne _ _ _ _ _ _)
  ·rename_i hn
   rw[if_neg hn]at h
   exact absurd h hn
 ·rename_i he
  rw[if_neg he]at h
  exact absurd h he
theorem shD_ne (W:Wo) (n:Int) (g:No->Int):Ne0 (saidT (shD W n g)):=said_of fun h=>by
 unfold shD at h ⊢
 split
 ·rename_i hu
  cases hy:W.nd n.toNat with
  | some y=>exact itT_ne _
  | none =>
   exfalso
   unfold Wo.upE at hu
   rw[hy]at hu
   revert hu
   split <;> simp
 ·rename_i hu
  rw[if_neg hu]at h
  exact absurd h hu
theorem acT_ne (W:Wo) (n:Int):Ne0 (acT W n):=by
 unfold acT
 have h1:Ne0 yeT:=by show[_,_,_]≠[];simp
 have h2:Ne0 nuT:=by show[_,_]≠[];simp
 have h3:Ne0 dnT:=by show[_,_,_,_]≠[];simp
 split
 ·split
  ·split
   ·exact h1
   ·exact h2
  ·exact h2
 ·exact h3
theorem swT_ne (W:Wo):Ne0 (swT W):=by
 unfold swT
 split
 ·exact noT_ne
 ·exact clT_ne _ _
theorem doR_ne (k:Nat) (n m:Int) (p:Pk) (W:Wo):Ne0 (saidT (doR k n m p W).1):=by
 match k with
 | 0=>exact said_of fun _=>okT_ne
 | 1=>exact said_of fun _=>okT_ne
 | 2=>exact said_of fun _=>okT_ne
 | 3=>exact said_of fun _=>okT_ne
 | 4=>exact said_of fun _=>okT_ne
 | 5=>exact said_of fun _=>okT_ne
 | 6=>exact said_of fun _=>okT_ne
 | 7=>exact pkD_ne _ _
 | 8=>exact pkD_ne _ _
 | 9=>exact said_of fun _=>itT_ne _
 | 10=>exact said_of fun _=>itT_ne _
 | 11=>exact said_of fun _=>swT_ne W
 | 12=>exact said_of fun _=>evT_ne W
 | 13=>exact said_of fun _=>acT_ne W n
 | 14=>exact shD_ne _ _ _
 | 15=>exact shD_ne _ _ _
 | 16=>exact shD_ne _ _ _
 | _+17=>exact shD_ne _ _ _
theorem said_ne (x:ByteArray) (W:Wo):Ne0 (saidT (lnR x W).1):=by
 unfold lnR
 split
 ·exact doR_ne _ _ _ _ _
 ·exact etx_ne 0
def hdW (x:ByteArray):ByteArray:=(words x 32).headD ⟨#[]⟩
def tlW (x:ByteArray):List ByteArray:=(words x 32).tail
theorem words_hd (x:ByteArray):words x 32=hdW x::tlW x:=by
 unfold hdW tlW
 have:=words_len x 32
 cases h:words x 32 with
 | nil=>rw[h]at this;simp at this
 | cons a r=>rfl
theorem said_no {x:ByteArray} (W:Wo) (h:cmdK (hdW x)=none):saidT (lnR x W).1=etx 0:=by
 unfold lnR lnOf
 rw[words_hd x]
 simp only[h]
 rfl
theorem said_pk {x:ByteArray} (W:Wo) {k:Nat} (h:cmdK (hdW x)=some k) (hk:fmk k=4) (hr:rdP ⟨(restL (tlW x)).toArray⟩=none):saidT (lnR x W).1=etx 0:=by
 unfold lnR lnOf
 rw[words_hd x]
 simp only[h,hk]
 have e:argsOf 4 (tlW x)=(rdP ⟨(restL (tlW x)).toArray⟩).map fun p=>(0,0,p):=by cases tlW x <;> rfl
 rw[e,hr]
 rfl
def rsT (x:ByteArray):List UInt8:=x.data.toList.drop ((hdW x).size+1)
theorem drop_past (c:UInt8) (r:List UInt8):∀a:List UInt8,(a++c::r).drop (a.length+1)=r
 | []=>rfl
 | _::a=>drop_past c r a
theorem rest_rs (x:ByteArray):restL (tlW x)=rsT x:=by
 obtain⟨h1,h2⟩:=words_rest (words_hd x)
 unfold rsT
 have hz:(hdW x).size=(hdW x).data.toList.length:=Array.length_toList.symm
 rw[hz]
 by_cases e:tlW x=[]
 ·rw[h1 e,e,List.drop_of_length_le (by omega)]
  rfl
 ·rw[h2 e,drop_past]
theorem cut_head (c:UInt8):∀(l a:List UInt8),∃r,cutFrom c a l=⟨(a++l.takeWhile (fun b=>b != c)).toArray⟩::r
 | [],a=>⟨[],by simp[cutFrom]⟩
 | b::l,a=>by
  unfold cutFrom
  by_cases h:b=c
  ·rw[if_pos h]
   exact⟨cutFrom c [] l,by subst h;simp⟩
  ·rw[if_neg h]
   obtain⟨r,hr⟩:=cut_head c l (a++[b])
   refine⟨r,?_⟩
   rw[hr]
   simp[h]
def twW (x:ByteArray):List UInt8:=x.data.toList.takeWhile (fun b=>b != 32)
theorem hdW_eq (x:ByteArray):hdW x=⟨(twW x).toArray⟩:=by
 obtain⟨r,h⟩:=cut_head 32 x.data.toList []
 unfold hdW
 rw[words_eq,h]
 rfl
theorem tw_le (x:ByteArray):(twW x).length<=x.size:=by
 have h:=(List.takeWhile_prefix (l:=x.data.toList) (fun b=>b != 32)).length_le
 have:x.data.toList.length=x.size:=Array.length_toList
 unfold twW
 omega
theorem num_small {l:List UInt8} (h:l.length<=3):numOf l 5<=999:=by
 unfold numOf
 split
 ·omega
 ·have h2:=numFrom_lt l 0
  have h3:(10:Int) ^ l.length<=10 ^ 3:=by
   have:(10:Nat) ^ l.length<=10 ^ 3:=Nat.pow_le_pow_right (by decide) (by omega)
   exact_mod_cast this
  have h4:(10:Int) ^ 3=1000:=by decide
  have h5:((0+1:Nat):Int) * 10 ^ l.length=10 ^ l.length:=by simp
  rw[h5]at h2
  have h6:=Int.lt_of_lt_of_le h2 h3
  rw[h4]at h6
  omega
theorem dv_small {b:ByteArray} (h:b.size<=3):dv b<=999:=by
 have hl:b.data.toList.length=b.size:=Array.length_toList
 unfold dv dg
 split
 ·exact num_small (by omega)
 ·omega
theorem isS_pos {a:ByteArray} (h:isS a=true):1<=a.size:=by
 unfold isS isN dg at h
 simp only[Bool.and_eq_true,decide_eq_true_eq]at h
 have h1:=h.1
 have hl:a.data.toList.length=a.size:=Array.length_toList
 unfold numOf at h1
 split at h1
 ·omega
 ·omega
theorem args3 {ws:List ByteArray} {g:Int×Int×Pk} (h:argsOf 3 ws=some g):∃a b,ws=[a,b]/\isS a=true/\g.2.1=dv b:=by
 match ws,h with
 | [a,b],h =>
  have e:argsOf 3 [a,b]=if isS a && isN b then some (dv a,dv b,noP) else none:=rfl
  rw[e]at h
  split at h
  ·rename_i hs
   cases h
   simp only[Bool.and_eq_true]at hs
   exact⟨a,b,rfl,hs.1,rfl⟩
  ·cases h
 | [],h=>cases h
 | [_],h=>cases h
 | _::_::_::_,h=>cases h
theorem ln_cost {x:ByteArray} (h:x.size<=10\/x.data.toList.take 4≠[116,105,99,107]):lnC x<=999:=by
 unfold lnC
 cases hl:lnOf x with
 | none=>exact Nat.zero_le _
 | some g =>
  obtain⟨k,n,m,p⟩:=g
  show cst k m<=999
  unfold cst
  split
  ·rename_i hk
   subst hk
   unfold lnOf at hl
   rw[words_hd x]at hl
   simp only at hl
   cases hc:cmdK (hdW x) with
   | none=>rw[hc]at hl;cases hl
   | some k =>
    rw[hc]at hl
    obtain⟨g,hg,he⟩:=Option.map_eq_some_iff.1 hl
    have hk0:k=0:=(Prod.mk.inj he).1
    have hm:g.2.1=m:=by rw[(Prod.mk.inj he).2]
    subst hk0
    obtain⟨a,b,hw,hs,hb⟩:=args3 hg
    have h1:=isS_pos hs
    have h2:=(words_rest (words_hd x)).2 (by rw[hw];simp)
    rw[hw,<- (cmdK_some hc).2]at h2
    have e:restL [a,b]=a.data.toList++32::b.data.toList:=by simp[restL,Lib.join,List.intercalate]
    rw[e]at h2
    have e2:(ky 0).data.toList=[116,105,99,107]:=rfl
    rw[e2]at h2
    have hx:x.data.toList.length=x.size:=Array.length_toList
    have ha:a.data.toList.length=a.size:=Array.length_toList
    have hbb:b.data.toList.length=b.size:=Array.length_toList
    have h3:x.size<=10:=by
     rcases h with h | h
     ·exact h
     ·rw[h2]at h
      exact absurd rfl h
    have h4:=congrArg List.length h2
    simp only[List.length_append,List.length_cons,List.length_nil]at h4
    have h5:b.size<=3:=by omega
    have h6:=dv_small h5
    omega
  ·omega
theorem sc_cost:∀(l:List ByteArray),(∀x ∈ l,lnC x<=999)->scC l<=999 * l.length
 | [],_=>by simp[scC]
 | x::l,h=>by
  have h1:=h x (by simp)
  have h2:=sc_cost l (fun y hy=>h y (by simp[hy]))
  show lnC x+scC l<=_
  simp only[List.length_cons]
  omega
theorem scA_at:∀(l:List ByteArray) (W:Wo) (k:Nat) (x:ByteArray),l[k]? = some x->∃V,(scA l W)[k]? = some (saidT (lnR x V).1)
 | [],_,_,_,h=>by simp at h
 | y::l,W,0,x,h=>by
  simp only[List.getElem?_cons_zero,Option.some.injEq]at h
  subst h
  exact⟨W,rfl⟩
 | y::l,W,k+1,x,h=>by
  obtain⟨V,hV⟩:=scA_at l (lnR y W).2 k x (by simpa using h)
  exact⟨V,by simpa [scA] using hV⟩
structure AnOk (x a:ByteArray):Prop where
 ne:Ne0 a
 no:cmdK (hdW x)=none->a=etx 0
 pk:∀k,cmdK (hdW x)=some k->fmk k=4->rdP ⟨(rsT x).toArray⟩=none->a=etx 0
theorem an_ok (x:ByteArray) (W:Wo):AnOk x (saidT (lnR x W).1):=⟨said_ne x W,said_no W,fun k h1 h2 h3=>said_pk W h1 h2 (by rw[rest_rs];exact h3)⟩
section
variable {w W:World} {i j nb:Nat} {x:Value} {d a b c:ByteArray} {n0 n1 n2:Int}
abbrev rlV (r:Rl):Value:=.agg #[.bool r.al,.bool r.ou,.int .i64 r.pr,.int .i64 r.lo,.int .i64 r.tp]
abbrev zeroR:Value:=.agg #[.bool false,.bool false,.int .i64 0,.int .i64 0,.int .i64 0]
structure Rs5 (w W:World):Prop where
 c0:W.cell? ⟨w.heap.size,0,none⟩=some (.bool false)
 c1:W.cell? ⟨w.heap.size,1,none⟩=some (.bool false)
 c2:W.cell? ⟨w.heap.size,2,none⟩=some (.int .i64 0)
 c3:W.cell? ⟨w.heap.size,3,none⟩=some (.int .i64 0)
 c4:W.cell? ⟨w.heap.size,4,none⟩=some (.int .i64 0)
 f0:W.frozen? ⟨w.heap.size,0,none⟩=false
 f1:W.frozen? ⟨w.heap.size,1,none⟩=false
 f2:W.frozen? ⟨w.heap.size,2,none⟩=false
 f3:W.frozen? ⟨w.heap.size,3,none⟩=false
 f4:W.frozen? ⟨w.heap.size,4,none⟩=false
 b:Below w.heap.size w W
theorem fk {w':World} (h:Below w.heap.size w w') {a:Addr} {v:Value} (hc:w.cell? a=some v) (hf:w.frozen? a=false):w'.frozen? a=false:=by
 rw[h.frozen (p:=a) (cell_lt hc)];exact hf
theorem Rs5.below {W':World} (h:Rs5 w W) (hb:Below W.heap.size W W'):Rs5 w W' :=
 ⟨Below.keeps hb h.c0,Below.keeps hb h.c1,Below.keeps hb h.c2,Below.keeps hb h.c3,Below.keeps hb h.c4,fk hb h.c0 h.f0,fk hb h.c1 h.f1,fk hb h.c2 h.f2,fk hb h.c3 h.f3,fk hb h.c4 h.f4,below2 h.b hb⟩
theorem Rs5.new (w:World):Rs5 w (w.alloc (.cells #[.bool false,.bool false,.int .i64 0,.int .i64 0,.int .i64 0] 55)) :=
 ⟨by simp,by simp,by simp,by simp,by simp,by rw[World.frozen?_alloc_at _ _ _ _ rfl],by rw[World.frozen?_alloc_at _ _ _ _ rfl],by rw[World.frozen?_alloc_at _ _ _ _ rfl],by rw[World.frozen?_alloc_at _ _ _ _ rfl],by rw[World.frozen?_alloc_at _ _ _ _ rfl],(Below.refl _ _).alloc (Nat.le_refl _) _⟩
theorem name0 (x:ByteArray) (q:Option Nat) (h:nameOf 0 x=q) (w:World) (N:PNm w):Calls Tryz.prog 42 #[.int .i64 0,.string x] w fun e w'=>e=.returned (.tuple #[.int .i64 ((q.getD 0:Nat):Int),.bool q.isSome])/\w'=w:=by
 subst h;exact name_any 0 (by omega) x w N
theorem name1 (x:ByteArray) (q:Option Nat) (h:nameOf 1 x=q) (w:World) (N:PNm w):Calls Tryz.prog 42 #[.int .i64 1,.string x] w fun e w'=>e=.returned (.tuple #[.int .i64 ((q.getD 0:Nat):Int),.bool q.isSome])/\w'=w:=by
 subst h;exact name_any 1 (by omega) x w N
theorem name2 (x:ByteArray) (q:Option Nat) (h:nameOf 2 x=q) (w:World) (N:PNm w):Calls Tryz.prog 42 #[.int .i64 2,.string x] w fun e w'=>e=.returned (.tuple #[.int .i64 ((q.getD 0:Nat):Int),.bool q.isSome])/\w'=w:=by
 subst h;exact name_any 2 (by omega) x w N
theorem number_any (l:List UInt8) (hx:l.length<=4000) (n:Int) (ok:Bool) (h:(0<=numOf l 5/\n=numOf l 5/\ok=true)\/(numOf l 5 < 0/\n=0/\ok=false)) (w:World) (L:Libs w) (T:Pow w) :
  Calls Tryz.prog 44 #[.string ⟨l.toArray⟩] w fun e w'=>e=.returned (.tuple #[.int .i64 n,.bool ok])/\Below w.heap.size w w':=by
 have hz:(⟨l.toArray⟩:ByteArray).size<=4000:=by simpa [ByteArray.size] using hx
 rcases h with⟨h1,rfl,rfl⟩ | ⟨h1,rfl,rfl⟩
 ·exact number_yes ⟨l.toArray⟩ hz _ rfl (by simpa using h1) w T
 ·exact number_no ⟨l.toArray⟩ hz (by simpa using h1) w L T
theorem nameOf_lt {x:ByteArray} (h:nameOf i x=some j):j < 3:=by
 unfold nameOf at h
 split at h
 ·cases h;omega
 ·split at h
  ·cases h;omega
  ·split at h
   ·cases h;omega
   ·cases h
theorem nat_one (i:Nat):((i:Int)==1)=(i==1):=by rw[Bool.eq_iff_iff,beq_iff_eq,beq_iff_eq];omega
theorem num_part (l:List UInt8):∃n ok,(0<=numOf l 5/\n=numOf l 5/\ok=true)\/(numOf l 5 < 0/\n=0/\ok=false):=by
 by_cases h:0<=numOf l 5
 ·exact⟨_,_,.inl ⟨h,rfl,rfl⟩⟩
 ·exact⟨_,_,.inr ⟨by omega,rfl,rfl⟩⟩
theorem two_none {d p1 p2:List UInt8} {p3:Bool} (h:Lib.cut d [45]=(p1,p2,p3)) (hn:numOf p1 5 < 0\/numOf p2 5 < 0):two d=none:=by
 unfold two
 rw[h]
 exact if_neg (fun ⟨h1,h2⟩=>by simp only at h1 h2;omega)
theorem two_some {d p1 p2:List UInt8} {p3:Bool} (h:Lib.cut d [45]=(p1,p2,p3)) (h1:0<=numOf p1 5) (h2:0<=numOf p2 5):two d=some (numOf p1 5,numOf p2 5):=by
 unfold two
 rw[h]
 exact if_pos ⟨h1,h2⟩
theorem ret_rl {k lo tp:Int} :Ending.returned (.tuple #[.agg #[.bool ((i:Int)==1),.bool ((j:Int)==1),.int .i64 k,.int .i64 lo,.int .i64 tp],.bool true])=.returned (.tuple #[rlV ⟨i==1,j==1,k,lo,tp⟩,.bool true]):=by
 rw[nat_one,nat_one]
structure St (w W:World) (nb:Nat) (n0 n1 n2:Int) (a b c d:ByteArray):Prop where
 r:Rs5 w W
 a0:W.cell? ⟨w.heap.size+1,0,none⟩=some (.string a)
 a1:W.cell? ⟨w.heap.size+1,1,none⟩=some (.string b)
 a2:W.cell? ⟨w.heap.size+1,2,none⟩=some (.string c)
 a3:W.cell? ⟨w.heap.size+1,3,none⟩=some (.string d)
 m0:W.cell? ⟨nb,0,none⟩=some (.int .i64 n0)
 m1:W.cell? ⟨nb,1,none⟩=some (.int .i64 n1)
 m2:W.cell? ⟨nb,2,none⟩=some (.int .i64 n2)
 g0:W.frozen? ⟨nb,0,none⟩=false
 g1:W.frozen? ⟨nb,1,none⟩=false
 g2:W.frozen? ⟨nb,2,none⟩=false
 n:w.heap.size+1 < nb
theorem St.below {W':World} (h:St w W nb n0 n1 n2 a b c d) (hb:Below W.heap.size W W'):St w W' nb n0 n1 n2 a b c d :=
 ⟨h.r.below hb,Below.keeps hb h.a0,Below.keeps hb h.a1,Below.keeps hb h.a2,Below.keeps hb h.a3,Below.keeps hb h.m0,Below.keeps hb h.m1,Below.keeps hb h.m2,fk hb h.m0 h.g0,fk hb h.m1 h.g1,fk hb h.m2 h.g2,h.n⟩
theorem set_far {k:Nat} {v:Value} (hn:k < nb) (h:W.cell? ⟨k,j,none⟩=some v):(W.setCell ⟨nb,i,none⟩ x).cell? ⟨k,j,none⟩=some v:=by
 rw[World.cell?_setCell_other _ _ _ _ (fun e=>by have:=congrArg Addr.block e;simp at this;omega)];exact h
theorem set_off {v:Value} (hn:i≠j) (h:W.cell? ⟨nb,j,none⟩=some v):(W.setCell ⟨nb,i,none⟩ x).cell? ⟨nb,j,none⟩=some v:=by
 rw[World.cell?_setCell_other _ _ _ _ (fun e=>hn (congrArg Addr.off e))];exact h
theorem set_fr {p q:Addr} (h:W.frozen? q=false):(W.setCell p x).frozen? q=false:=by rw[World.frozen?_setCell];exact h
theorem Rs5.set (h:Rs5 w W) (hn:w.heap.size < nb):Rs5 w (W.setCell ⟨nb,i,none⟩ x) :=
 ⟨set_far hn h.c0,set_far hn h.c1,set_far hn h.c2,set_far hn h.c3,set_far hn h.c4,set_fr h.f0,set_fr h.f1,set_fr h.f2,set_fr h.f3,set_fr h.f4,h.b.setCell (by simp;omega) _⟩
theorem St.set0 (h:St w W nb n0 n1 n2 a b c d) (x:Int):St w (W.setCell ⟨nb,0,none⟩ (.int .i64 x)) nb x n1 n2 a b c d :=
 ⟨h.r.set (by have:=h.n;omega),set_far h.n h.a0,set_far h.n h.a1,set_far h.n h.a2,set_far h.n h.a3,World.cell?_setCell_same _ _ _ h.m0,set_off (by omega) h.m1,set_off (by omega) h.m2,set_fr h.g0,set_fr h.g1,set_fr h.g2,h.n⟩
theorem St.set1 (h:St w W nb n0 n1 n2 a b c d) (x:Int):St w (W.setCell ⟨nb,1,none⟩ (.int .i64 x)) nb n0 x n2 a b c d :=
 ⟨h.r.set (by have:=h.n;omega),set_far h.n h.a0,set_far h.n h.a1,set_far h.n h.a2,set_far h.n h.a3,set_off (by omega) h.m0,World.cell?_setCell_same _ _ _ h.m1,set_off (by omega) h.m2,set_fr h.g0,set_fr h.g1,set_fr h.g2,h.n⟩
theorem St.set2 (h:St w W nb n0 n1 n2 a b c d) (x:Int):St w (W.setCell ⟨nb,2,none⟩ (.int .i64 x)) nb n0 n1 x a b c d :=
 ⟨h.r.set (by have:=h.n;omega),set_far h.n h.a0,set_far h.n h.a1,set_far h.n h.a2,set_far h.n h.a3,set_off (by omega) h.m0,set_off (by omega) h.m1,World.cell?_setCell_same _ _ _ h.m2,set_fr h.g0,set_fr h.g1,set_fr h.g2,h.n⟩
theorem St.new (r:Rs5 w W) (a0:W.cell? ⟨w.heap.size+1,0,none⟩=some (.string a)) (a1:W.cell? ⟨w.heap.size+1,1,none⟩=some (.string b)) (a2:W.cell? ⟨w.heap.size+1,2,none⟩=some (.string c)) (a3:W.cell? ⟨w.heap.size+1,3,none⟩=some (.string d)) :
  St w (W.alloc (.cells #[.int .i64 0,.int .i64 0,.int .i64 0] 95)) W.heap.size 0 0 0 a b c d:=by
 have hb:Below W.heap.size W (W.alloc (.cells #[.int .i64 0,.int .i64 0,.int .i64 0] 95)):=(Below.refl _ _).alloc (Nat.le_refl _) _
 exact⟨r.below hb,Below.keeps hb a0,Below.keeps hb a1,Below.keeps hb a2,Below.keeps hb a3,by simp,by simp,by simp,by rw[World.frozen?_alloc_at _ _ _ _ rfl],by rw[World.frozen?_alloc_at _ _ _ _ rfl],by rw[World.frozen?_alloc_at _ _ _ _ rfl],cell_lt a0⟩
theorem readLine_any (x:ByteArray) (hx:x.size<=4000) (q:Option Rl) (hq:rdL x=q) (w:World) (L:Libs w) (T:Pow w) (N:PNm w) :
  Calls Tryz.prog 25 #[.string x] w fun e w'=>((∃r,q=some r/\e=.returned (.tuple #[rlV r,.bool true]))\/(q=none/\e=.returned (.tuple #[zeroR,.bool false])))/\Below w.heap.size w w':=by
 have HL:Hid (Libs w):=L
 have HT:Hid (Pow w):=T
 have HN:Hid (PNm w):=N
 have HQ:Hid (rdL x=q):=hq
 clear L T N hq
 have R0:Hid (Rs5 w (w.alloc (.cells #[.bool false,.bool false,.int .i64 0,.int .i64 0,.int .i64 0] 55))):=Rs5.new w
 go_enter Tryz.func25,Tryz.ntmps25
 go_wp2_with fail
 refine(split_any x hx 32 _ (HL.out.below R0.out.b)).mono ?_
 rintro e w2 ⟨rfl,hc,hb2⟩
 have R2:Hid (Rs5 w w2):=R0.out.below hb2
 rw[words_eq]at hc ⊢
 have HC:Hid (∀(j:Nat) y,(cutFrom 32 [] x.data.toList)[j]? = some y->w2.cell? ⟨w.heap.size+1,j,none⟩=some (.string y)):=by
  intro j y hy
  have:=hc j y hy
  simpa using this
 have HZ:Hid (∀z ∈ cutFrom 32 [] x.data.toList,z.size<=x.size):=fun z hz=>by
  have:=cut_size 32 x.data.toList [] z hz
  rw[bytes_len]at this
  simpa using this
 have hlen:(cutFrom 32 [] x.data.toList).length<=4001:=by
  have:=words_le x 32
  rw[words_eq]at this
  omega
 clear hc hb2 R0
 by_cases h4:(cutFrom 32 [] x.data.toList).length=4
 ·obtain⟨ws,hws⟩:∃ws,ws=cutFrom 32 [] x.data.toList:=⟨_,rfl⟩
  rw[<- hws]at h4 HC HZ hlen ⊢
  match ws,h4 with
  | [a,b,c,d],_ =>
   have HQ3:Hid (rd4 a b c d=q):=(rdL_four hws).symm.trans HQ.out
   clear hws
   have d0:=HC.out 0 a rfl
   have d1:=HC.out 1 b rfl
   have d2:=HC.out 2 c rfl
   have d3:=HC.out 3 d rfl
   have hlt1:w.heap.size+1 < w2.heap.size:=cell_lt d0
   have hlt0:w.heap.size < w2.heap.size:=by omega
   have zd:d.size<=4000:=by have:=HZ.out d (by simp);omega
   clear HC HZ hlen
   go_wp2_with fail
   have S0:Hid (St w (w2.alloc (.cells #[.int .i64 0,.int .i64 0,.int .i64 0] 95)) w2.heap.size 0 0 0 a b c d):=St.new R2.out d0 d1 d2 d3
   clear d0 d1 d2 d3 hlt1 hlt0 R2
   generalize w2.alloc (.cells #[.int .i64 0,.int .i64 0,.int .i64 0] 95)=W0 at *
   generalize w2.heap.size=nb at *
   refine wp_loop_rounds 4 ?_
   rw[rounds_succ]
   have x0:=S0.out.a0
   go_wp2_with fail
   rcases hq:nameOf 0 a with _ | i
   ·have HE:Hid (q=none):=HQ3.out.symm.trans (rd4_a hq)
    have HK:Hid (nameOf 0 a=none):=hq
    clear hq x0
    refine(name0 a _ HK.out _ (HN.out.below S0.out.r.b)).mono ?_
    rintro e w3 ⟨rfl,rfl⟩
    simp only[Option.getD_none,Option.isSome_none]
    have c0:=S0.out.r.c0
    have c1:=S0.out.r.c1
    have c2:=S0.out.r.c2
    have c3:=S0.out.r.c3
    have c4:=S0.out.r.c4
    have f0:=S0.out.r.f0
    have f1:=S0.out.r.f1
    have f2:=S0.out.r.f2
    have f3:=S0.out.r.f3
    have f4:=S0.out.r.f4
    go_wp2_with fail
    exact bodyPost_ret (v:=.tuple #[zeroR,.bool false]) (by simp[results,Tryz.results25,go_sem,c0,c1,c2,c3,c4]) rfl ⟨.inr ⟨HE.out,rfl⟩,by
     repeat (first | exact S0.out.r.b | refine Below.setCell ?_ (by exact Nat.le_refl _) _)⟩
   have HN0:Hid (nameOf 0 a=some i):=hq
   have hl0:=nameOf_lt hq
   clear hq x0
   refine(name0 a _ HN0.out _ (HN.out.below S0.out.r.b)).mono ?_
   rintro e V0 ⟨rfl,rfl⟩
   simp only[Option.getD_some,Option.isSome_some]
   have m:=S0.out.m0
   have g:=S0.out.g0
   go_wp2_with fail
   rw[rounds_succ]
   clear m g
   have T0:Hid (St w (V0.setCell ⟨nb,0,none⟩ (.int .i64 i)) nb i 0 0 a b c d):=S0.out.set0 _
   generalize V0.setCell ⟨nb,0,none⟩ (.int .i64 i)=W1 at *
   have S1:Hid (St w W1 nb i 0 0 a b c d):=T0.out
   clear T0 S0
   have x1:=S1.out.a1
   go_wp2_with fail
   rcases hq:nameOf 1 b with _ | j
   ·have HE:Hid (q=none):=HQ3.out.symm.trans (rd4_b hq)
    have HK:Hid (nameOf 1 b=none):=hq
    clear hq x1
    refine(name1 b _ HK.out _ (HN.out.below S1.out.r.b)).mono ?_
    rintro e w3 ⟨rfl,rfl⟩
    simp only[Option.getD_none,Option.isSome_none]
    have c0:=S1.out.r.c0
    have c1:=S1.out.r.c1
    have c2:=S1.out.r.c2
    have c3:=S1.out.r.c3
    have c4:=S1.out.r.c4
    have f0:=S1.out.r.f0
    have f1:=S1.out.r.f1
    have f2:=S1.out.r.f2
    have f3:=S1.out.r.f3
    have f4:=S1.out.r.f4
    go_wp2_with fail
    exact bodyPost_ret (v:=.tuple #[zeroR,.bool false]) (by simp[results,Tryz.results25,go_sem,c0,c1,c2,c3,c4]) rfl ⟨.inr ⟨HE.out,rfl⟩,by
     repeat (first | exact S1.out.r.b | refine Below.setCell ?_ (by exact Nat.le_refl _) _)⟩
   have HN1:Hid (nameOf 1 b=some j):=hq
   have hl1:=nameOf_lt hq
   clear hq x1
   refine(name1 b _ HN1.out _ (HN.out.below S1.out.r.b)).mono ?_
   rintro e V1 ⟨rfl,rfl⟩
   simp only[Option.getD_some,Option.isSome_some]
   have m:=S1.out.m1
   have g:=S1.out.g1
   go_wp2_with fail
   rw[rounds_succ]
   clear m g
   have T1:Hid (St w (V1.setCell ⟨nb,1,none⟩ (.int .i64 j)) nb i j 0 a b c d):=S1.out.set1 _
   generalize V1.setCell ⟨nb,1,none⟩ (.int .i64 j)=W2 at *
   have S2:Hid (St w W2 nb i j 0 a b c d):=T1.out
   clear T1 S1
   have x2:=S2.out.a2
   go_wp2_with fail
   rcases hq:nameOf 2 c with _ | k
   ·have HE:Hid (q=none):=HQ3.out.symm.trans (rd4_c hq)
    have HK:Hid (nameOf 2 c=none):=hq
    clear hq x2
    refine(name2 c _ HK.out _ (HN.out.below S2.out.r.b)).mono ?_
    rintro e w3 ⟨rfl,rfl⟩
    simp only[Option.getD_none,Option.isSome_none]
    have c0:=S2.out.r.c0
    have c1:=S2.out.r.c1
    have c2:=S2.out.r.c2
    have c3:=S2.out.r.c3
    have c4:=S2.out.r.c4
    have f0:=S2.out.r.f0
    have f1:=S2.out.r.f1
    have f2:=S2.out.r.f2
    have f3:=S2.out.r.f3
    have f4:=S2.out.r.f4
    go_wp2_with fail
    exact bodyPost_ret (v:=.tuple #[zeroR,.bool false]) (by simp[results,Tryz.results25,go_sem,c0,c1,c2,c3,c4]) rfl ⟨.inr ⟨HE.out,rfl⟩,by
     repeat (first | exact S2.out.r.b | refine Below.setCell ?_ (by exact Nat.le_refl _) _)⟩
   have HN2:Hid (nameOf 2 c=some k):=hq
   have hl2:=nameOf_lt hq
   clear hq x2
   refine(name2 c _ HN2.out _ (HN.out.below S2.out.r.b)).mono ?_
   rintro e V2 ⟨rfl,rfl⟩
   simp only[Option.getD_some,Option.isSome_some]
   have m:=S2.out.m2
   have g:=S2.out.g2
   go_wp2_with fail
   rw[rounds_succ]
   clear m g
   have T2:Hid (St w (V2.setCell ⟨nb,2,none⟩ (.int .i64 k)) nb i j k a b c d):=S2.out.set2 _
   generalize V2.setCell ⟨nb,2,none⟩ (.int .i64 k)=W3 at *
   have S3:Hid (St w W3 nb i j k a b c d):=T2.out
   clear T2 S2
   have x3:=S3.out.a3
   go_wp2_with fail
   refine(lcut_any d zd _ (HL.out.below S3.out.r.b)).mono ?_
   rintro e W4 ⟨rfl,hb4⟩
   have S4:Hid (St w W4 nb i j k a b c d):=S3.out.below hb4
   have l1:=lcut_len1 d.data.toList
   have l2:=lcut_len2 d.data.toList
   rw[bytes_len]at l1 l2
   obtain⟨⟨p1,p2,p3⟩,hP⟩:∃P,Lib.cut d.data.toList [45]=P:=⟨_,rfl⟩
   rw[hP]at l1 l2 ⊢
   simp only at l1 l2 ⊢
   have HP:Hid (Lib.cut d.data.toList [45]=(p1,p2,p3)):=hP
   have Z1:Hid (p1.length<=4000):=by show _<=_;omega
   have Z2:Hid (p2.length<=4000):=by show _<=_;omega
   obtain⟨n1,ok1,hn1⟩:=num_part p1
   obtain⟨n2,ok2,hn2⟩:=num_part p2
   have H1:Hid ((0<=numOf p1 5/\n1=numOf p1 5/\ok1=true)\/(numOf p1 5 < 0/\n1=0/\ok1=false)):=hn1
   have H2:Hid ((0<=numOf p2 5/\n2=numOf p2 5/\ok2=true)\/(numOf p2 5 < 0/\n2=0/\ok2=false)):=hn2
   clear hb4 x3 S3 hP l1 l2 hn1 hn2
   go_wp2_with fail
   refine(number_any p1 Z1.out n1 ok1 H1.out _ (HL.out.below S4.out.r.b) (HT.out.below S4.out.r.b)).mono ?_
   rintro e W5 ⟨rfl,hb5⟩
   have S5:Hid (St w W5 nb i j k a b c d):=S4.out.below hb5
   clear hb5 S4
   go_wp2_with fail
   refine(number_any p2 Z2.out n2 ok2 H2.out _ (HL.out.below S5.out.r.b) (HT.out.below S5.out.r.b)).mono ?_
   rintro e W6 ⟨rfl,hb6⟩
   have S6:Hid (St w W6 nb i j k a b c d):=S5.out.below hb6
   clear hb6 S5
   by_cases hok:ok1=true/\ok2=true
   ·obtain⟨rfl,rfl⟩:=hok
    have HE:Hid (q=some ⟨i==1,j==1,(k:Int),n1,n2⟩):=by
     show _=_
     rcases H1.out with⟨g1,rfl,_⟩ | ⟨_,_,h⟩
     ·rcases H2.out with⟨g2,rfl,_⟩ | ⟨_,_,h⟩
      ·rw[<- HQ3.out];exact rd4_ok HN0.out HN1.out HN2.out (two_some HP.out g1 g2)
      ·cases h
     ·cases h
    have c0:=S6.out.r.c0
    have c1:=S6.out.r.c1
    have c2:=S6.out.r.c2
    have c3:=S6.out.r.c3
    have c4:=S6.out.r.c4
    have f0:=S6.out.r.f0
    have f1:=S6.out.r.f1
    have f2:=S6.out.r.f2
    have f3:=S6.out.r.f3
    have f4:=S6.out.r.f4
    have m0:=S6.out.m0
    have m1:=S6.out.m1
    have m2:=S6.out.m2
    go_wp2_with fail
    exact bodyPost_ret (v:=.tuple #[.agg #[.bool ((i:Int)==1),.bool ((j:Int)==1),.int .i64 k,.int .i64 n1,.int .i64 n2],.bool true]) (by simp[results,Tryz.results25,go_sem,c0,c1,c2,c3,c4]) rfl ⟨.inl ⟨_,HE.out,ret_rl⟩,by
     repeat (first | exact S6.out.r.b | refine Below.setCell ?_ (by exact Nat.le_refl _) _)⟩
   ·have HE:Hid (q=none):=by
     show _=_
     rw[<- HQ3.out]
     refine rd4_d (two_none HP.out ?_)
     rcases H1.out with⟨_,_,e1⟩ | ⟨g1,_,_⟩
     ·rcases H2.out with⟨_,_,e2⟩ | ⟨g2,_,_⟩
      ·exact absurd ⟨e1,e2⟩ hok
      ·exact .inr g2
     ·exact .inl g1
    have c0:=S6.out.r.c0
    have c1:=S6.out.r.c1
    have c2:=S6.out.r.c2
    have c3:=S6.out.r.c3
    have c4:=S6.out.r.c4
    have f0:=S6.out.r.f0
    have f1:=S6.out.r.f1
    have f2:=S6.out.r.f2
    have f3:=S6.out.r.f3
    have f4:=S6.out.r.f4
    rcases ok1 with _ | _
    ·go_wp2_with fail
     exact bodyPost_ret (v:=.tuple #[zeroR,.bool false]) (by simp[results,Tryz.results25,go_sem,c0,c1,c2,c3,c4]) rfl ⟨.inr ⟨HE.out,rfl⟩,by
      repeat (first | exact S6.out.r.b | refine Below.setCell ?_ (by exact Nat.le_refl _) _)⟩
    ·obtain rfl:ok2=false:=by
      cases ok2
      ·rfl
      ·exact absurd ⟨rfl,rfl⟩ hok
     go_wp2_with fail
     exact bodyPost_ret (v:=.tuple #[zeroR,.bool false]) (by simp[results,Tryz.results25,go_sem,c0,c1,c2,c3,c4]) rfl ⟨.inr ⟨HE.out,rfl⟩,by
      repeat (first | exact S6.out.r.b | refine Below.setCell ?_ (by exact Nat.le_refl _) _)⟩
 ·have HE:Hid (q=none):=HQ.out.symm.trans (rdL_odd h4)
  have hne:(((cutFrom 32 [] x.data.toList).length:Int) != 4)=true:=by rw[bne_iff_ne];omega
  have c0:=R2.out.c0
  have c1:=R2.out.c1
  have c2:=R2.out.c2
  have c3:=R2.out.c3
  have c4:=R2.out.c4
  have f0:=R2.out.f0
  have f1:=R2.out.f1
  have f2:=R2.out.f2
  have f3:=R2.out.f3
  have f4:=R2.out.f4
  clear h4 HC HZ
  generalize (cutFrom 32 [] x.data.toList).length=N4 at *
  go_wp2_with fail
  exact bodyPost_ret (v:=.tuple #[zeroR,.bool false]) (by simp[results,Tryz.results25,go_sem,c0,c1,c2,c3,c4]) rfl ⟨.inr ⟨HE.out,rfl⟩,by
   repeat (first | exact R2.out.b | refine Below.setCell ?_ (by exact Nat.le_refl _) _)⟩
end
theorem numberOf_short (x:ByteArray) (most:Nat) (w:World) (h:x.size < 1\/most < x.size) :
  Calls Tryz.prog 30 #[.string x,most] w fun e w'=>e=.returned (.int .i64 (-1))/\w'=w:=by
 rcases h with h | h
 ·have h1:(x.size:Int) < 1:=by omega
  clear h
  go_enter Tryz.func30,Tryz.ntmps30
  go_wp2_with fail
  go_ret
  exact⟨rfl,rfl⟩
 ·have h1:(most:Int) < (x.size:Int):=by omega
  have h2:¬(x.size:Int) < 1:=by omega
  clear h
  go_enter Tryz.func30,Tryz.ntmps30
  go_wp2_with fail
  all_goals (go_ret;exact⟨rfl,rfl⟩)
theorem numberOf_zero (x:ByteArray) (most:Nat) (w:World) (h:x.size<=most) (h1:1 < x.size) (hz:x[0].toNat=48) :
  Calls Tryz.prog 30 #[.string x,most] w fun e w'=>e=.returned (.int .i64 (-1))/\w'=w:=by
 have g1:(1:Int) < (x.size:Int):=by omega
 have g2:¬(most:Int) < (x.size:Int):=by omega
 have g3:¬(x.size:Int) < 1:=by omega
 have hz1:((x[0].toNat:Int)==48)=true:=beq_iff_eq.2 (by omega)
 clear h hz
 go_enter Tryz.func30,Tryz.ntmps30
 go_wp2_with fail
 go_ret
 exact⟨rfl,rfl⟩
theorem num_pow (k:Nat) (h:k < 18):10 ^ k<=100000000000000000:=by
 have:10 ^ k<=10 ^ 17:=Nat.pow_le_pow_right (by decide) (by omega)
 have e:(10:Nat) ^ 17=100000000000000000:=by decide
 omega
theorem numberOf_one (x:ByteArray) (most:Nat) (w:World) (h:1<=most) (h1:x.size=1) :
  Calls Tryz.prog 30 #[.string x,most] w fun e w'=>e=.returned (.int .i64 (numFrom 0 x.data.toList))/\w'=w:=by
 have g2:¬(most:Int) < (x.size:Int):=by omega
 have g3:¬(x.size:Int) < 1:=by omega
 have g4:¬(1:Int) < (x.size:Int):=by omega
 go_enter Tryz.func30,Tryz.ntmps30
 go_wp2_with fail
 go_loopw [5,6] (fun a t wr=>∃k:Nat,∃acc:Nat,k<=x.size/\acc < 10 ^ k/\t=.int .i64 k/\a=.int .i64 acc/\numFrom acc (x.data.toList.drop k)=numFrom 0 x.data.toList/\wr=w) (fun _ t _=>x.size - (intOf t).toNat)
 case atStart=>exact⟨0,0,by omega,by decide,rfl,rfl,rfl,rfl⟩
 case round =>
  obtain⟨k,acc,hk,hacc,rfl,rfl,hn,rfl⟩:=hrel
  have HN:Hid (numFrom acc (x.data.toList.drop k)=numFrom 0 x.data.toList):=hn
  clear hn
  by_cases hlt:k < x.size
  ·have hd:x.data.toList.drop k=x[k]::x.data.toList.drop (k+1):=by
    rw[List.drop_eq_getElem_cons (by rw[bytes_len];exact hlt)];rfl
   have hb:x[k].toNat < 256:=x[k].toNat_lt
   have hp:=num_pow k (by omega)
   have HP:Hid (acc < 10 ^ k):=hacc
   clear hacc
   rw[hd]at HN
   have HN:Hid ((if 48<=x[k].toNat/\x[k].toNat<=57 then numFrom (10 * acc+(x[k].toNat - 48)) (x.data.toList.drop (k+1)) else -1)=numFrom 0 x.data.toList):=HN
   clear hd
   have ha:acc < 100000000000000000:=by have:=HP.out;omega
   clear hp
   generalize hq:x[k].toNat=q at *
   by_cases hd1:q < 48
   ·go_wp2_with fail
    all_goals (go_ret;refine⟨?_,rfl⟩;rw[<- HN.out,if_neg (by omega)];rfl)
   ·by_cases hd2:57 < q
    ·go_wp2_with fail
     all_goals (go_ret;refine⟨?_,rfl⟩;rw[<- HN.out,if_neg (by omega)];rfl)
    ·go_wp2_with fail
     refine⟨⟨k+1,10 * acc+(q - 48),by omega,by rw[Nat.pow_succ];have:=HP.out;omega,by go_num,?_,?_,trivial⟩,by simp[intOf];omega⟩
     ·exact congrArg (Value.int .i64) (by omega)
     ·rw[<- HN.out,if_pos (by omega)]
  ·obtain rfl:k=x.size:=by omega
   go_wp2_with fail
   go_ret
   refine⟨?_,rfl⟩
   rw[<- HN.out,List.drop_of_length_le (by rw[bytes_len];omega)]
   rfl
theorem numberOf_more (x:ByteArray) (most:Nat) (w:World) (h:x.size<=most) (h1:1 < x.size) (hz:x[0].toNat≠48) (hm:most<=18) :
  Calls Tryz.prog 30 #[.string x,most] w fun e w'=>e=.returned (.int .i64 (numFrom 0 x.data.toList))/\w'=w:=by
 have g2:¬(most:Int) < (x.size:Int):=by omega
 have g3:¬(x.size:Int) < 1:=by omega
 have g4:(1:Int) < (x.size:Int):=by omega
 have hz1:((x[0].toNat:Int)==48)=false:=beq_eq_false_iff_ne.2 (by omega)
 clear hz
 go_enter Tryz.func30,Tryz.ntmps30
 go_wp2_with fail
 go_loopw [5,6] (fun a t wr=>∃k:Nat,∃acc:Nat,k<=x.size/\acc < 10 ^ k/\t=.int .i64 k/\a=.int .i64 acc/\numFrom acc (x.data.toList.drop k)=numFrom 0 x.data.toList/\wr=w) (fun _ t _=>x.size - (intOf t).toNat)
 case atStart=>exact⟨0,0,by omega,by decide,rfl,rfl,rfl,rfl⟩
 case round =>
  obtain⟨k,acc,hk,hacc,rfl,rfl,hn,rfl⟩:=hrel
  have HN:Hid (numFrom acc (x.data.toList.drop k)=numFrom 0 x.data.toList):=hn
  clear hn
  by_cases hlt:k < x.size
  ·have hd:x.data.toList.drop k=x[k]::x.data.toList.drop (k+1):=by
    rw[List.drop_eq_getElem_cons (by rw[bytes_len];exact hlt)];rfl
   have hb:x[k].toNat < 256:=x[k].toNat_lt
   have hp:=num_pow k (by omega)
   have HP:Hid (acc < 10 ^ k):=hacc
   clear hacc
   rw[hd]at HN
   have HN:Hid ((if 48<=x[k].toNat/\x[k].toNat<=57 then numFrom (10 * acc+(x[k].toNat - 48)) (x.data.toList.drop (k+1)) else -1)=numFrom 0 x.data.toList):=HN
   clear hd
   have ha:acc < 100000000000000000:=by have:=HP.out;omega
   clear hp
   generalize hq:x[k].toNat=q at *
   by_cases hd1:q < 48
   ·go_wp2_with fail
    all_goals (go_ret;refine⟨?_,rfl⟩;rw[<- HN.out,if_neg (by omega)];rfl)
   ·by_cases hd2:57 < q
    ·go_wp2_with fail
     all_goals (go_ret;refine⟨?_,rfl⟩;rw[<- HN.out,if_neg (by omega)];rfl)
    ·go_wp2_with fail
     refine⟨⟨k+1,10 * acc+(q - 48),by omega,by rw[Nat.pow_succ];have:=HP.out;omega,by go_num,?_,?_,trivial⟩,by simp[intOf];omega⟩
     ·exact congrArg (Value.int .i64) (by omega)
     ·rw[<- HN.out,if_pos (by omega)]
  ·obtain rfl:k=x.size:=by omega
   go_wp2_with fail
   go_ret
   refine⟨?_,rfl⟩
   rw[<- HN.out,List.drop_of_length_le (by rw[bytes_len];omega)]
   rfl
theorem numberOf_any (x:ByteArray) (most:Nat) (h1:1<=most) (hm:most<=18) (w:World) :
  Calls Tryz.prog 30 #[.string x,most] w fun e w'=>e=.returned (.int .i64 (numOf x.data.toList most))/\w'=w:=by
 unfold numOf
 rw[bytes_len]
 by_cases c1:x.size < 1\/most < x.size
 ·rw[if_pos (by omega)];exact numberOf_short x most w c1
 ·by_cases c2:x.size=1
  ·rw[if_neg (by omega)];exact numberOf_one x most w h1 c2
  ·have hg:=byte_at x 0 (by omega)
   by_cases c3:x[0].toNat=48
   ·rw[if_pos (Or.inr (Or.inr ⟨by omega,by rw[hg];exact UInt8.toNat_inj.1 c3⟩))];exact numberOf_zero x most w (by omega) (by omega) c3
   ·rw[if_neg (by
     rintro(h | h | ⟨_,h⟩)
     ·omega
     ·omega
     ·rw[hg]at h;exact c3 (by rw[h];rfl))]
    exact numberOf_more x most w (by omega) (by omega) c3 hm
theorem Tryz.infoSr:(Tryz.prog.info? 9).map (fun i=>(i.zero,i.size,i.bytes))=some (some (.string ByteArray.empty),1,16):=by kernel_rfl
theorem one_byte (x:ByteArray) (k:Nat) (h:k < x.size):x.extract ((k:Int)).toNat ((k:Int)+1).toNat=⟨#[x[k]]⟩:=by
 apply ByteArray.ext
 rw[ByteArray.data_extract,show((k:Int)).toNat=k from by omega,show((k:Int)+1).toNat=k+1 from by omega]
 apply Array.ext
 ·simp;have:x.data.size=x.size:=rfl;omega
 ·intro i h1 h2
  obtain rfl:i=0:=by simp at h2;omega
  simp;rfl
theorem row_more {b0:Nat} {w0 wr w1:World} {v v' y:Value} {L:List ByteArray} {z:ByteArray} (hown:wr.ownsRow b0 9 1 v L.length (L.map Value.string)) (hb:Below b0 w0 wr) (hs:b0<=wr.heap.size)
  (o':w1.ownsRow b0 9 1 v' (L.length+1) (L.map Value.string++[.string z])) (hg:(wr.alloc (.cells #[y] 9)).grownBy w1 v.ownBlock) :
  w1.ownsRow b0 9 1 v' (L++[z]).length ((L++[z]).map Value.string)/\Below b0 w0 w1:=by
 refine⟨?_,(hb.alloc hs _).grown hg (by simp;omega) (fun j hj=>(hown.lt _ hj).1)⟩
 simpa using o'
theorem cutRef_big (x:ByteArray) (hx:x.size<=4000) (c:UInt8) (w:World) :
  Calls Tryz.prog 17 #[.string x,.int .u8 c.toNat] w fun e w'=>(∃g cap,e=.returned (.slice (some ⟨g,0,none⟩) (cutFrom c [] x.data.toList).length cap) /\
   ∀(j:Nat) z,(cutFrom c [] x.data.toList)[j]? = some z->w'.cell? (g,j)=some (.string z))/\Below w w w':=by
 obtain⟨i0,hi,hz0,hz1,hz2⟩:=info_parts Tryz.infoSr
 have hc:=c.toNat_lt
 generalize hcn:c.toNat=cn at *
 have HCN:Hid (c.toNat=cn):=hcn
 clear hcn
 go_enter Tryz.func17,Tryz.ntmps17
 go_wp2_with fail
 go_loopw [5,6,7] (fun v a t wr=>∃k:Nat,∃L:List ByteArray,∃W:List UInt8,k<=x.size/\L.length<=k/\W.length<=k/\t=.int .i64 k/\a=.string ⟨W.toArray⟩/\L++cutFrom c W (x.data.toList.drop k)=cutFrom c [] x.data.toList/\wr.ownsRow w 9 1 v L.length (L.map Value.string)/\Below w w wr) (fun _ _ t _=>x.size - (intOf t).toNat)
 case atStart=>exact⟨0,[],[],by omega,by simp,by simp,rfl,rfl,rfl,World.ownsRow_nil _ _ _ _,Below.refl _ _⟩
 case round =>
  obtain⟨k,L,W,hk,hL,hW,rfl,rfl,hcut,hown,hb⟩:=hrel
  have HO:Hid (wr.ownsRow w 9 1 u5 L.length (L.map Value.string)):=hown
  have HB:Hid (Below w w wr):=hb
  have HC:Hid (L++cutFrom c W (x.data.toList.drop k)=cutFrom c [] x.data.toList):=hcut
  clear hown hb hcut
  by_cases hlt:k < x.size
  ·have hd:x.data.toList.drop k=x[k]::x.data.toList.drop (k+1):=by
    rw[List.drop_eq_getElem_cons (by rw[bytes_len];exact hlt)];rfl
   rw[hd]at HC
   have HC:Hid (L++(if x[k]=c then ⟨W.toArray⟩::cutFrom c [] (x.data.toList.drop (k+1)) else cutFrom c (W++[x[k]]) (x.data.toList.drop (k+1)))=cutFrom c [] x.data.toList):=HC
   clear hd
   by_cases he:x[k]=c
   ·have hq:((x[k].toNat:Int)==(cn:Int))=true:=beq_iff_eq.2 (by rw[he,HCN.out])
    have HE:Hid (x[k]=c):=he
    clear he
    go_wp2_with (at_builtin;refine wpList_append_own _ rfl _ _ 22 rfl w 9 i0 (.string ByteArray.empty) 1 16 Tryz.underlying22 hi hz0 hz1 hz2 rfl (by decide) _ _ _ rfl (HO.alloc _) ⟨wr.heap.size,0,none⟩ 1 1 [.string ⟨W.toArray⟩] rfl rfl ?c1 ?c2 ?c3 ?c4 ?c5 ?_)
    case c1 =>
     intro j u hj
     match j,hj with
     | 0,hj=>simp at hj;subst hj;simp[Addr.add]
    case c2=>intro u hu;simp at hu;subst hu;rfl
    case c3=>unfold maxLen;omega
    case c4=>omega
    case c5=>have:=HB.size;simp;omega
    intro v' w1 hown' hgrow _
    have HR:Hid (w1.ownsRow w 9 1 v' (L++[(⟨W.toArray⟩:ByteArray)]).length ((L++[(⟨W.toArray⟩:ByteArray)]).map Value.string)/\Below w w w1):=row_more HO HB HB.size hown' hgrow
    clear hown' hgrow
    go_wp2_with fail
    go_roundw
    case rel=>exact⟨k+1,L++[(⟨W.toArray⟩:ByteArray)],[],by omega,by simp;omega,by simp,by go_num,rfl,by rw[<- HC.out,if_pos HE.out];simp,HR.1,HR.2⟩
    case measure=>simp[intOf];omega
   ·have hq:((x[k].toNat:Int)==(cn:Int))=false:=beq_eq_false_iff_ne.2 (fun e=>he (UInt8.toNat_inj.1 (by rw[HCN.out];omega)))
    have HE:Hid (¬x[k]=c):=he
    clear he
    have sl:∀v:World,(Instr.slice 9 (.string x) (some (.int .i64 k)) (some (.int .i64 ((k:Int)+1))) none).run Tryz.prog v=.ok (.string ⟨#[x[k]]⟩) v:=by
     intro v
     rw[run_slice_string v 9 x .i64 .i64 k ((k:Int)+1) Tryz.underlying9 (by omega) (by omega) (by omega),one_byte x k hlt]
    go_wp2_with fail
    go_roundw
    case rel=>exact⟨k+1,L,W++[x[k]],by omega,by omega,by simp;omega,by go_num,congrArg Value.string (by apply ByteArray.ext;simp[ByteArray.data_append]),by rw[<- HC.out,if_neg HE.out],HO,HB⟩
    case measure=>simp[intOf];omega
  ·obtain rfl:k=x.size:=by omega
   rw[List.drop_of_length_le (by rw[bytes_len];omega)]at HC
   have HC:Hid (L++[(⟨W.toArray⟩:ByteArray)]=cutFrom c [] x.data.toList):=HC
   go_wp2_with (at_builtin;refine wpList_append_own _ rfl _ _ 22 rfl w 9 i0 (.string ByteArray.empty) 1 16 Tryz.underlying22 hi hz0 hz1 hz2 rfl (by decide) _ _ _ rfl (HO.alloc _) ⟨wr.heap.size,0,none⟩ 1 1 [.string ⟨W.toArray⟩] rfl rfl ?c1 ?c2 ?c3 ?c4 ?c5 ?_)
   case c1 =>
    intro j u hj
    match j,hj with
    | 0,hj=>simp at hj;subst hj;simp[Addr.add]
   case c2=>intro u hu;simp at hu;subst hu;rfl
   case c3=>unfold maxLen;omega
   case c4=>omega
   case c5=>have:=HB.size;simp;omega
   intro v' w1 hown' hgrow _
   have HR:Hid (w1.ownsRow w 9 1 v' (L++[(⟨W.toArray⟩:ByteArray)]).length ((L++[(⟨W.toArray⟩:ByteArray)]).map Value.string)/\Below w w w1):=row_more HO HB HB.size hown' hgrow
   clear hown' hgrow
   go_wp2_with fail
   go_ret
   refine⟨?_,HR.2⟩
   have hrow:=HR.1.2
   rw[<- HC.out]
   rcases hrow with⟨_,h⟩ | ⟨g,cap,cur,h,hg1,hg2,hg3,hg4,hg5,hg6⟩
   ·simp at h
   ·refine⟨g,cap,by rw[h];rfl,fun j z hz=>?_⟩
    have hjx:((L++[(⟨W.toArray⟩:ByteArray)]).map Value.string)[j]? = some (.string z):=by rw[List.getElem?_map,hz];rfl
    rw[<- hg6]at hjx
    have hcur:cur[j]? = some (.string z):=by
     rw[List.getElem?_take]at hjx
     split at hjx
     ·simpa using hjx
     ·cases hjx
    simp[World.cell?,hg2,hcur]
end Go.Proofs.YtabndgfdbdjdgaaGreatDoor
