/-
  What the claimed theorem reaches, part Q33.
-/
import Derived.Test.YtnogmjekhjldcaaGreatDoorQ32
namespace Go.Proofs.YtnogmjekhjldcaaGreatDoor
open Go.RowKit Go.Proofs.Tryz
set_option maxRecDepth 100000
set_option maxHeartbeats 8000000
section
variable {w:World} {Q:Nat} {n m:Int} {p:Pk}
def dg (x:ByteArray):Int:=numOf x.data.toList 5
def JB (x:ByteArray):Bool:=decide (0<=dg x)
def dv (x:ByteArray):Int:=if 0<=dg x then dg x else 0
def isS (x:ByteArray):Bool:=JB x && decide (dv x<=1)
theorem EM (x:ByteArray) (i:x.size<=4000) (w:World) (L:jU w) (T:Pow w) :
  Calls prog 77 #[.string x] w fun e w'=>e=.returned (.tuple #[.int .i64 (dv x),.bool (JB x)])/\Below w.heap.size w w':=by
 by_cases h:0<=dg x
 ·have a:JB x=true:=gG h;have f:dv x=dg x:=aj h;rw[a,f];exact EG x i (dg x) rfl h w T
 ·have a:JB x=false:=gQ h;have f:dv x=0:=ak h;rw[a,f];exact Hr x i (by unfold dg at h;omega) w L T
theorem EO (h:w.heap[Q]? = some (bU n m p)) (f m':Int) (a:Pk) :
  ∃w',(Instr.storeAt 182 (.pointer (some ⟨Q,0,none⟩)) (kY f m' a)).run prog w=.ok () w'/\w'.heap[Q]? = some (bU f m' a)/\aC Q w w':=by
 unfold bU at h;have j:(sizeOf 182).run prog w=.ok 8 w:=by kernel_rfl
 have e:=Ii prog Q 0 182 [.int .i64 f,.int .i64 m',.int .i64 a.pr,.int .i64 a.a1,.int .i64 a.p1,.int .i64 a.a2,.int .i64 a.p2,.int .i64 a.fl] 0 _ w h sM (fun u i=>by
  simp only[dI,eY,fA]at i;rcases i with rfl | rfl | rfl | rfl | rfl | rfl | rfl | rfl <;> rfl)
 refine⟨w.setRow Q #[.int .i64 f,.int .i64 m',.int .i64 a.pr,.int .i64 a.a1,.int .i64 a.p1,.int .i64 a.a2,.int .i64 a.p2,.int .i64 a.fl],?_,Cc w Q _ _ _ _ h,pW _ _ _⟩;simp only[kY,Instr.storeAt,Instr.sureAddr,nM,qX,pR,storeVar,j,Value.cells];simp at e ⊢;exact e
structure ahn (w:World) (Q:Nat) (n m:Int) (p:Pk):Prop where
 c0:w.cell? ⟨Q,0,none⟩=some (.int .i64 n)
 c1:w.cell? ⟨Q,1,none⟩=some (.int .i64 m)
 c2:w.cell? ⟨Q,2,none⟩=some (.int .i64 p.pr)
 c3:w.cell? ⟨Q,3,none⟩=some (.int .i64 p.a1)
 c4:w.cell? ⟨Q,4,none⟩=some (.int .i64 p.p1)
 c5:w.cell? ⟨Q,5,none⟩=some (.int .i64 p.a2)
 c6:w.cell? ⟨Q,6,none⟩=some (.int .i64 p.p2)
 c7:w.cell? ⟨Q,7,none⟩=some (.int .i64 p.fl)
theorem Qz (h:w.heap[Q]? = some (bU n m p)):ahn w Q n m p :=
 ⟨(aP _ _ _ _ _ _ h).trans rfl,(aP _ _ _ _ _ _ h).trans rfl,(aP _ _ _ _ _ _ h).trans rfl,(aP _ _ _ _ _ _ h).trans rfl,(aP _ _ _ _ _ _ h).trans rfl,(aP _ _ _ _ _ _ h).trans rfl,(aP _ _ _ _ _ _ h).trans rfl,(aP _ _ _ _ _ _ h).trans rfl⟩
theorem aaT (h:w.heap[Q]? = some (bU n m p)) (x:ByteArray) (o:x.size<=4000) (L:jU w) (T:Pow w) :
  Calls prog 167 #[.pointer (some ⟨Q,0,none⟩),.string ⟨#[78]⟩,.string x] w fun e w'=>e=.returned (.bool (JB x))/\w'.heap[Q]? = some (bU n (dv x) p)/\aC Q w w':=by
 have j:Hid (jU w/\Pow w/\x.size<=4000/\w.heap[Q]? = some (bU n m p)):=⟨L,T,o,h⟩;have s:Q < w.heap.size:=gq h;clear L T o h;go_enter func167,ntmps167;go_wp2_with fail;refine(EM x j.out.2.2.1 w j.out.1 j.out.2.1).mono ?_;rintro e w2 ⟨rfl,l⟩;obtain⟨bo,a⟩:∃bo,JB x=bo:=⟨_,rfl⟩;obtain⟨d,k⟩:∃d,dv x=d:=⟨_,rfl⟩;rw[a,k];have i:Hid (JB x=bo/\dv x=d/\isS x=(bo && decide (d<=1))):=⟨a,k,by rw[<- a,<- k];rfl⟩;clear a k;have f:w2.heap[Q]? = some (bU n m p):=(l.block Q s).trans j.out.2.2.2;have c1:=(Qz f).c1;have u:w2.frozen? ⟨Q,1,none⟩=false:=jk _ _ _ _ _ f;have q:Hid (w2.heap[Q]? = some (bU n m p)/\Below w.heap.size w w2):=⟨f,l⟩;clear f l;go_wp2_with fail;go_ret;refine⟨by rw[i.out.1];rfl,?_,(aC.of q.out.2).trans (aC.set _ _ _ _)⟩;rw[i.out.2.1];have f:=q.out.1;unfold bU at f ⊢;rw[bV w2 _ 1 _ _ _ f];rfl
theorem afy (h:w.heap[Q]? = some (bU n m p)) (x:ByteArray) (o:x.size<=4000) (L:jU w) (T:Pow w) :
  Calls prog 167 #[.pointer (some ⟨Q,0,none⟩),.string ⟨#[83]⟩,.string x] w fun e w'=>e=.returned (.bool (isS x))/\w'.heap[Q]? = some (bU (dv x) m p)/\aC Q w w':=by
 have j:Hid (jU w/\Pow w/\x.size<=4000/\w.heap[Q]? = some (bU n m p)):=⟨L,T,o,h⟩;have u:Q < w.heap.size:=gq h;clear L T o h;go_enter func167,ntmps167;go_wp2_with fail;refine(EM x j.out.2.2.1 w j.out.1 j.out.2.1).mono ?_;rintro e w2 ⟨rfl,l⟩;obtain⟨bo,a⟩:∃bo,JB x=bo:=⟨_,rfl⟩;obtain⟨d,k⟩:∃d,dv x=d:=⟨_,rfl⟩;rw[a,k];have f:Hid (JB x=bo/\dv x=d/\isS x=(bo && decide (d<=1))):=⟨a,k,by rw[<- a,<- k];rfl⟩;clear a k;have i:w2.heap[Q]? = some (bU n m p):=(l.block Q u).trans j.out.2.2.2;have c1:=(Qz i).c0;have y:w2.frozen? ⟨Q,0,none⟩=false:=jk _ _ _ _ _ i;have q:Hid (w2.heap[Q]? = some (bU n m p)/\Below w.heap.size w w2):=⟨i,l⟩;have s:Hid (∀d:Int,(w2.setCell ⟨Q,0,none⟩ (.int .i64 d)).heap[Q]? = some (bU d m p)):=fun d=>by
  unfold bU at i ⊢;rw[bV w2 _ 0 _ _ _ i];rfl
 clear i l
 cases bo
 ·go_wp2_with fail;go_ret;exact⟨by rw[f.out.2.2];rfl,by rw[f.out.2.1];exact s.out d,(aC.of q.out.2).trans (aC.set _ _ _ _)⟩
 ·go_wp2_with fail;go_ret;exact⟨by rw[f.out.2.2];rfl,by rw[f.out.2.1];exact s.out d,(aC.of q.out.2).trans (aC.set _ _ _ _)⟩
end
theorem SS {c:Nat}:∀(a:List (List UInt8)),(∀x ∈ a,x.length<=c)->Lib.lens a<=c * a.length
 | [],_=>by simp[Lib.lens]
 | x::r,h=>by
  have i:=SS r (fun y f=>h y (Oo _ f));have j:=h x (aeE ..);have e:Lib.lens (x::r)=x.length+Lib.lens r:=by simp[Lib.lens]
  rw[e,vX,Nat.mul_add,Ot];omega
theorem join_le {c:Nat} {sep:List UInt8}:∀(a:List (List UInt8)),(∀x ∈ a,x.length<=c)->(Lib.join a sep).length<=(sep.length+c) * a.length
 | [],_=>by simp[Lib.join_nil]
 | x::r,h=>by
  rw[Lib.join_length];have:=SS (x::r) h;have e:sep.length * r.length<=sep.length * (x::r).length:=Nat.mul_le_mul_left _ sM;rw[Nat.add_mul];omega
theorem adJ {n e:Int} (a:0<=n) (h:n<=1000000) (f:0<=e) (i:e<=1000000):(Jj n e).data.toList.length<=15:=by
 have j:=eu a om;have k:=eu f om;simp[Jj];omega
theorem Hy {w w':World} {b n:Nat} {v:Value} {cs:List Value} (h:w.ownsRow b 9 1 v n cs) (a:Below w.heap.size w w'):w'.ownsRow b 9 1 v n cs :=
 h.kept (row:=none) ⟨a.os,a.tape,a.output,a.size,fun k e _=>a.block k e⟩ (Classical.em _)
def oJ (l:List (Int×Int)):List ByteArray:=l.map fun e=>Jj e.1 e.2
def evT (W:Wo):ByteArray:=if W.ev=[] then noT else ⟨(Lib.join ((oJ W.ev).map (·.data.toList)) [44,32]).toArray⟩
theorem adK {w wr w1:World} {v v':Value} {L:List (Int×Int)} {k:Nat} {x:Int×Int} {h:Obj} {y:ByteArray} (i:L[k]? = some x) (l:Jj x.1 x.2=y) (a:wr.ownsRow w.heap.size 9 1 v k ((oJ (L.take k)).map Value.string)) (f:Below w.heap.size w wr)
  (m:w1.ownsRow w.heap.size 9 1 v' (k+1) ((oJ (L.take k)).map Value.string++[.string y])) (o:(wr.alloc h).grownBy w1 v.ownBlock) :
  w1.ownsRow w.heap.size 9 1 v' (k+1) ((oJ (L.take (k+1))).map Value.string)/\Below w.heap.size w w1:=by
 refine⟨?_,(f.alloc f.size _).grown o (by have:=f.size;simp;omega) (fun j p=>(a.lt _ p).1)⟩;have e:oJ (L.take (k+1))=oJ (L.take k)++[y]:=by
  rw[xE,i];simp[oJ,l]
 rw[e];simpa using m
theorem EP {w0 w:World} {Y:Nat->Option Obj} {wb B N b M pb t q:Nat} {W:Wo} (h:Pw w0 w wb Y B N b M pb W t) (T:Pow w) (hS:Sk q W) (I:q<=300000) :
  Calls prog 101 #[.pointer (some ⟨b,0,none⟩)] w fun e w'=>e=.returned (.string (evT W))/\Below w.heap.size w w':=by
 have c1:=h.b0;obtain⟨K,wd,pl,yk,rfl⟩:=h;obtain⟨i0,hi,Zh,Zi,Zj⟩:=lu Tryz.SQ;have H:Hid (Wd w0 w K W t/\Pow w/\Sk q W/\q<=300000):=⟨wd,T,hS,I⟩;have Zk:=wd.ev.le;clear T wd pl yk hS I;go_enter func101,ntmps101;go_wp2_with fail;refine(U3 H.out.1).mono ?_;rintro e w2 ⟨⟨v2,rfl,s⟩,b2⟩;obtain⟨vp,vc,rfl,J⟩:=adh s;have HV:Hid (∀(j:Nat) x,W.ev[j]? = some x->∃g,vp=some ⟨g,0,none⟩/\w.heap.size<=g/\w2.cell? ⟨g,j * 2,none⟩=some (.int .i64 x.1)/\w2.cell? ⟨g,j * 2+1,none⟩=some (.int .i64 x.2)):=J;have B2:Hid (Below w.heap.size w w2):=b2;clear s J b2;obtain⟨n,hn⟩:∃n,n=W.ev.length:=⟨_,rfl⟩;rw[<- hn]at Zk ⊢;have L:Hid (n=W.ev.length):=hn;clear hn;go_wp2_with fail;go_loopw [3,5,12] (fun v _ tv wr=>∃j:Nat,j<=n/\tv=.int .i64 j/\wr.ownsRow w2.heap.size 9 1 v j ((oJ (W.ev.take j)).map Value.string)/\Below w2.heap.size w2 wr) (fun _ _ tv _=>n - (intOf tv).toNat)
 case atStart=>exact⟨0,by omega,rfl,ql _ _ _ _,aH _ _⟩
 case round =>
  obtain⟨j,O,rfl,z,P⟩:=hrel;have HO:Hid (wr.ownsRow w2.heap.size 9 1 u3 j ((oJ (W.ev.take j)).map Value.string)):=z;have D:Hid (Below w2.heap.size w2 wr):=P;clear z P;by_cases Zq:j < n
  ·obtain⟨x,A⟩:∃x,W.ev[j]? = some x:=by
    have:=L.out;exact⟨W.ev[j]' om,fD _⟩
   have HX:Hid (W.ev[j]? = some x):=A;obtain⟨g,rfl,hg,d0,d1⟩:=HV.out j x A;have Q:=H.out.2.2.1.e x (kW A);have I:=H.out.2.2.2;have S:=Q.1;unfold Zo at S;have z2:=Q.2;obtain⟨xa,xe⟩:=x;simp only at d0 d1 S z2;have Zl:=tk D.out d0;have Zr:=tk D.out d1;have x0:0<=xa:=by omega
   have x1:xa<=1000000:=by omega
   have x2:xe<=1000000:=by omega
   have x3:0<=xe:=by omega
   have U:g < wr.heap.size:=eF Zl;have Zt:(0:Int)<=(j:Int):=by omega
   have i1:(j:Int) < (n:Int):=by omega
   clear d0 d1 A Q S z2 I;go_wp2_with fail;refine(vO xa xe x0 x1 x3 x2 _ ((H.out.2.1.below B2.out).below (D.out.alloc D.out.size _))).mono ?_;rintro e w3 ⟨rfl,b3⟩;have B3:Hid (Below w2.heap.size w2 w3):=t2 (D.out.alloc D.out.size _) b3;have O3:Hid (w3.ownsRow w2.heap.size 9 1 u3 j ((oJ (W.ev.take j)).map Value.string)):=Hy (HO.out.alloc _) b3;clear b3;obtain⟨y,V⟩:∃y,Jj xa xe=y:=⟨_,rfl⟩;have HY:Hid (Jj xa xe=y):=V;rw[V];clear V;go_wp2_with (at_builtin;refine vw _ rfl _ _ 28 rfl w2.heap.size 9 i0 (.string ByteArray.empty) 1 16 Tryz.underlying28 hi Zh Zi Zj rfl dC _ _ _ rfl (O3.out.alloc _) ⟨w3.heap.size,0,none⟩ 1 1 [.string y] rfl rfl ?c1 ?c2 ?c3 ?c4 ?c5 ?_)
   case c1 =>
    intro j u O;match j,O with
    | 0,O=>simp at O;subst O;simp[Addr.add]
   case c2=>intro u hu;simp at hu;subst hu;rfl
   case c3=>unfold maxLen;omega
   case c4=>omega
   case c5=>have:=B3.out.size;simp;omega
   intro v' w4 k l _;have R:=adK HX.out HY.out O3.out B3.out k l;have HR:Hid (w4.ownsRow w2.heap.size 9 1 v' (j+1) ((oJ (W.ev.take (j+1))).map Value.string)/\Below w2.heap.size w2 w4):=R;clear k l R;go_wp2_with fail;go_roundw
   case rel=>exact⟨j+1,by omega,by go_num,HR.out.1,HR.out.2⟩
   case measure=>simp[intOf];omega
  ·obtain rfl:j=n:=by omega
   have BW:Hid (Below w.heap.size w wr):=t2 B2.out D.out;have m:=L.out;have E:W.ev.take j=W.ev:=by rw[m];exact xH
   have ho:=HO.out;rw[E]at ho;obtain⟨C,o⟩:=ho;by_cases X:W.ev=[]
   ·have HE:Hid (evT W=noT):=aj X;have Zm:j=0:=by rw[m,X];rfl
    subst Zm;have Zn:∃b c,u3=.slice b 0 c:=by
     rcases o with⟨h,_⟩ | ⟨g,cap,cur,h,_⟩
     ·exact⟨_,_,h⟩
     ·exact⟨_,_,h⟩
    obtain⟨b',c',rfl⟩:=Zn;clear C o E m;go_wp2_with fail;go_ret;exact⟨by rw[HE.out];rfl,BW.out⟩
   ·have HE:Hid (evT W=⟨(Lib.join ((oJ W.ev).map (·.data.toList)) [44,32]).toArray⟩):=ak X;have Zp:1<=j:=by have:=List.length_pos_iff.2 X;omega
    rcases o with⟨_,h⟩ | ⟨g,cap,cur,rfl,hg1,hg2,hg3,hg4,hg5,hg6⟩
    ·omega
    have f:∀(i:Nat) x,(oJ W.ev)[i]? = some x->wr.cell? ⟨g,0+i,none⟩=some (.string x):=by
     intro i x A;have p:((oJ W.ev).map Value.string)[i]? = some (.string x):=by rw[kK,A];rfl
     rw[<- hg6]at p;rw[fE];have Z:cur[i]? = some (.string x):=by
      rw[kG]at p;split at p
      ·simpa using p
      ·cases p
     simp[World.cell?,hg2,Z]
    have HC:Hid (∀(i:Nat) x,(oJ W.ev)[i]? = some x->wr.cell? ⟨g,0+i,none⟩=some (.string x)):=f;have U:Hid (g < wr.heap.size):=by
     rcases dX g wr.heap.size with h' | h'
     ·exact h'
     ·simp[Array.getElem?_eq_none h']at hg2
    have F:(oJ W.ev).length=j:=by rw[m];simp[oJ]
    have G:Hid ((oJ W.ev).length=j/\j<=cap):=⟨F,hg3⟩;have HJ:Hid ((Lib.join ((oJ W.ev).map (·.data.toList)) [44,32]).length<=140737488355328):=by
     have:=join_le (c:=15) (sep:=[44,32]) ((oJ W.ev).map (·.data.toList)) (fun x A=>by
      obtain⟨y,V,rfl⟩:=List.mem_map.1 A;obtain⟨a,ha,rfl⟩:=List.mem_map.1 V;have Q:=H.out.2.2.1.e a ha;have I:=H.out.2.2.2;have S:=Q.1;unfold Zo at S;exact adJ om om om om)
     rw[vC,F]at this;simp at this;show _<=_;omega
    have Zu:((j:Int)==0)=false:=dG.2 om;clear C X hg1 hg2 hg3 hg4 hg5 hg6 f E m F;go_wp2_with fail;have hJ := Tryz.strings_Join g 0 cap (oJ W.ev) ⟨#[44,32]⟩ wr HC.out U.out (by have:=G.out.1;omega) (by have:=G.out;omega) HJ.out;rw[G.out.1]at hJ;refine hJ.mono ?_;rintro e w5 ⟨rfl,Zg⟩;have B5:Hid (Below w.heap.size w w5):=t2 BW.out Zg;clear Zg hJ;go_wp2_with fail;go_ret;exact⟨by rw[HE.out];rfl,B5.out⟩
section
variable {w:World} {v:Value} {ws:List ByteArray}
def FN (w:World) (v:Value) (ws:List ByteArray):Prop:=∃p c,v=.slice p ws.length c/\ws.length<=c/\∀(j:Nat) y,ws[j]? = some y->∃Z o,p=some ⟨Z,o,none⟩/\w.cell? ⟨Z,o+j,none⟩=some (.string y)
theorem FN.below {w':World} (h:FN w v ws) (a:Below w.heap.size w w'):FN w' v ws:=by
 obtain⟨p,c,e,f,i⟩:=h;refine⟨p,c,e,f,fun j y k=>?_⟩;obtain⟨Z,o,l,d⟩:=i j y k;exact⟨Z,o,l,tk a d⟩
def jv (ws:List ByteArray):List UInt8:=Lib.join (ws.map (·.data.toList)) [32]
theorem adL (h:FN w v ws) (s:(jv ws).length<=4000) (u:ws.length<=5000) :
  Calls prog 161 #[v,.string ⟨#[32]⟩] w fun e w'=>e=.returned (.string ⟨(jv ws).toArray⟩)/\Below w.heap.size w w':=by
 obtain⟨p,c,rfl,i,f⟩:=h
 cases ws with
 | nil=>exact(Tryz.strings_Join_none p c ⟨#[32]⟩ w).mono fun e w' ⟨k,l⟩=>⟨k,by rw[l];exact aH _ _⟩
 | cons a r =>
  obtain⟨Z,o,rfl,m⟩:=f 0 a rfl;exact Tryz.strings_Join Z o c (a::r) ⟨#[32]⟩ w (fun j x q=>by
   obtain⟨y,z,e,d⟩:=f j x q
   cases e
   exact d) (eF m) om i (by
   show(jv (a::r)).length<=_;omega)
def ER (x:ByteArray):Option Pk:=match lQ x with
 | some (pr,u,v,y,z,fl)=>if dB pr u v y z fl=0/\x=⟨(iT pr u v y z fl).toArray⟩ then some ⟨pr,u,v,y,z,fl⟩ else none
 | none=>none
def ecO {α:Type} (o:Option α):Nat:=if o.isSome then 0 else 1
theorem QA (x:ByteArray) (i:x.size<=4000) (s:Nat->Addr) (w:World) (E:oI w s) :
  Calls prog 166 #[.string x] w fun e w'=>e=.returned (.tuple #[((ER x).getD aU).v,aO s (ecO (ER x))])/\Below w.heap.size w w':=by
 cases h:lQ x with
 | none =>
  have e:ER x=none:=by unfold ER;rw[h]
  rw[e];exact VR x i s w E h
 | some r =>
  obtain⟨a,u,v,y,z,f⟩:=r;by_cases j:dB a u v y z f=0
  ·by_cases l:x=⟨(iT a u v y z f).toArray⟩
   ·have e:ER x=some ⟨a,u,v,y,z,f⟩:=by unfold ER;rw[h];exact aj ⟨j,l⟩
    rw[e];exact adI x i a u v y z f s w E h (jI.1 j) l
   ·have e:ER x=none:=by unfold ER;rw[h];exact ak (fun q=>l q.2)
    rw[e];exact VT x i a u v y z f s w E h (jI.1 j) l
  ·have e:ER x=none:=by unfold ER;rw[h];exact ak (fun q=>j q.1)
   rw[e];obtain⟨k,m⟩:∃k,dB a u v y z f=k+1:=⟨dB a u v y z f - 1,by omega⟩;exact aaS x i a u v y z f k s w E h m
theorem afz {s:Nat->Addr} (h:FN w v ws) (z:(jv ws).length<=4000) (A:ws.length<=5000) (E:oI w s) :
  Calls prog 115 #[.string ⟨#[80,65,67,75,69,84]⟩,v] w fun e w'=>e=.returned (.tuple #[kY 0 0 ((ER ⟨(jv ws).toArray⟩).getD aU),aO s (ecO (ER ⟨(jv ws).toArray⟩))])/\Below w.heap.size w w':=by
 have j:Hid (FN w v ws/\(jv ws).length<=4000/\ws.length<=5000/\oI w s):=⟨h,z,A,E⟩;clear h z A E;go_enter func115,ntmps115;go_wp2_with fail;have B:Hid (Below w.heap.size w (w.alloc (bU 0 0 aU))):=aB _ _;refine(adL (j.out.1.below B.out) j.out.2.1 j.out.2.2.1).mono ?_;rintro e w2 ⟨rfl,l⟩;have m:(w.alloc (bU 0 0 aU)).heap[w.heap.size]? = some (bU 0 0 aU):=dh _ _;have C:w2.heap[w.heap.size]? = some (bU 0 0 aU):=(l.block _ (gq m)).trans m;have k:Hid (w2.heap[w.heap.size]? = some (bU 0 0 aU)/\Below w.heap.size w w2):=⟨C,t2 B.out l⟩;clear C l m;go_wp2_with fail;refine(QA ⟨(jv ws).toArray⟩ (by have:=j.out.2.1;simpa [ByteArray.size] using this) s w2 (j.out.2.2.2.below k.out.2)).mono ?_;rintro e i ⟨rfl,o⟩;obtain⟨p,u⟩:∃p,(ER ⟨(jv ws).toArray⟩).getD aU=p:=⟨_,rfl⟩;obtain⟨ev,a⟩:∃ev,aO s (ecO (ER ⟨(jv ws).toArray⟩))=ev:=⟨_,rfl⟩;have D:Hid ((ER ⟨(jv ws).toArray⟩).getD aU=p/\aO s (ecO (ER ⟨(jv ws).toArray⟩))=ev):=⟨u,a⟩;rw[u,a];clear u a;have x:i.heap[w.heap.size]? = some (bU 0 0 aU):=(o.block _ (gq k.out.1)).trans k.out.1;have F:Hid (i.heap[w.heap.size]? = some (bU 0 0 aU)/\Below w.heap.size w i):=⟨x,t2 k.out.2 o⟩;have y:w.heap.size < i.heap.size:=gq x;clear x o;go_upto_region 3 with fail
 have G:(i.alloc (.cells #[.int .i64 p.pr,.int .i64 p.a1,.int .i64 p.p1,.int .i64 p.a2,.int .i64 p.p2,.int .i64 p.fl] 35)).heap[w.heap.size]? = some (bU 0 0 aU):=((aB i _).block _ y).trans F.out.1;obtain⟨H,f,I,c5⟩:=EO G 0 0 p;have J:Hid (H.heap[w.heap.size]? = some (bU 0 0 p)/\Below w.heap.size w H):=⟨I,aC.below (t2 F.out.2 (aB _ _)) c5 nL⟩;unfold kY at f;clear G I c5;go_wp2_with (refine aA rfl 182 _ _ rfl _ _ _ rfl rfl f ?_)
 have q:=Qz J.out.1;clear f;go_wp2_with fail;exact bf (v:=.tuple #[kY 0 0 p,ev]) (by simp[results,results115,go_sem,q.c0,q.c1,q.c2,q.c3,q.c4,q.c5,q.c6,q.c7,kY]) rfl ⟨by rw[D.out.1,D.out.2],J.out.2⟩
end
section
variable {w wr:World} {n m:Int} {s:Nat->Addr}
def Hz:Nat->ByteArray
  | 0=>⟨#[]⟩
  | 1=>⟨#[83]⟩
  | 2=>⟨#[78]⟩
  | 3=>⟨#[83,78]⟩
  | _=>⟨#[80,65,67,75,69,84]⟩
def gy (f:Nat) (e:List ByteArray):Option (Int×Int×Pk) :=
  match f,e with
  | 0,[]=>some (0,0,aU)
  | 1,[a]=>if isS a then some (dv a,0,aU) else none
  | 2,[a]=>if JB a then some (0,dv a,aU) else none
  | 3,[a,b]=>if isS a && JB b then some (dv a,dv b,aU) else none
  | 4,e=>(ER ⟨(jv e).toArray⟩).map fun p=>(0,0,p)
  | _,_=>none
theorem FP {b:Nat} {u:World} (h:Below b w u) (i:Nat) (v:Value):Below b w (u.setCell ⟨b,i,none⟩ v):=wo h nL v
theorem FQ {Q:Nat} {p:Pk} (h:w.heap[Q]? = some (bU n m p)) (i:Nat):w.frozen? ⟨Q,i,none⟩=false:=jk _ _ _ _ _ h
theorem FN.at' {p:Option Addr} {c n:Nat} {a:List ByteArray} (h:FN w (.slice p n c) a):a.length=n/\∀(j:Nat) y,a[j]? = some y->∃Z o,p=some ⟨Z,o,none⟩/\w.cell? ⟨Z,o+j,none⟩=some (.string y):=by
  obtain⟨i,c',e,k,f⟩:=h
  cases e
  exact⟨rfl,f⟩
structure Ra (w wr:World) (s:Nat->Addr) (n m:Int):Prop where
  q:wr.heap[w.heap.size]? = some (bU 0 0 aU)
  r:wr.heap[w.heap.size+1]? = some (bU n m aU)
  b:Below w.heap.size w wr
  s:Af wr s
  l:jU wr
  t:Pow wr
theorem Ra.start (S:Af w s) (L:jU w) (T:Pow w):Ra w ((w.alloc (bU 0 0 aU)).alloc (bU 0 0 aU)) s 0 0:=by
  have b:Below w.heap.size w ((w.alloc (bU 0 0 aU)).alloc (bU 0 0 aU)):=t2 (aB _ _) (aB _ _);have a:(w.alloc (bU 0 0 aU)).heap[w.heap.size]? = some (bU 0 0 aU):=dh _ _;refine⟨?_,?_,b,S.below b,L.below b,T.below b⟩
  · exact((aB (w.alloc (bU 0 0 aU)) _).block _ (gq a)).trans a
  · have e:((w.alloc (bU 0 0 aU)).alloc (bU 0 0 aU)).heap[(w.alloc (bU 0 0 aU)).heap.size]? = some (bU 0 0 aU):=dh _ _
    rw[show(w.alloc (bU 0 0 aU)).heap.size=w.heap.size+1 by simp]at e;exact e
theorem Ra.next {w':World} {a m':Int} (h:Ra w wr s n m) (e:w'.heap[w.heap.size+1]? = some (bU a m' aU)) (c:aC (w.heap.size+1) wr w') (S:Af w s) (L:jU w) (T:Pow w):Ra w w' s a m':=by
  have b:Below w.heap.size w w':=aC.below h.b c om;exact⟨(c.block _ (gq h.q) om).trans h.q,e,b,S.below b,L.below b,T.below b⟩
theorem Ra.st (h:Ra w wr s n m):∃w5,(Instr.storeAt 182 (.pointer (some (w.heap.size,0))) (kY n m aU)).run prog wr=.ok () w5/\w5.heap[w.heap.size]? = some (bU n m aU)/\Below w w w5 :=
  let ⟨w5,a,b,c⟩:=EO h.q n m aU;⟨w5,a,b,aC.below h.b c nL⟩
theorem Ra.g {g:Option (Int×Int×Pk)} (_:Ra w wr s n m) (e:g=some (n,m,aU)):Hid (g=some (n,m,aU)):=e
theorem arg0 {Q:Nat} (h:w.heap[Q]? = some (bU 0 0 aU)) (i:Nat) (a:i < 8):w.cell? (Q,i)=some (.int .i64 0):=by
  have c:=Qz h;have e:i=0\/i=1\/i=2\/i=3\/i=4\/i=5\/i=6\/i=7:=by omega
  rcases e with rfl | rfl | rfl | rfl | rfl | rfl | rfl | rfl;all_goals first | exact c.c0 | exact c.c1 | exact c.c2 | exact c.c3 | exact c.c4 | exact c.c5 | exact c.c6 | exact c.c7
theorem Nh {w2:World} {s0:Nat->Addr} (S:Af w s0) (a:Af w2 s0) (v:Value):(w2.setCell (w.heap.size,0) v).cell? (1,0)=some (.iface 359 (.pointer (some (s0 0)))) :=
  (lT _ _ _ _ (fun e=>by have:=dP Addr.block e;have f:=block_lt S.c0;simp at this f;omega)).trans a.c0
theorem afA (f:Nat) (E:f < 4) {w:World} {p:Option Addr} {n c:Nat} {s:Nat->Addr} (q:n≠(Hz f).size) (S:Af w s) :
    Calls prog 115 #[.string (Hz f),.slice p n c] w fun e w'=>e=.returned (.tuple #[kY 0 0 aU,aO s 1])/\Below w.heap.size w w':=by
  obtain⟨w2,a⟩:∃w2,w.alloc (.cells #[.int .i64 0,.int .i64 0,.int .i64 0,.int .i64 0,.int .i64 0,.int .i64 0,.int .i64 0,.int .i64 0] 182)=w2:=⟨_,rfl⟩;have j:w2.heap[w.heap.size]? = some (bU 0 0 aU):=by rw[<- a];exact dh _ _
  have l:Hid (Below w.heap.size w w2):=by rw[<- a];exact aB w _
  have k:=arg0 j;have g:=FQ j;have u:=k 0 om;have F:=g 0;have x:=k 1 om;have G:=g 1;have y:=k 2 om;have H:=g 2;have z:=k 3 om;have I:=g 3;have A:=k 4 om;have J:=g 4;have B:=k 5 om;have K:=g 5;have C:=k 6 om;have L:=g 6;have D:=k 7 om;have M:=g 7;have N:=Nh S (S.below l.out) (.int .i64 0);have s0:=(S.below l.out).c0;have h:Hid (∀k:Int,((Hz f).size:Int)=k->¬(n:Int)=k):=fun k e c=>by apply q;omega
  have o:f=0\/f=1\/f=2\/f=3:=by omega
  clear j k g S q;rcases o with rfl | rfl | rfl | rfl;all_goals (first | have i:=h.out 0 rfl | have i:=h.out 1 rfl | have i:=h.out 2 rfl)
  all_goals simp only[Hz]
  all_goals (go_enter func115,ntmps115)
  all_goals go_wp2_with fail
  all_goals try rw[a]
  all_goals clear a
  all_goals go_region
  all_goals go_wp2_with fail
  all_goals exact bf (v:=.tuple #[kY 0 0 aU,aO s 1]) (by simp[results,results115,go_sem,u,x,y,z,A,B,C,D,kY,aO,aU]) rfl ⟨rfl,by
    repeat (first | with_reducible exact l.out | with_reducible refine FP ?_ _ _ | with_reducible refine qZ ?_)⟩
theorem afB (f:Nat) {w:World} {v:Value} {B:List ByteArray} {s:Nat->Addr} (h:FN w v B) (K:∀a ∈ B,a.size<=4000) (S:Af w s) (L:jU w) (T:Pow w)
    (cs:f=0/\B=[]\/(∃a,f=1/\B=[a])\/(∃a,f=2/\B=[a])\/∃a b,f=3/\B=[a,b]) (g:Option (Int×Int×Pk)) (M:g=gy f B) :
    Calls prog 115 #[.string (Hz f),v] w fun e w'=>e=.returned (.tuple #[kY (g.getD (0,0,aU)).1 (g.getD (0,0,aU)).2.1 (g.getD (0,0,aU)).2.2,aO s (ecO g)])/\Below w w w':=by
  obtain⟨p,c,rfl,U,N⟩:=h;have x:Hid ((Af w s/\jU w/\Pow w)/\(∀a ∈ B,a.size<=4000)/\g=gy f B):=⟨⟨S,L,T⟩,K,M⟩;have O:Hid (∀(j:Nat) y,B[j]? = some y->∃Z o,p=some ⟨Z,o,none⟩/\w.cell? ⟨Z,o+j,none⟩=some (.string y)):=N;obtain⟨w2,C⟩:∃w2,(w.alloc (.cells #[.int .i64 0,.int .i64 0,.int .i64 0,.int .i64 0,.int .i64 0,.int .i64 0,.int .i64 0,.int .i64 0] 182)).alloc (.cells #[.int .i64 0,.int .i64 0,.int .i64 0,.int .i64 0,.int .i64 0,.int .i64 0,.int .i64 0,.int .i64 0] 182)=w2:=⟨_,rfl⟩;have i:Hid (Ra w w2 s 0 0):=by rw[<- C];exact Ra.start S L T
  clear N U K M S L T;rcases cs with⟨rfl,rfl⟩ | ⟨a,rfl,rfl⟩ | ⟨a,rfl,rfl⟩ | ⟨a,b,rfl,rfl⟩;all_goals simp only[vX,xG,fE,Hz]
  all_goals (go_enter func115,ntmps115)
  all_goals go_upto_region 7 with fail
  all_goals try rw[C]
  all_goals clear C
  all_goals go_wp2_with fail
  all_goals refine lq 3 ?_
  all_goals rw[bM]
  all_goals first
    | (obtain⟨Z,o,rfl,I⟩:=O.out 0 a rfl
       have P:=tk i.out.b I;have D:=ji (eF I) i.out.b.size;simp only[oV]at P;clear I;go_wp2_with fail;(first | rw[show(⟨#[83]⟩:ByteArray).extract 0 1=⟨#[83]⟩ from rfl] | rw[show(⟨#[78]⟩:ByteArray).extract 0 1=⟨#[78]⟩ from rfl] | rw[show(⟨#[83,78]⟩:ByteArray).extract 0 1=⟨#[83]⟩ from rfl])
       (first | with_reducible refine(afy i.out.r a (x.out.2.1 a sM) i.out.l i.out.t).mono ?_ | with_reducible refine(aaT i.out.r a (x.out.2.1 a sM) i.out.l i.out.t).mono ?_)
       rintro e w3 ⟨rfl,G,z⟩;have A:=jH (i.out.next G z x.out.1.1 x.out.1.2.1 x.out.1.2.2);clear G z i P D;have i:=A;clear A;(first | (obtain⟨b0,u⟩:∃bo,isS a=bo:=⟨_,rfl⟩;rw[u]) | (obtain⟨b0,u⟩:∃bo,JB a=bo:=⟨_,rfl⟩;rw[u]))
       cases b0
       all_goals try (have H:Hid (g=none):=by show _=_;rw[x.out.2.2];simp[gy,u])
       all_goals go_wp2_with fail
       all_goals try rw[bM])
    | skip
  all_goals try
     (obtain⟨Z2,o2,V,J⟩:=O.out 1 b rfl
      cases V
      have W:=tk i.out.b J;have D:=ji (eF J) i.out.b.size;clear J;go_wp2_with fail;refine(aaT i.out.r b (x.out.2.1 b sM) i.out.l i.out.t).mono ?_;rintro e w4 ⟨rfl,G,z⟩;have A:=jH (i.out.next G z x.out.1.1 x.out.1.2.1 x.out.1.2.2);clear G z i W D;have i:=A;clear A;obtain⟨b1,E⟩:∃bo,JB b=bo:=⟨_,rfl⟩;rw[E]
      cases b1
      all_goals try (have H:Hid (g=none):=by show _=_;rw[x.out.2.2];simp[gy,u,E])
      all_goals go_wp2_with fail
      all_goals try rw[bM])
  all_goals first
    | (have X:=H
       have Y:=jH i.out.b;have dx:=Nh x.out.1.1 i.out.s (.int .i64 0);have s0:=i.out.s.c0;have k:=arg0 i.out.q;have g:=FQ i.out.q;have r0:=k 0 om;have g0:=g 0;have r1:=k 1 om;have g1:=g 1;have r2:=k 2 om;have g2:=g 2;have r3:=k 3 om;have g3:=g 3;have r4:=k 4 om;have g4:=g 4;have r5:=k 5 om;have g5:=g 5;have r6:=k 6 om;have g6:=g 6;have r7:=k 7 om;have g7:=g 7;clear k g;go_region;all_goals go_wp2_with fail
       all_goals exact bf (by rw[H.out];simp[results,results115,go_sem,r0,r1,r2,r3,r4,r5,r6,r7,kY,aO,aU,ecO]) rfl ⟨rfl,by
         repeat (first | with_reducible exact Y.out | with_reducible refine FP ?_ _ _ | with_reducible refine qZ ?_)⟩)
    | (have H:=Ra.g i.out (x.out.2.2.trans (by first | rfl | simp[gy,u,E] | simp[gy,u]))
       go_upto_region 13 with fail
       obtain⟨w5,F,Q⟩:=i.out.st;have R:=jH Q;unfold kY aU at F;have k:=Qz i.out.r;have k0:=k.c0;have k1:=k.c1;have k2:=k.c2;have k3:=k.c3;have k4:=k.c4;have k5:=k.c5;have k6:=k.c6;have k7:=k.c7;simp only[aU]at k0 k1 k2 k3 k4 k5 k6 k7;clear Q k;go_wp2_with (refine aA rfl 182 _ _ rfl _ _ _ rfl rfl F ?_)
       have q:=Qz R.out.1;clear F;go_wp2_with fail;exact bf (by rw[H.out];simp[results,results115,go_sem,q.c0,q.c1,q.c2,q.c3,q.c4,q.c5,q.c6,q.c7,kY,ecO,aO]) rfl ⟨rfl,R.out.2⟩)
end
theorem VU (e:List (List UInt8)) (x sep:List UInt8):Lib.join (e++[x]) sep=if e=[] then x else Lib.join e sep++(sep++x):=by
 cases e with
 | nil=>simp[Lib.join_one]
 | cons a r=>rw[ak sM,Ar,Lib.join_cons,Lib.join_cons];simp[Lib.joinTail]
def QB (l:List (Int×Int)):List UInt8:=Lib.join ((oJ l).map (·.data.toList)) [44,32]
theorem Nk (l:List (Int×Int)) (a b:Int):QB (l++[(a,b)])=if l=[] then (Jj a b).data.toList else QB l++([44,32]++(Jj a b).data.toList):=by
 unfold QB oJ;rw[TL,TL];show Lib.join (_++[(Jj a b).data.toList]) _=_;rw[VU];simp
theorem afC {l:List (Int×Int)} (h:l≠[]):QB l≠[]:=by
 obtain⟨r,⟨a,b⟩,rfl⟩:=(List.eq_nil_or_concat l).resolve_left h;rw[List.concat_eq_append,Nk];split <;> simp[Jj]
theorem adM {w W w1:World} {g i:Nat} {a b:Value} (h:W.cell? (g,i)=some a/\W.cell? (g,i+1)=some b/\Below w w W) (e:Below W W w1):w1.cell? (g,i)=some a/\w1.cell? (g,i+1)=some b/\Below w w w1:=⟨tk e h.1,tk e h.2.1,t2 h.2.2 e⟩
theorem Nl (p:Option Addr) (cap:Nat) (L:List (Int×Int)) (w:World) (R:RdE w p L) (k:∀e ∈ L,(0<=e.1/\e.1<=1)/\0<=e.2/\e.2<=1000000) (S:L.length<=1000) :
  Calls Tryz.prog 30 #[.slice p L.length cap] w fun e w'=>e=.returned (.string (if L=[] then noT else ⟨(QB L).toArray⟩))/\Below w.heap.size w w':=by
 have I:Hid (RdE w p L/\∀e ∈ L,(0<=e.1/\e.1<=1)/\0<=e.2/\e.2<=1000000):=⟨R,k⟩
 clear R k
 go_enter Tryz.func30,Tryz.ntmps30
 obtain⟨n,i⟩:∃n,n=L.length:=⟨_,rfl⟩
 rw[<- i]at S ⊢
 have u:Hid (n=L.length):=i
 clear i
 go_wp2_with fail
 go_loopw [3,4] (fun v t wr=>∃j:Nat,j<=n/\t=.int .i64 j/\v=.string ⟨(QB (L.take j)).toArray⟩/\(QB (L.take j)).length<=50 * j/\Below w.heap.size w wr) (fun _ t _=>n - (intOf t).toNat)
 case atStart=>exact⟨0,by omega,rfl,rfl,by simp[QB,oJ,Lib.join_nil],aH _ _⟩
 case round =>
  obtain⟨j,hj,rfl,rfl,y,l⟩:=hrel
  have m:Hid (Below w.heap.size w wr):=l
  clear l
  by_cases T:j < n
  ·obtain⟨⟨a,f⟩,s⟩:∃x,L[j]? = some x:=by
    have:=u.out
    exact⟨L[j]'(by omega),fD _⟩
   obtain⟨g,rfl,z,A⟩:=I.out.1 j _ s
   obtain⟨C,D⟩:=I.out.2 _ (kW s)
   have h:Hid (L.take (j+1)=L.take j++[(a,f)]):=by
    show L.take (j+1)=_
    rw[xE,s]
    rfl
   simp only at z A C D
   have s0:=tk m.out.drew z
   have s1:=tk m.out.drew A
   have J:Hid (∀W,Calls Tryz.prog 19 #[.int .i64 a] W fun e w'=>e=.returned (.string ⟨(iP a).toArray⟩)/\Below W.heap.size W w'):=fun W=>kV a (by omega) (by omega) W
   have K:Hid (∀W,Calls Tryz.prog 19 #[.int .i64 f] W fun e w'=>e=.returned (.string ⟨(iP f).toArray⟩)/\Below W.heap.size W w'):=fun W=>kV f (by omega) (by omega) W
   have M:=qR (n:=a) (by omega) (by omega)
   have N:=qR (n:=f) (by omega) (by omega)
   have o:Hid ((Jj a f).data.toList=iP a++32::iP f):=by
    show _=_
    rw[uY C.1,uY D.1]
    simp[Jj]
   have U:(0:Int)<=(j:Int):=by omega
   have i1:(j:Int) < (n:Int):=by omega
   generalize iP a=L1 at *
   generalize iP f=L2 at *
   obtain⟨B,E⟩:∃B,QB (L.take j)=B:=⟨_,rfl⟩
   rw[E]at y ⊢
   have F:Hid (∀G,G=(if j=0 then [] else B++[44,32])->QB (L.take (j+1))=G++(L1++32::L2)):=fun G e=>by
    rw[h.out,Nk,o.out,E,e]
    by_cases q:j=0
    ·subst q;rfl
    ·rw[ak q,ak (fun e=>by have O:(L.take j).length=([]:List (Int×Int)).length:=dP List.length e;have:=u.out;rw[qE,xG]at O;omega)];simp
   have V:Hid (Below wr.heap.size wr wr.drew):=qZ (aH _ _)
   clear E s z A h o C D
   have n4:¬9223372036854775807 < L1.length:=by omega
   have n5:¬9223372036854775807 < L1.length+1:=by omega
   have n6:¬9223372036854775807 < L1.length+1+L2.length:=by omega
   have m0:¬9223372036854775807 < B.length+2:=by omega
   have m1:¬9223372036854775807 < B.length+2+L1.length:=by omega
   have m2:¬9223372036854775807 < B.length+2+L1.length+1:=by omega
   have m3:¬9223372036854775807 < B.length+2+L1.length+1+L2.length:=by omega
   have H:(B=[]/\¬(0:Int) < (j:Int)/\Hid (QB (L.take (j+1))=([]:List UInt8)++(L1++32::L2)))\/(B=B/\(0:Int) < (j:Int)/\Hid (QB (L.take (j+1))=B++[44,32]++(L1++32::L2))):=by
    by_cases q:j=0
    ·exact .inl ⟨List.length_eq_zero_iff.1 (by omega),by omega,F.out _ (aj q).symm⟩
    ·exact .inr ⟨rfl,by omega,F.out _ (ak q).symm⟩
   have X:Hid (B.length<=50 * j/\L1.length<=21/\L2.length<=21):=⟨y,M,N⟩
   clear y M N
   clear F
   rcases H with⟨rfl,j0,HJ2⟩ | ⟨O,j0,HJ2⟩
   all_goals
    go_wp2_with fail
    go_region_held3 (fun w'=>w'.cell? ⟨g,j * 2,none⟩=some (.int .i64 a)/\w'.cell? ⟨g,j * 2+1,none⟩=some (.int .i64 f)/\Below wr.heap.size wr w')
     (first | assumption | exact⟨s0,s1,V.out⟩ | exact adM (by assumption) (by assumption))
     (first | (go_at_call 19;with_reducible refine(J.out _).mono ?_;rintro e P ⟨rfl,Y⟩) | (go_at_call 19;with_reducible refine(K.out _).mono ?_;rintro e P ⟨rfl,Y⟩))
    rename_i Q
    have Z:Hid (Below w.heap.size w P):=t2 m.out Q.2.2
    clear Q J K
    go_wp2_with fail
    go_roundw
    case rel =>
     refine⟨j+1,by omega,by go_num,?_,?_,Z.out⟩
     ·rw[HJ2.out]
      refine dP Value.string ?_
      apply jB
      simp[ByteArray.data_append]
     ·rw[HJ2.out]
      have:=X.out
      simp
      omega
    case measure=>simp[intOf];omega
  ·obtain rfl:j=n:=by omega
   have h:Hid (L.take j=L):=by show L.take j=_;rw[u.out];exact xH
   rw[h.out]
   by_cases k:L=[]
   ·subst k
    have e0:QB []=[]:=rfl
    rw[e0]
    go_wp2_with fail
    go_ret
    exact⟨rfl,m.out⟩
   ·have Zg:(QB L).isEmpty=false:=by simpa using afC k
    go_wp2_with fail
    go_ret
    exact⟨by first | rfl | rw[ak k],m.out⟩
end Go.Proofs.YtnogmjekhjldcaaGreatDoor
