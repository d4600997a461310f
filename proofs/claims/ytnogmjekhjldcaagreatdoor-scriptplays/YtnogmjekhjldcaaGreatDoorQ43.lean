/-
  What the claimed theorem reaches, part Q43.
-/
import Derived.OpenShut
import Derived.Lib.SmallJoins
import Derived.Deep.Slices
import Derived.Test.YtnogmjekhjldcaaGreatDoorQ39
import Derived.ChangeMaps5
namespace Go.Proofs.YtnogmjekhjldcaaGreatDoor
open Go.ChangeShapes Go.WideShapes Go.ChangeAt Go.RowKit Go.Proofs.Tryz
set_option maxRecDepth 100000
set_option maxHeartbeats 8000000
theorem Tryz.aed : prog.cellsOf 35=6:=by kernel_rfl
theorem Tryz.abL : prog.cellsOf 33=2:=by kernel_rfl
theorem Tryz.Jy : prog.cellsOf 3=1:=by kernel_rfl
theorem Tryz.Tq : prog.cellsOf 50=5:=by kernel_rfl
theorem Tryz.cellsB : prog.cellsOf 4=1:=by kernel_rfl
theorem abM {H:Type} {enc:TypeId×Value->H} {W:World} {b0:Nat} {f:Nat->Bool} {a:Bool} {fuel:Nat} {cs:List Value} {x:DataW H×List MemPlace}
  (h:DataW.trod enc prog W b0 f a fuel 50 cs=some x):∃r:Rl,cs=rlC r:=by
 obtain⟨i,n,_,_,e,j,k⟩:=DataW.trod_struct Tryz.underlying50 h;rw[Tryz.Tq]at e;have j:i.length=5:=j;match cs,e with
 | [c0,c1,c2,c3,c4],_ =>
  have l:DataW.trod enc prog W b0 f a n 4 (([c0,c1,c2,c3,c4].drop 0).take (prog.cellsOf 4))=i[0]? := k 0 _ rfl;have m:DataW.trod enc prog W b0 f a n 4 (([c0,c1,c2,c3,c4].drop 1).take (prog.cellsOf 4))=i[1]? := k 1 _ rfl;have o:DataW.trod enc prog W b0 f a n 3 (([c0,c1,c2,c3,c4].drop 2).take (prog.cellsOf 3))=i[2]? := k 2 _ rfl;have p:DataW.trod enc prog W b0 f a n 3 (([c0,c1,c2,c3,c4].drop 3).take (prog.cellsOf 3))=i[3]? := k 3 _ rfl;have q:DataW.trod enc prog W b0 f a n 3 (([c0,c1,c2,c3,c4].drop 4).take (prog.cellsOf 3))=i[4]? := k 4 _ rfl;rw[Tryz.cellsB]at l m;rw[Tryz.Jy]at o p q;rw[fD om]at l m o p q;obtain⟨A,s,_⟩:=DataW.trod_bool Tryz.underlying4 l;obtain⟨B,u,_⟩:=DataW.trod_bool Tryz.underlying4 m;obtain⟨C,w,_⟩:=Fh Tryz.underlying3 o;obtain⟨D,y,_⟩:=Fh Tryz.underlying3 p;obtain⟨E,z,_⟩:=Fh Tryz.underlying3 q;simp at s u w y z;subst s u w y z;exact⟨⟨A,B,C,D,E⟩,rfl⟩
theorem mapM_at {α β:Type} {f:α->Option β}:∀{l:List α} {r:List β},l.mapM f=some r->∀(i:Nat) x,l[i]? = some x->f x=r[i]?
 | [],r,h,i,x,hx=>by simp at hx
 | a::l,r,h,i,x,hx=>by
  rw[List.mapM_cons]at h;obtain⟨y,j,h⟩:=Option.bind_eq_some_iff.1 h;obtain⟨k,e,h⟩:=Option.bind_eq_some_iff.1 h;obtain rfl:=sS h
  cases i with
  | zero=>simp at hx;subst hx;simpa using j
  | succ i=>simp at hx;simpa using mapM_at e i x hx
theorem QZ {H:Type} {enc:TypeId×Value->H} {W:World} {b0:Nat} {v:Value} {d:DataW H} {p:List MemPlace} {J:Nat->Bool}
  (K:Value.okWide prog W .any b0 22 v) (h:DataW.Trod enc prog W 0 J true 22 v d p):∃l,Sl W v l:=by
 obtain⟨B,f,s,rfl⟩:=okWide_slice Tryz.underlying22 K;obtain⟨fuel,L⟩:=h;rcases Go.Deep.open_slice Tryz.underlying22 L with⟨x,_⟩ | ⟨a,len,cap,m,n,D,Pl,w,_,hlc,hmx,hm,_,hx⟩
 ·have x:[Value.slice B f s]=[.slice none 0 0]:=x;exact⟨[],.inl ⟨by simpa using x,rfl⟩⟩
 ·have w:[Value.slice B f s]=[.slice (some a) len cap]:=w;have w:Value.slice B f s=.slice (some a) len cap:=by simpa using w
  rw[w];have M:len<=m:=by rw[hm];split <;> omega
  obtain⟨R,N⟩:=Go.Deep.choose_lt (α:=Rl) (n:=len) (p:=fun i r=>W.cells? 0 (a.add (i * 5)) 5=some (rlC r)) (fun i T=>by
   obtain⟨O,y,P⟩:=hx i om;rw[Tryz.Tq]at y;obtain⟨r,rfl⟩:=abM P;exact⟨r,y⟩)
  refine⟨(List.range len).map R,.inr ⟨a,cap,by simp,by simpa using hlc,hmx,fun i r hr=>?_⟩⟩;rw[kK]at hr;obtain⟨U,C,rfl⟩:=Option.map_eq_some_iff.1 hr;obtain⟨z,e⟩:=List.getElem?_eq_some_iff.1 C;simp at z e;subst e;have A:∀j k u,j < len->k < 5->(rlC (R j))[k]? = some u->W.cell? ((a.add (j * 5)).add k)=some u:=fun j k u Q E F=>by
   have y:=N j Q;unfold World.cells? at y;rw[aj (jY _)]at y;have:=mapM_at y k k (by rw[yN E]);rw[this];exact F
  have G:a.spot=none:=by
   have x:=A 0 0 _ om om rfl;have e:(a.add (0 * 5)).add 0=a:=rfl;rw[e]at x;unfold World.cell? at x;split at x
   ·cases S:a.spot with
    | none=>rfl
    | some q=>simp[S]at x
   ·cases x
  obtain⟨b,o,I⟩:=a;obtain rfl:I=none:=G;refine⟨b,o,rfl,?_⟩;have k2:∀k u,k < 5->(rlC (R i))[k]? = some u->W.cell? ⟨b,o+i * 5+k,none⟩=some u:=fun k u E F=>by
   have:=A i k u z E F;rw[addr_add,addr_add]at this;exact this
  exact⟨k2 0 _ om rfl,k2 1 _ om rfl,k2 2 _ om rfl,k2 3 _ om rfl,k2 4 _ om rfl⟩
section
variable {H:Type} {W:World} {sp:Nat->Bool} {held:Bool} {fuel:Nat}
theorem Tryz.Tt : prog.cellsOf 37=8:=by kernel_rfl
theorem Tryz.abN : prog.cellsOf 9=1:=by kernel_rfl
theorem Tryz.aee : prog.cellsOf 31=1:=by kernel_rfl
instance:Inhabited Lm:=⟨⟨⟨#[]⟩,[],⟨0,0,0,0,0,0⟩,none,0⟩⟩
theorem xw {n:Int} (k:(Lit.int .i64 n).wf=true):iR n:=by
 simp only[Lit.wf,JG,WZ]at k;have a:IntKind.i64.min = -9223372036854775808:=by decide
 have e:IntKind.i64.max=9223372036854775807:=by decide
 unfold iR;omega
theorem abO {enc:TypeId×Value->H} {c0 c1 c2 c3 c4 c5:Value} {x:DataW H×List MemPlace} 
  (y:DataW.trod enc prog W 0 sp held fuel 35 [c0,c1,c2,c3,c4,c5]=some x):∃p:Pk,P6 p/\c0=.int .i64 p.pr/\c1=.int .i64 p.a1/\c2=.int .i64 p.p1/\c3=.int .i64 p.a2/\c4=.int .i64 p.p2/\c5=.int .i64 p.fl:=by
 obtain⟨N,O,P,Q,n,R,_,a,e,f,h⟩:=Joins.trod_struct4 Tryz.underlying35 y;simp only[Tryz.Jy,Tryz.abL]at a e f h;obtain⟨z,i,_,A⟩:=Fh Tryz.underlying3 a;obtain⟨B,j,_,k3⟩:=Fh Tryz.underlying3 h;obtain⟨S,T,U,C,_,k,l⟩:=trod_struct2 Tryz.underlying33 e;obtain⟨V,X,Y,D,_,m,o⟩:=trod_struct2 Tryz.underlying33 f;simp only[Tryz.Jy]at k l m o;obtain⟨E,q,_,F⟩:=Fh Tryz.underlying3 k;obtain⟨G,s,_,I⟩:=Fh Tryz.underlying3 l;obtain⟨J,u,_,K⟩:=Fh Tryz.underlying3 m;obtain⟨L,w,_,M⟩:=Fh Tryz.underlying3 o;simp at i j q s u w;exact⟨⟨z,E,G,J,L,B⟩,⟨xw A,xw F,xw I,xw K,xw M,xw k3⟩,i,q,s,u,w,j⟩
theorem agZ {enc:TypeId×Value->H} {v:Value} {x:DataW H×List MemPlace} 
  (E:DataW.trod enc prog W 0 sp held fuel 31 [v]=some x):∃ns z c,v=.slice z (List.length ns) c/\NsI W z ns:=by
 rcases Go.Deep.open_slice Tryz.underlying31 E with⟨h,_⟩ | ⟨a,len,cap,m,n,D,Pl,l,_,hlc,hmx,hm,_,hx⟩
 ·exact⟨[],none,0,by simpa using h,fun j n F=>by simp at F⟩
 ·have l:v=.slice (some a) len cap:=by simpa using l
  rw[l];have G:len<=m:=by rw[hm];split <;> omega
  obtain⟨R,C⟩:=Go.Deep.choose_lt (α:=Int) (n:=len) (p:=fun i x=>W.cell? (a.add i)=some (.int .i64 x)/\iR x) (fun i L=>by
   obtain⟨I,f,J⟩:=hx i om;rw[Tryz.Jy]at f;obtain⟨y,e,_,k⟩:=Fh Tryz.underlying3 J;refine⟨y,?_,xw k⟩;unfold World.cells? at f;rw[aj (jY _)]at f;have u:=mapM_at f 0 0 rfl;rw[e]at u;rw[Ot]at u;exact u)
  refine⟨(List.range len).map R,some a,cap,by simp,fun i r hr=>?_⟩;rw[kK]at hr;obtain⟨M,w,rfl⟩:=Option.map_eq_some_iff.1 hr;obtain⟨s,e⟩:=List.getElem?_eq_some_iff.1 w;simp at s e;subst e;have A:a.spot=none:=by
   have h:=(C 0 om).1;have e:a.add 0=a:=rfl;rw[e]at h;unfold World.cell? at h;split at h
   ·cases K:a.spot with
    | none=>rfl
    | some q=>simp[K]at h
   ·cases h
  obtain⟨b,o,B⟩:=a;obtain rfl:B=none:=A;have f:=C i s;rw[zU]at f;exact⟨f.2,b,o,rfl,f.1⟩
theorem abP {enc:TypeId×Value->H} {cs:List Value} {x:DataW H×List MemPlace} 
  (h:DataW.trod enc prog W 0 sp held fuel 37 cs=some x):∃a:Lm,cs=lmC a/\NP W a:=by
 obtain⟨i,n,_,_,e,f,j⟩:=DataW.trod_struct Tryz.underlying37 h;rw[Tryz.Tt]at e;have f:i.length=3:=f;match cs,e with
 | [c0,c1,c2,c3,c4,c5,c6,c7],_ =>
  have k:DataW.trod enc prog W 0 sp held n 9 (([c0,c1,c2,c3,c4,c5,c6,c7].drop 0).take (prog.cellsOf 9))=i[0]? := j 0 _ rfl;have l:DataW.trod enc prog W 0 sp held n 31 (([c0,c1,c2,c3,c4,c5,c6,c7].drop 1).take (prog.cellsOf 31))=i[1]? := j 1 _ rfl;have m:DataW.trod enc prog W 0 sp held n 35 (([c0,c1,c2,c3,c4,c5,c6,c7].drop 2).take (prog.cellsOf 35))=i[2]? := j 2 _ rfl;rw[Tryz.abN]at k;rw[Tryz.aee]at l;rw[Tryz.aed]at m;rw[fD om]at k l m;obtain⟨s,q,_⟩:=DataW.trod_string Tryz.underlying9 k;obtain⟨u,z,c,w,o⟩:=agZ (v:=c1) (by simpa using l);obtain⟨p,y,A,B,C,D,E,F⟩:=abO (c0:=c2) (c1:=c3) (c2:=c4) (c3:=c5) (c4:=c6) (c5:=c7) (by simpa using m);simp at q;subst q w A B C D E F;exact⟨⟨s,u,p,z,c⟩,rfl,o,y⟩
theorem Q7 {enc:TypeId×Value->H} {b0:Nat} {v:Value} {d:DataW H} {p:List MemPlace} 
  (M:Value.okWide prog W .any b0 23 v) (h:DataW.Trod enc prog W 0 sp true 23 v d p):∃l,agS W v l:=by
 obtain⟨E,f,s,rfl⟩:=okWide_slice Tryz.underlying23 M;obtain⟨fuel,N⟩:=h;rcases Go.Deep.open_slice Tryz.underlying23 N with⟨w,_⟩ | ⟨a,len,cap,m,n,D,Pl,y,_,hlc,hmx,hm,_,F⟩
 ·have w:[Value.slice E f s]=[.slice none 0 0]:=w;have w:Value.slice E f s=.slice none 0 0:=by simpa using w
  exact⟨[],none,0,w,jY _,fun j x F=>by simp at F⟩
 ·have y:[Value.slice E f s]=[.slice (some a) len cap]:=y;have y:Value.slice E f s=.slice (some a) len cap:=by simpa using y
  rw[y];have O:len<=m:=by rw[hm];split <;> omega
  obtain⟨R,L⟩:=Go.Deep.choose_lt (α:=Lm) (n:=len) (p:=fun i r=>W.cells? 0 (a.add (i * 8)) 8=some (lmC r)/\NP W r) (fun i U=>by
   obtain⟨P,A,Q⟩:=F i om;rw[Tryz.Tt]at A;obtain⟨r,rfl,ok⟩:=abP Q;exact⟨r,A,ok⟩)
  refine⟨(List.range len).map R,some a,cap,by simp,by rw[vC,List.length_range];exact dL hlc hmx,fun i r hr=>?_⟩;rw[kK]at hr;obtain⟨V,G,rfl⟩:=Option.map_eq_some_iff.1 hr;obtain⟨z,e⟩:=List.getElem?_eq_some_iff.1 G;simp at z e;subst e;have B:∀j k u,j < len->k < 8->(lmC (R j))[k]? = some u->W.cell? ((a.add (j * 8)).add k)=some u:=fun j k u S I C=>by
   have A:=(L j S).1;unfold World.cells? at A;rw[aj (jY _)]at A;have:=mapM_at A k k (by rw[yN I]);rw[this];exact C
  have J:a.spot=none:=by
   have w:=B 0 0 _ om om rfl;have e:(a.add (0 * 8)).add 0=a:=rfl;rw[e]at w;unfold World.cell? at w;split at w
   ·cases T:a.spot with
    | none=>rfl
    | some q=>simp[T]at w
   ·cases w
  obtain⟨b,o,K⟩:=a;obtain rfl:K=none:=J;refine⟨(L i z).2,b,o,rfl,fun k u C=>?_⟩;have I:k < 8:=by
   rcases dX k 8 with q | q
   ·exact q
   ·rw[WU (by simpa [lmC] using q)]at C;cases C
  have:=B i k u z I C;rw[zU,zU]at this;exact this
end
end Go.Proofs.YtnogmjekhjldcaaGreatDoor
