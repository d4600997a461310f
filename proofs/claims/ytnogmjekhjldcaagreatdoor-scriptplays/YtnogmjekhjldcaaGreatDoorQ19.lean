/-
  What the claimed theorem reaches, part Q19.
-/
import Derived.Laws.MakeOwn
import Derived.Test.YtnogmjekhjldcaaGreatDoorQ13
namespace Go.Proofs.YtnogmjekhjldcaaGreatDoor
open Go.RowKit Go.Proofs.Tryz
set_option maxRecDepth 100000
set_option maxHeartbeats 8000000
theorem empty_any (w:World) :
  Calls prog 38 #[] w fun e w'=>(∃g cap,e=.returned (.slice (some ⟨g,0,none⟩) 32 cap)/\w.heap.size<=g/\jl w' g newT)/\Below w w w':=by
 obtain⟨D,p,s,x,y⟩:=lu Tryz.tu;go_enter func38,ntmps38;go_wp2_with fail;go_loopw [1,2] (fun v t wr=>∃j:Nat,j<=32/\t=.int .i64 j/\wr.ownsRow w 117 10 v j (emC j)/\Below w w wr) (fun _ t _=>32 - (intOf t).toNat)
 case atStart=>exact⟨0,by omega,rfl,ql _ _ _ _,aH _ _⟩
 case round =>
  obtain⟨j,K,rfl,a,f⟩:=hrel;have z:Hid (wr.ownsRow w 117 10 u1 j (emC j)):=a;have h:Hid (Below w w wr):=f;clear a f;by_cases E:j < 32
  ·have A:Hid (∀q u,([j,.int .i64 0,.int .i64 0,.int .i64 0,.int .i64 0,.int .i64 0,.int .i64 0,.int .i64 0,.int .i64 0,.int .i64 0]:List Value)[q]? = some u->(wr.alloc (.cells #[j,.int .i64 0,.int .i64 0,.int .i64 0,.int .i64 0,.int .i64 0,.int .i64 0,.int .i64 0,.int .i64 0,.int .i64 0] 117)).cell? (Addr.add (wr.heap.size,0) q)=some u):=fun q u o=>by
    rw[qo,fE,nw];simpa using o
   have B:Hid (∀u ∈ ([j,.int .i64 0,.int .i64 0,.int .i64 0,.int .i64 0,.int .i64 0,.int .i64 0,.int .i64 0,.int .i64 0,.int .i64 0]:List Value),u.oneCell'=true):=fun u o=>by
    simp only[dI,eY,fA]at o;rcases o with rfl | rfl | rfl | rfl | rfl | rfl | rfl | rfl | rfl | rfl <;> rfl
   go_wp2_with (at_builtin;refine vw _ rfl _ _ 84 rfl w 117 D _ 10 80 Tryz.underlying84 p s x y rfl dC u1 j (emC j) rfl (z.alloc _) ⟨wr.heap.size,0,none⟩ 1 1 _ rfl rfl A B (by unfold maxLen;omega) om (by have:=h.size;simp;omega) ?_)
   intro v5 C l m _;have F:Hid (C.ownsRow w 117 10 v5 (j+1) (emC (j+1))):=l;have G:Hid (Below w w C):=(h.alloc h.size _).grown m (by have:=h.size;simp;omega) (fun q H=>(z.lt _ H).1);clear l m A B;go_wp2_with fail;go_roundw
   case rel=>exact⟨j+1,by omega,by go_num,F,G⟩
   case measure=>simp[intOf];omega
  ·obtain rfl:j=32:=by omega
   go_wp2_with fail;go_ret;refine⟨?_,h⟩;obtain⟨_,I⟩:=z.out;rcases I with⟨_,h0⟩ | ⟨g,cap,cur,rfl,hg,hh,_,_,_,ht⟩
   ·cases h0
   ·refine⟨g,cap,rfl,hg,cur,_,hh,fun i k p J=>?_⟩;have:=XJ 32 i k p J;rw[<- ht,kG,aj om,sQ]at this;exact this
structure RTab (w:World) (m g cap:Nat) (low:Int) (T:Tb):Prop where
 c0:w.cell? (m,0)=low
 c1:w.cell? (m,1)=some (.slice (some (g,0)) 32 cap)
 sl:jl w g T
 ne:m≠g
theorem RTab.below {w w':World} {m g cap:Nat} {low:Int} {T:Tb} (h:RTab w m g cap low T) (a:Below w w w'):RTab w' m g cap low T:=⟨tk a h.c0,tk a h.c1,h.sl.below a,h.ne⟩
theorem RTab.dO {w w':World} {m g cap b:Nat} {low:Int} {T:Tb} (h:RTab w m g cap low T) (a:aC b w w') (e:m≠b) (f:g≠b):RTab w' m g cap low T:=⟨a.keeps e h.c0,a.keeps e h.c1,h.sl.dO a f,h.ne⟩
theorem Zd (a:Nat) (w:World) (s:a < 2) :
  Calls prog 37 #[a] w fun e w'=>(∃m g cap,e=.returned (.pointer (some ⟨m,0,none⟩))/\w.heap.size<=m/\w.heap.size<=g/\RTab w' m g cap (2000+a * 24) newT)/\Below w w w':=by
 have o:IntKind.i64.wrap ((a:Int) * 24)=(a:Int) * 24:=by rw[iI];omega
 have p:IntKind.i64.wrap (2000+(a:Int) * 24)=2000+(a:Int) * 24:=by rw[iI];omega
 go_enter func37,ntmps37;go_wp2_with fail;refine(empty_any _).mono ?_;rintro e h ⟨⟨g,cap,rfl,i,j⟩,f⟩;have q:Hid (w.heap.size<=g):=i;have k:Hid (jl h g newT):=j;have l:Hid (Below w w h):=f;clear i j f;go_wp2_with fail;go_ret;refine⟨⟨h.heap.size,g,cap,rfl,l.size,q,?_⟩,t2 l (aB _ _)⟩;exact⟨(nw _ _ _ _).trans rfl,(nw _ _ _ _).trans rfl,k.below (aB _ _),fun e=>by have:=k.lt;omega⟩
theorem Ze {w:World} {g:Nat} {T:Tb} (h:jl w g T) (k:Nat) (c:Ce) (a:k < 32):jl ((((((((((w.setCell (g,k * 10) (.int .i64 (k:Int))).setCell (g,k * 10+1) (.int .i64 ((T k).ve+1))).setCell (g,k * 10+2) c.pr).setCell (g,k * 10+3) c.ia).setCell (g,k * 10+4) c.ip).setCell (g,k * 10+5) c.fa).setCell (g,k * 10+6) c.fp).setCell (g,k * 10+7) c.po).setCell (g,k * 10+8) c.st).setCell (g,k * 10+9) c.un) g (wJ T k c.pr c.ia c.ip c.fa c.fp c.po c.st c.un):=by
 have h:=h.slot a;have h:=h.put (i:=k) (k:=1) ((T k).ve+1) a om om;have h:=h.put (i:=k) (k:=2) c.pr a om om;have h:=h.put (i:=k) (k:=3) c.ia a om om;have h:=h.put (i:=k) (k:=4) c.ip a om om;have h:=h.put (i:=k) (k:=5) c.fa a om om;have h:=h.put (i:=k) (k:=6) c.fp a om om;have h:=h.put (i:=k) (k:=7) c.po a om om;have h:=h.put (i:=k) (k:=8) c.st a om om;have h:=h.put (i:=k) (k:=9) c.un a om om;simp only[upd_same,xM]at h;exact h
theorem U7 (w:World) (T:Tb) (g k:Nat) (c:Ce):aC g w ((((((((((w.setCell (g,k * 10) (.int .i64 (k:Int))).setCell (g,k * 10+1) (.int .i64 ((T k).ve+1))).setCell (g,k * 10+2) c.pr).setCell (g,k * 10+3) c.ia).setCell (g,k * 10+4) c.ip).setCell (g,k * 10+5) c.fa).setCell (g,k * 10+6) c.fp).setCell (g,k * 10+7) c.po).setCell (g,k * 10+8) c.st).setCell (g,k * 10+9) c.un) :=
 (((((((((aC.set g _ w _).trans (aC.set g _ _ _)).trans (aC.set g _ _ _)).trans (aC.set g _ _ _)).trans (aC.set g _ _ _)).trans (aC.set g _ _ _)).trans (aC.set g _ _ _)).trans (aC.set g _ _ _)).trans (aC.set g _ _ _)).trans (aC.set g _ _ _)
theorem wV (m g cap:Nat) (low:Int) (T:Tb) (k:Nat) (c:Ce) (w:World) (t:RTab w m g cap low T) (f:k < 32) (o:0<=(T k).ve) (p:(T k).ve<=1000000000) :
  Calls prog 170 #[.pointer (some (m,0)),k,bI c] w fun e w'=>e=.returned (.tuple #[])/\RTab w' m g cap low (wJ T k c.pr c.ia c.ip c.fa c.fp c.po c.st c.un)/\aC g w w':=by
 have q:(0:Int)<=(k:Int):=by omega
 have s:(k:Int) < 32:=by omega
 have l:bI c=.agg #[c.pr,c.ia,c.ip,c.fa,c.fp,c.po,c.st,c.un]:=rfl;have H:IntKind.i64.wrap ((T k).ve+1)=(T k).ve+1:=by rw[iI];omega
 rw[l];have u:Hid (Below w w (w.alloc (.cells #[c.pr,c.ia,c.ip,c.fa,c.fp,c.po,c.st,c.un] 115))):=aB _ _;have h:Hid (FlB (w.alloc (.cells #[c.pr,c.ia,c.ip,c.fa,c.fp,c.po,c.st,c.un] 115)) w c):=xP w c;have a:Hid (RTab (w.alloc (.cells #[c.pr,c.ia,c.ip,c.fa,c.fp,c.po,c.st,c.un] 115)) m g cap low T):=t.below (aB _ _);have I:Hid (g < w.heap.size):=t.sl.lt;clear t l;go_enter func170,ntmps170;go_wp2_with fail;generalize w.alloc (.cells #[c.pr,c.ia,c.ip,c.fa,c.fp,c.po,c.st,c.un] 115)=w0 at *;generalize J:w.heap.size=Z at h ⊢;have K:=a.c1;have L:=h.c0;have M:=h.c1;have N:=h.c2;have O:=h.c3;have P:=h.c4;have Q:=h.c5;have R:=h.c6;have S:=h.c7;have x:=a.sl.at' (i:=k) (k:=0) f om;have y:=a.sl.at' (i:=k) (k:=1) f om;have z:=a.sl.at' (i:=k) (k:=2) f om;have A:=a.sl.at' (i:=k) (k:=3) f om;have B:=a.sl.at' (i:=k) (k:=4) f om;have C:=a.sl.at' (i:=k) (k:=5) f om;have D:=a.sl.at' (i:=k) (k:=6) f om;have E:=a.sl.at' (i:=k) (k:=7) f om;have F:=a.sl.at' (i:=k) (k:=8) f om;have G:=a.sl.at' (i:=k) (k:=9) f om;simp only[Ce.get,oV]at x y z A B C D E F G;have U:=a.sl.fr;go_region;go_end0
 have j:=(U7 w0 T g k c).then bD;refine⟨rfl,⟨j.keeps (by exact a.ne) a.c0,j.keeps (by exact a.ne) a.c1,(Ze a.sl k c f).below bD,a.ne⟩,(aC.of u.out).trans j⟩
def jK:Option Nat->Int
 | some k=>k
 | none => -1
structure FaB (w:World) (Z:Nat) (fa fp:Int):Prop where
 c0:w.cell? (Z,0)=fa
 c1:w.cell? (Z,1)=fp
theorem FaB.below {w w':World} {Z:Nat} {a fp:Int} (h:FaB w Z a fp) (e:Below w w w'):FaB w' Z a fp:=⟨tk e h.c0,tk e h.c1⟩
theorem zn (m g cap:Nat) (low:Int) (T:Tb) (pr ia ip fa fp:Int) (w:World) (t:RTab w m g cap low T) :
  Calls prog 66 #[.pointer (some (m,0)),pr,.agg #[ia,ip],.agg #[fa,fp]] w fun e w'=>e=.returned (.int .i64 (jK (fst T (iQ pr ia ip fa fp))))/\Below w w w':=by
 have z:Hid (Below w w ((w.alloc (.cells #[ia,ip] 33)).alloc (.cells #[fa,fp] 33))):=t2 (aB _ _) (aB _ _);have A:Hid (EnB ((w.alloc (.cells #[ia,ip] 33)).alloc (.cells #[fa,fp] 33)) w ia ip fa fp):=IK w ia ip fa fp;have J:Hid (RTab ((w.alloc (.cells #[ia,ip] 33)).alloc (.cells #[fa,fp] 33)) m g cap low T):=t.below (t2 (aB _ _) (aB _ _));clear t;go_enter func66,ntmps66;go_wp2_with fail;generalize (w.alloc (.cells #[ia,ip] 33)).alloc (.cells #[fa,fp] 33)=w0 at *;generalize S:w.heap.size=Z at A ⊢;go_loopw [9] (fun t wr=>∃j:Nat,j<=32/\t=.int .i64 j/\(∀i,i < j->iQ pr ia ip fa fp (T i)=false)/\Below w0 w0 wr) (fun t _=>32 - (intOf t).toNat)
 case atStart=>exact⟨0,by omega,rfl,fun i K=>by omega,aH _ _⟩
 case round =>
  obtain⟨j,U,rfl,q,f⟩:=hrel;have x:Hid (∀i,i < j->iQ pr ia ip fa fp (T i)=false):=q;have L:Hid (Below w0 w0 wr):=f;have h:=J.below f;have V:=h.c1;by_cases a:j < 32
  ·obtain⟨c,y⟩:∃c,c=T j:=⟨_,rfl⟩;have s:Hid (c=T j):=y;have B:=h.sl.at' (i:=j) (k:=2) a om;have C:=h.sl.at' (i:=j) (k:=3) a om;have D:=h.sl.at' (i:=j) (k:=4) a om;have E:=h.sl.at' (i:=j) (k:=5) a om;have F:=h.sl.at' (i:=j) (k:=6) a om;have G:=h.sl.at' (i:=j) (k:=7) a om;have H:=h.sl.at' (i:=j) (k:=8) a om;have I:=h.sl.at' (i:=j) (k:=9) a om;rw[<- y]at B C D E F G H I;simp only[Ce.get]at B C D E F G H I;have E1:=A.below f;have M:=E1.c0;have W:=E1.c1;have N:=E1.c2;have X:=E1.c3;have Y:Z < wr.heap.size:=eF M;have l1:Z+1 < wr.heap.size:=eF N;have u:Hid (∀o:Obj,Below w0 w0 (wr.alloc o)):=fun o=>t2 f (aB _ _);clear q f y h E1;have i0:(0:Int)<=(j:Int):=by omega
   have i1:(j:Int) < 32:=by omega
   have O:∀w:World,(binOp .eql 33 (.agg #[c.ia,c.ip]) (.agg #[ia,ip])).run prog w=.ok (.bool (c.ia==ia && c.ip==ip)) w:=uH _ _ _ _;have P:∀w:World,(binOp .eql 33 (.agg #[c.fa,c.fp]) (.agg #[fa,fp])).run prog w=.ok (.bool (c.fa==fa && c.fp==fp)) w:=uH _ _ _ _;have l:Hid (iQ pr ia ip fa fp c=((c.pr != 0) && ((c.pr==pr) && ((c.ia==ia && c.ip==ip) && (c.fa==fa && c.fp==fp))))):=rfl;generalize (c.ia==ia && c.ip==ip)=b3 at O l;generalize (c.fa==fa && c.fp==fp)=b4 at P l;have p:Hid (iQ pr ia ip fa fp c=false->∀i,i < j+1->iQ pr ia ip fa fp (T i)=false):=fun Q i K=>by
    by_cases e:i=j
    ·rw[e,<- s.out];exact Q
    ·exact x i om
   rcases h1:(c.pr != 0) with _ | _
   ·rw[h1]at l;go_wp2_with fail;go_roundw
    case rel=>exact⟨j+1,by omega,by go_num,p (by rw[l.out];rfl),u _⟩
    case measure=>simp[intOf];omega
   rcases h2:(c.pr==pr) with _ | _
   ·rw[h1,h2]at l;go_wp2_with fail;go_roundw
    case rel=>exact⟨j+1,by omega,by go_num,p (by rw[l.out];rfl),u _⟩
    case measure=>simp[intOf];omega
   rw[h1,h2]at l
   cases b3
   ·go_wp2_with fail;go_roundw
    case rel=>exact⟨j+1,by omega,by go_num,p (by rw[l.out];rfl),u _⟩
    case measure=>simp[intOf];omega
   cases b4
   ·go_wp2_with fail;go_roundw
    case rel=>exact⟨j+1,by omega,by go_num,p (by rw[l.out];rfl),u _⟩
    case measure=>simp[intOf];omega
   ·have R:Hid (fst T (iQ pr ia ip fa fp)=some j):=lG.2 ⟨a,by rw[<- s.out,l.out];rfl,x⟩;go_wp2_with fail;go_ret;refine⟨by rw[R.out];rfl,t2 z (u _)⟩
  ·obtain rfl:j=32:=by omega
   clear q f h;go_wp2_with fail;go_ret;refine⟨?_,t2 z L⟩;rw[qJ.2 x.out];rfl
theorem zo (m g cap:Nat) (low:Int) (T:Tb) (pr po fa fp:Int) (w:World) (t:RTab w m g cap low T) :
  Calls prog 72 #[.pointer (some (m,0)),pr,po,.agg #[fa,fp]] w fun e w'=>e=.returned (.int .i64 (jK (fst T (eH pr po fa fp))))/\Below w w w':=by
 have z:Hid (Below w w (w.alloc (.cells #[fa,fp] 33))):=aB _ _;have A:Hid (FaB (w.alloc (.cells #[fa,fp] 33)) w fa fp):=⟨(nw _ _ _ _).trans rfl,(nw _ _ _ _).trans rfl⟩;have J:Hid (RTab (w.alloc (.cells #[fa,fp] 33)) m g cap low T):=t.below (aB _ _);clear t;go_enter func72,ntmps72;go_wp2_with fail;generalize w.alloc (.cells #[fa,fp] 33)=w0 at *;generalize Q:w.heap.size=Z at A ⊢;go_loopw [9] (fun t wr=>∃j:Nat,j<=32/\t=.int .i64 j/\(∀i,i < j->eH pr po fa fp (T i)=false)/\Below w0 w0 wr) (fun t _=>32 - (intOf t).toNat)
 case atStart=>exact⟨0,by omega,rfl,fun i K=>by omega,aH _ _⟩
 case round =>
  obtain⟨j,R,rfl,q,f⟩:=hrel;have x:Hid (∀i,i < j->eH pr po fa fp (T i)=false):=q;have L:Hid (Below w0 w0 wr):=f;have h:=J.below f;have S:=h.c1;by_cases a:j < 32
  ·obtain⟨c,y⟩:∃c,c=T j:=⟨_,rfl⟩;have s:Hid (c=T j):=y;have B:=h.sl.at' (i:=j) (k:=2) a om;have C:=h.sl.at' (i:=j) (k:=3) a om;have D:=h.sl.at' (i:=j) (k:=4) a om;have E:=h.sl.at' (i:=j) (k:=5) a om;have F:=h.sl.at' (i:=j) (k:=6) a om;have G:=h.sl.at' (i:=j) (k:=7) a om;have H:=h.sl.at' (i:=j) (k:=8) a om;have I:=h.sl.at' (i:=j) (k:=9) a om;rw[<- y]at B C D E F G H I;simp only[Ce.get]at B C D E F G H I;have E1:=A.below f;have M:=E1.c0;have U:=E1.c1;have V:Z < wr.heap.size:=eF M;have u:Hid (∀o:Obj,Below w0 w0 (wr.alloc o)):=fun o=>t2 f (aB _ _);clear q f y h E1;have W:(0:Int)<=(j:Int):=by omega
   have X:(j:Int) < 32:=by omega
   have N:∀w:World,(binOp .eql 33 (.agg #[c.fa,c.fp]) (.agg #[fa,fp])).run prog w=.ok (.bool (c.fa==fa && c.fp==fp)) w:=uH _ _ _ _;have l:Hid (eH pr po fa fp c=((c.pr != 0) && ((c.pr==pr) && ((c.po==po) && (c.fa==fa && c.fp==fp))))):=rfl;generalize (c.fa==fa && c.fp==fp)=b4 at N l;have p:Hid (eH pr po fa fp c=false->∀i,i < j+1->eH pr po fa fp (T i)=false):=fun O i K=>by
    by_cases e:i=j
    ·rw[e,<- s.out];exact O
    ·exact x i om
   rcases h1:(c.pr != 0) with _ | _
   ·rw[h1]at l;go_wp2_with fail;go_roundw
    case rel=>exact⟨j+1,by omega,by go_num,p (by rw[l.out];rfl),u _⟩
    case measure=>simp[intOf];omega
   rcases h2:(c.pr==pr) with _ | _
   ·rw[h1,h2]at l;go_wp2_with fail;go_roundw
    case rel=>exact⟨j+1,by omega,by go_num,p (by rw[l.out];rfl),u _⟩
    case measure=>simp[intOf];omega
   rcases h3:(c.po==po) with _ | _
   ·rw[h1,h2,h3]at l;go_wp2_with fail;go_roundw
    case rel=>exact⟨j+1,by omega,by go_num,p (by rw[l.out];rfl),u _⟩
    case measure=>simp[intOf];omega
   rw[h1,h2,h3]at l
   cases b4
   ·go_wp2_with fail;go_roundw
    case rel=>exact⟨j+1,by omega,by go_num,p (by rw[l.out];rfl),u _⟩
    case measure=>simp[intOf];omega
   ·have P:Hid (fst T (eH pr po fa fp)=some j):=lG.2 ⟨a,by rw[<- s.out,l.out];rfl,x⟩;go_wp2_with fail;go_ret;refine⟨by rw[P.out];rfl,t2 z (u _)⟩
  ·obtain rfl:j=32:=by omega
   clear q f h;go_wp2_with fail;go_ret;refine⟨?_,t2 z L⟩;rw[qJ.2 x.out];rfl
theorem GV (m g cap:Nat) (low:Int) (T:Tb) (k:Int) (w:World) (t:RTab w m g cap low T) :
  Calls prog 169 #[.pointer (some (m,0)),k] w fun e w'=>e=.returned (.int .i64 (gK T k:Nat))/\w'=w:=by
 have y:=t.c1;by_cases f:k < 0\/32<=k
 ·have p:Hid (gK T k=2):=by show _=_;unfold gK;rw[aj f]
  clear t;by_cases s:k < 0
  ·clear f;go_enter func169,ntmps169;go_wp2_with fail;go_ret;exact⟨by rw[p.out];rfl,rfl⟩
  ·have u:32<=k:=by omega
   clear f;go_enter func169,ntmps169;go_wp2_with fail;go_ret;exact⟨by rw[p.out];rfl,rfl⟩
 ·have s:¬k < 0:=by omega
  have u:¬32<=k:=by omega
  obtain⟨j,rfl⟩:∃j:Nat,k=j:=⟨k.toNat,by omega⟩;have x:j < 32:=by omega
  have z:=jN j
  have A:(j:Int) < 32:=by omega
  obtain⟨c,l⟩:∃c,c=T j:=⟨_,rfl⟩;have h:Hid (gK T (j:Int)=if c.pr=0 then 4 else 0):=by
   show _=_;unfold gK;rw[ak f,l];rfl
  have q:=t.sl.at' (i:=j) (k:=2) x om;rw[<- l]at q;simp only[Ce.get]at q;clear f l t;by_cases a:c.pr=0
  ·have o:=xI.2 a;rw[aj a]at h;clear a;go_enter func169,ntmps169;go_wp2_with fail;go_ret;exact⟨by rw[h.out];rfl,rfl⟩
  ·have o:=dG.2 a;rw[ak a]at h;clear a;go_enter func169,ntmps169;go_wp2_with fail;go_ret;exact⟨by rw[h.out];rfl,rfl⟩
theorem GX (m g cap:Nat) (low:Int) (T:Tb) (k:Int) (n:Nat) (w:World) (t:RTab w m g cap low T) (p:gI T n) (B:n<=1000000000) :
  Calls prog 125 #[.pointer (some (m,0)),k] w fun e w'=>e=.returned (.int .i64 (gK T k:Nat))/\RTab w' m g cap low (iZ T k)/\aC g w w':=by
 have l:Hid (RTab w m g cap low T):=t;have u:=jH p;clear t p;go_enter func125,ntmps125;go_wp2_with fail;refine(GV m g cap low T k _ l).mono ?_;rintro e C ⟨rfl,rfl⟩;by_cases a:gK T k=0
 ·have i:=jH a;obtain⟨D,E,_⟩:=o9 a;obtain⟨j,rfl⟩:∃j:Nat,k=j:=⟨k.toNat,by omega⟩;have s:j < 32:=by omega
  rw[a];clear a;go_wp2_with fail;have f:=u.out j s;refine(wV m g cap low T j vG _ l s f.1 om).mono ?_;rintro e w2 ⟨rfl,h,c2⟩;have x:Hid (RTab w2 m g cap low (iZ T j)):=by
   show RTab w2 m g cap low (iZ T j);unfold iZ;rw[aj i.out,fJ];exact h
  have y:=jH c2;clear h c2 f;go_wp2_with fail;go_ret;exact⟨by rw[i.out];rfl,x,y⟩
 ·have i:=jH a;obtain⟨q,o⟩:∃q:Nat,gK T k=q:=⟨_,rfl⟩;rw[o]at a ⊢;have z:=dG.2 om;have A:=jH o;clear a o;go_wp2_with fail;go_ret;refine⟨by rw[A.out];rfl,?_,aC.refl _ _⟩;unfold iZ;rw[ak i.out];exact l.out
theorem Zf (m g cap:Nat) (low:Int) (T:Tb) (k st un:Int) (n:Nat) (w:World) (t:RTab w m g cap low T) (F:gI T n) (O:n<=1000000000) :
  Calls prog 126 #[.pointer (some (m,0)),k,st,un] w fun e w'=>e=.returned (.int .i64 (gK T k:Nat))/\RTab w' m g cap low (nO T k st un)/\aC g w w':=by
 have a:=jH t;have G:=jH F;have H:=t.c1;clear t F;go_enter func126,ntmps126;go_wp2_with fail;refine(GV m g cap low T k _ a).mono ?_;rintro e I ⟨rfl,rfl⟩;by_cases h:gK T k=0
 ·have p:=jH h;obtain⟨P,Q,_⟩:=o9 h;obtain⟨j,rfl⟩:∃j:Nat,k=j:=⟨k.toNat,by omega⟩;have f:j < 32:=by omega
  rw[h];clear h;obtain⟨c,s⟩:∃c,c=T j:=⟨_,rfl⟩;have J:=jH s;have u:=a.sl.at' (i:=j) (k:=2) f om;have x:=a.sl.at' (i:=j) (k:=3) f om;have y:=a.sl.at' (i:=j) (k:=4) f om;have z:=a.sl.at' (i:=j) (k:=5) f om;have A:=a.sl.at' (i:=j) (k:=6) f om;have B:=a.sl.at' (i:=j) (k:=7) f om;have C:=a.sl.at' (i:=j) (k:=8) f om;have D:=a.sl.at' (i:=j) (k:=9) f om;rw[<- s]at u x y z A B C D;simp only[Ce.get]at u x y z A B C D;clear s;go_wp2_with fail;clear u x y z A B C D H;have o:=G.out j f;refine jM (wV m g cap low T j ⟨0,c.pr,c.ia,c.ip,c.fa,c.fp,c.po,st,un⟩ _ (a.below (aB _ _)) f o.1 om) fun w2 ⟨l,c2⟩=>?_;have K:Hid (RTab w2 m g cap low (nO T j st un)):=by
   show RTab w2 m g cap low (nO T j st un);unfold nO;rw[aj p.out,fJ];rw[J.out]at l;exact l
  have L:Hid (aC g I w2):=(aC.of (aB _ _)).trans c2;clear l c2 o;go_wp2_with fail;go_ret;exact⟨by rw[p.out];rfl,K,L⟩
 ·have p:=jH h;obtain⟨q,E⟩:∃q:Nat,gK T k=q:=⟨_,rfl⟩;rw[E]at h ⊢;have M:=dG.2 om;have N:=jH E;clear h E;go_wp2_with fail;go_ret;refine⟨by rw[N.out];rfl,?_,aC.refl _ _⟩;unfold nO;rw[ak p.out];exact a.out
def sF (T:Tb) (c:Ce):Nat×Nat×Tb :=
 match fst T mY with
 | none=>(0,6,T)
 | some k=>(k,0,wJ T k c.pr c.ia c.ip c.fa c.fp c.po c.st c.un)
theorem L6 (m g cap:Nat) (low:Int) (T:Tb) (c:Ce) (n:Nat) (w:World) (t:RTab w m g cap low T) (x:gI T n) (O:n<=1000000000) :
  Calls prog 127 #[.pointer (some (m,0)),bI c] w fun e w'=>e=.returned (.tuple #[.int .i64 ((sF T c).1:Nat),.int .i64 ((sF T c).2.1:Nat)])/\RTab w' m g cap low (sF T c).2.2/\aC g w w':=by
 have y:bI c=.agg #[c.pr,c.ia,c.ip,c.fa,c.fp,c.po,c.st,c.un]:=rfl;rw[y];have z:Hid (Below w w (w.alloc (.cells #[c.pr,c.ia,c.ip,c.fa,c.fp,c.po,c.st,c.un] 115))):=aB _ _;have a:=jH (xP w c);have p:Hid (RTab (w.alloc (.cells #[c.pr,c.ia,c.ip,c.fa,c.fp,c.po,c.st,c.un] 115)) m g cap low T):=t.below (aB _ _);have B:=jH x;clear t y x;go_enter func127,ntmps127;go_wp2_with fail;generalize w.alloc (.cells #[c.pr,c.ia,c.ip,c.fa,c.fp,c.po,c.st,c.un] 115)=w0 at *;generalize P:w.heap.size=Z at a ⊢;go_loopw [6] (fun t wr=>∃j:Nat,j<=32/\t=.int .i64 j/\(∀i,i < j->mY (T i)=false)/\wr=w0) (fun t _=>32 - (intOf t).toNat)
 case atStart=>exact⟨0,by omega,rfl,fun i C=>by omega,rfl⟩
 case round =>
  obtain⟨j,Q,rfl,h,rfl⟩:=hrel;have q:=jH h;have D:=p.c1;clear h;by_cases f:j < 32
  ·have A:=p.sl.at' (i:=j) (k:=2) f om;simp only[Ce.get]at A;have R:=jN j
   have S:(j:Int) < 32:=by omega
   rcases hq:((T j).pr==0) with _ | _
   ·have s:Hid (∀i,i < j+1->mY (T i)=false):=fun i C=>by
     by_cases e:i=j
     ·rw[e];exact hq
     ·exact q i om
    go_wp2_with fail;go_roundw
    case rel=>exact⟨j+1,by omega,by go_num,s,by first | trivial | rfl⟩
    case measure=>simp[intOf];omega
   ·have u:Hid (sF T c=(j,0,wJ T j c.pr c.ia c.ip c.fa c.fp c.po c.st c.un)):=by
     show _=_;unfold sF;rw[lG.2 ⟨f,hq,q⟩]
    have E:=a.c0;have F:=a.c1;have G:=a.c2;have H:=a.c3;have I:=a.c4;have J:=a.c5;have K:=a.c6;have L:=a.c7;go_wp2_with fail;clear E F G H I J K L A D hq;have l:=B.out j f;refine jM (wV m g cap low T j c _ p f l.1 om) fun w2 ⟨o,c2⟩=>?_;have M:=jH o;have N:=jH ((aC.of z.out).trans c2);clear o c2 l;go_wp2_with fail;go_ret2;rw[u.out];exact⟨rfl,M,N⟩
  ·obtain rfl:j=32:=by omega
   have u:Hid (sF T c=(0,6,T)):=by
    show _=_;unfold sF;rw[qJ.2 q.out]
   go_wp2_with fail;go_ret2;rw[u.out];exact⟨rfl,p,aC.of z.out⟩
section
variable {w w':World} {h y m c:Nat} {D:To}
def lJ (D:To):Array Value:=((List.range 32).map fun k=>.int .i64 (D k)).toArray
theorem rV (D:To):(lJ D).size=32:=by simp[lJ]
theorem wW (D:To) (k:Nat) (a:k < 32):(lJ D)[k]? = some (.int .i64 (D k)):=by
 simp only[lJ,vW,kK,yN a,nX]
theorem L8 (D:To) (s:Nat) (v:Int) (i:s < 32):(lJ D).setIfInBounds s v=lJ (fun k=>if k=s then v else D k):=by
 apply vY;intro j;rw[BN,rV];by_cases a:j < 32
 ·rw[wW _ j a,wW _ j a];by_cases e:s=j
  ·subst e;rw[aj rfl,aj a];simp
  ·rw[ak e];simp only[ak (fun f:j=s=>e f.symm)]
 ·rw[ak om,eP (by rw[rV];omega),eP (by rw[rV];omega)]
def L9 (w:World) (h:Nat) (D:To):Prop:=∃a,w.heap[h]? = some (.cells (lJ D) a (0,0))
theorem L9.at' (a:L9 w h D) {k:Nat} (f:k < 32):w.cell? (h,k)=some (.int .i64 (D k)):=by
 obtain⟨i,e⟩:=a;rw[aP w h _ _ _ _ e,wW D k f]
theorem L9.fr (a:L9 w h D) (j:Nat):w.frozen? (h,j)=false:=by
 obtain⟨f,e⟩:=a;exact jk w h j _ _ e
theorem L9.lt (a:L9 w h D):h < w.heap.size:=eF (a.at' (k:=0) om)
theorem L9.below (a:L9 w h D) (f:Below w w w'):L9 w' h D:=by
 have i:=a.lt;obtain⟨j,e⟩:=a;exact⟨j,by rw[f.block h i];exact e⟩
theorem L9.dO {b:Nat} (a:L9 w h D) (f:aC b w w') (i:h≠b):L9 w' h D:=by
 have j:=a.lt;obtain⟨k,e⟩:=a;exact⟨k,by rw[f.block h j i];exact e⟩
theorem L9.put (a:L9 w h D) {s:Nat} (v:Int) (f:s < 32):L9 (w.setCell (h,s) v) h (fun k=>if k=s then v else D k):=by
 obtain⟨i,e⟩:=a;exact⟨i,by rw[bV w h _ _ _ _ e,L8 D s v f]⟩
structure oq (w:World) (y m h:Nat) (D:To) (c:Nat):Prop where
 c0:w.cell? (y,0)=some (.pointer (some (m,0)))
 c1:w.cell? (y,1)=some (.slice (some (h,0)) 32 32)
 c2:w.cell? (y,2)=c
 f2:w.frozen? (y,2)=false
 a:L9 w h D
 ne:y≠h
 lt:c<=32
theorem oq.below (t:oq w y m h D c) (e:Below w w w'):oq w' y m h D c :=
 ⟨tk e t.c0,tk e t.c1,tk e t.c2,(aV (e.block y (eF t.c0))).trans t.f2,t.a.below e,t.ne,t.lt⟩
theorem oq.dO {b:Nat} (t:oq w y m h D c) (e:aC b w w') (f:y≠b) (i:h≠b):oq w' y m h D c :=
 ⟨e.keeps f t.c0,e.keeps f t.c1,e.keeps f t.c2,(aV (e.block y (eF t.c0) f)).trans t.f2,t.a.dO e i,t.ne,t.lt⟩
theorem oq.cur (t:oq w y m h D c) {c':Nat} (f:c'<=32):oq (w.setCell (y,2) c') y m h D c' where
 c0:=by rw[lT _ _ _ _ sM];exact t.c0
 c1:=by rw[lT _ _ _ _ sM];exact t.c1
 c2:=WO w _ _ (by rw[t.c2];rfl)
 f2:=(xB _ _ _ _).trans t.f2
 a:=t.a.dO (aC.set y 2 w _) (fun e=>t.ne e.symm)
 ne:=t.ne
 lt:=f
theorem oq.put (t:oq w y m h D c) {s:Nat} (v:Int) (f:s < 32):oq (w.setCell (h,s) v) y m h (fun k=>if k=s then v else D k) c :=
 have e:=aC.set h s w v;⟨e.keeps t.ne t.c0,e.keeps t.ne t.c1,e.keeps t.ne t.c2,(aV (e.block y (eF t.c0) t.ne)).trans t.f2,t.a.put v f,t.ne,t.lt⟩
theorem Tryz.aac:(prog.info? 3).map (fun i=>(i.zero,i.size,i.bytes))=some (some (.int .i64 0),1,8):=by kernel_rfl
theorem U8 (w:World):(Instr.makeSlice 31 (.int .i64 32) (.int .i64 32)).run prog w=.ok (.slice (some (w.heap.size,0)) 32 32) (w.alloc (.cells (lJ fun _=>0) 3)):=by
 obtain⟨j,k,f,a,i⟩:=lu Tryz.aac;have h:=run_makeSlice (P := prog) w 31 3 j (.int .i64 0) Tryz.underlying31 k f .i64 .i64 32 32 om om (by rw[a];decide) (by rw[i];decide) om;rw[a]at h;have e:madeCells (Value.cells (.int .i64 0)) (Int.toNat 32 * 1)=lJ fun _=>0:=by kernel_rfl
 rw[e]at h;exact h
theorem aad (m:Nat) (w:World) :
  Calls prog 39 #[.pointer (some (m,0))] w fun e w'=>(∃y h,e=.returned (.pointer (some ⟨y,0,none⟩))/\w.heap.size<=y/\w.heap.size<=h/\oq w' y m h (fun _=>0) 0)/\Below w w w':=by
 have i:=U8 w;go_enter func39,ntmps39;go_wp2_with fail;go_ret;have f:(w.alloc (.cells (lJ fun _=>0) 3)).heap.size=w.heap.size+1:=by simp
 have a:=nw (w.alloc (.cells (lJ fun _=>0) 3)) #[.pointer (some (m,0)),.slice (some (w.heap.size,0)) 32 32,.int .i64 0] 140;rw[f]at a;refine⟨⟨w.heap.size+1,w.heap.size,rfl,by omega,by omega,⟨(a 0).trans rfl,(a 1).trans rfl,(a 2).trans rfl,?_,L9.below ⟨_,dh w _⟩ (aB _ _),by omega,by omega⟩⟩,t2 (aB _ _) (aB _ _)⟩;rw[<- f];exact jk _ _ _ _ _ (dh _ _)
end
section
variable {w w' W:World} {base q y m h g cap c:Nat} {v:Value} {T:Tb} {L:List Nat} {low:Int} {D:To}
theorem Ef (T:Tb) (s:Nat):∀L:List Nat,iK T (L++[s])=iK T L++Bd T s
 | []=>by simp[iK]
 | r::L=>by rw[List.cons_append,iK,iK,Ef T s L,List.append_assoc]
def wX (w:World) (base:Nat) (v:Value) (T:Tb) (L:List Nat):Prop:=w.ownsRow base 117 10 v L.length (iK T L)
def Jg (w:World) (p:Option Addr) (T:Tb) (L:List Nat):Prop:=∀j s:Nat,L[j]? = some s->∃g,p=some ⟨g,0,none⟩/\∀k,k < 10->w.cell? ⟨g,j * 10+k,none⟩=some (.int .i64 ((T s).get s k))
theorem wX.open (h:wX w base v T L):∃p cap,v=.slice p L.length cap/\Jg w p T L/\∀g,v.ownBlock=some g->base<=g:=by
 have a:∀g,v.ownBlock=some g->base<=g:=fun g e=>(ab9 h g e).1;obtain⟨_,i⟩:=h;rcases i with⟨rfl,h0⟩ | ⟨g,cap,cur,rfl,e,hh,_,_,_,ht⟩
 ·have:L=[]:=List.length_eq_zero_iff.1 h0;subst this;exact⟨none,0,rfl,fun j s h=>by simp at h,a⟩
 ·refine⟨_,cap,rfl,fun j s f=>⟨g,rfl,fun k l=>?_⟩,a⟩;have o:=(List.getElem?_eq_some_iff.1 f).1;have:=IL T L j s k f l;rw[<- ht,kG,aj om,sQ]at this;rw[aP w g _ _ _ _ hh];exact this
theorem wX.below (h:wX w base v T L) (j:Below w w w'):wX w' base v T L:=by
 have e:=fun g f=>(ab9 h g f).2;obtain⟨k,i⟩:=h;refine⟨k,?_⟩;rcases i with i | ⟨g,cap,cur,rfl,f,l,a,b,c,d⟩
 ·exact .inl i
 ·exact .inr ⟨g,cap,cur,rfl,f,by rw[j.block g (e g rfl)];exact l,a,b,c,d⟩
theorem wX.dO {x:Nat} (h:wX w base v T L) (j:aC x w w') (o:x < base):wX w' base v T L:=by
 have e:=fun g f=>(ab9 h g f).2;obtain⟨k,i⟩:=h;refine⟨k,?_⟩;rcases i with i | ⟨g,cap,cur,rfl,f,l,a,b,c,d⟩
 ·exact .inl i
 ·exact .inr ⟨g,cap,cur,rfl,f,by rw[j.block g (e g rfl) om];exact l,a,b,c,d⟩
def pJ (L:List Nat):Array Value:=((List.range 32).map fun k=>.bool (decide (k ∈ L))).toArray
theorem ug (L:List Nat):(pJ L).size=32:=by simp[pJ]
theorem zq (L:List Nat) (k:Nat) (a:k < 32):(pJ L)[k]? = some (.bool (decide (k ∈ L))):=by
 simp only[pJ,vW,kK,yN a,nX]
theorem P9 (L:List Nat) (s:Nat) (f:s < 32):(pJ L).setIfInBounds s (.bool true)=pJ (L++[s]):=by
 apply vY;intro j;rw[BN,ug];by_cases a:j < 32
 ·rw[zq _ j a,zq _ j a];by_cases e:s=j
  ·subst e;rw[aj rfl,aj a];simp
  ·rw[ak e];have:(j ∈ L++[s])↔j ∈ L:=by simp;intro h;exact(e h.symm).elim
   rw[decide_eq_decide.2 this]
 ·rw[ak om,eP (by rw[ug];omega),eP (by rw[ug];omega)]
def qA (w:World) (q:Nat) (L:List Nat):Prop:=∃a,w.heap[q]? = some (.cells (pJ L) a (0,0))
theorem qA.at' (a:qA w q L) {k:Nat} (f:k < 32):w.cell? (q,k)=some (.bool (decide (k ∈ L))):=by
 obtain⟨i,e⟩:=a;rw[aP w q _ _ _ _ e,zq L k f]
theorem qA.fr (a:qA w q L) (j:Nat):w.frozen? (q,j)=false:=by
 obtain⟨f,e⟩:=a;exact jk w q j _ _ e
theorem qA.lt (a:qA w q L):q < w.heap.size:=eF (a.at' (k:=0) om)
theorem qA.dO {b:Nat} (a:qA w q L) (f:aC b w w') (i:q≠b):qA w' q L:=by
 have j:=a.lt;obtain⟨k,e⟩:=a;exact⟨k,by rw[f.block q j i];exact e⟩
theorem qA.below (a:qA w q L) (f:Below w w w'):qA w' q L:=by
 have i:=a.lt;obtain⟨j,e⟩:=a;exact⟨j,by rw[f.block q i];exact e⟩
theorem qA.grown {o:Option Nat} (a:qA w q L) (f:w.grownBy w' o) (i:some q≠o):qA w' q L:=by
 have j:=a.lt;obtain⟨k,e⟩:=a;exact⟨k,by rw[f.block q j i];exact e⟩
theorem qA.put (a:qA w q L) {s:Nat} (f:s < 32):qA (w.setCell (q,s) (.bool true)) q (L++[s]):=by
 obtain⟨i,e⟩:=a;exact⟨i,by rw[bV w q _ _ _ _ e,P9 L s f]⟩
theorem Tryz.aae:(prog.info? 4).map (fun i=>(i.zero,i.size,i.bytes))=some (some (.bool false),1,1):=by kernel_rfl
theorem Qa (w:World):(Instr.makeSlice 234 (.int .i64 32) (.int .i64 32)).run prog w=.ok (.slice (some (w.heap.size,0)) 32 32) (w.alloc (.cells (pJ []) 4)):=by
 obtain⟨j,k,f,a,i⟩:=lu Tryz.aae;have h:=run_makeSlice (P := prog) w 234 4 j (.bool false) Tryz.underlying234 k f .i64 .i64 32 32 om om (by rw[a];decide) (by rw[i];decide) om;rw[a]at h;have e:madeCells (Value.cells (.bool false)) (Int.toNat 32 * 1)=pJ []:=by kernel_rfl
 rw[e]at h;exact h
structure Rn (w W:World) (y m h g cap q:Nat) (low:Int) (T:Tb) (D:To) (L:List Nat) (c:Nat) (v:Value):Prop where
 t:RTab W m g cap low T
 r:oq W y m h D c
 k:qA W q L
 o:wX W (w.heap.size+1) v T L
 x:bW y h w W
 eq:q=w.heap.size
 ym:y < w.heap.size/\m < w.heap.size/\h < w.heap.size/\g < w.heap.size
 ne:m≠y/\m≠h/\g≠y/\g≠h
theorem Rn.below {e:World} (f:Rn w W y m h g cap q low T D L c v) (a:Below W W e):Rn w e y m h g cap q low T D L c v :=
 ⟨f.t.below a,f.r.below a,f.k.below a,f.o.below a,f.x.then a,f.eq,f.ym,f.ne⟩
theorem Rn.grown {W':World} {L':List Nat} {v':Value} (f:Rn w W y m h g cap q low T D L c v) (a:W.grownBy W' v.ownBlock) (p:wX W' (w.heap.size+1) v' T L') :
  RTab W' m g cap low T/\oq W' y m h D c/\qA W' q L/\wX W' (w.heap.size+1) v' T L'/\bW y h w W':=by
 have j:∀x,v.ownBlock=some x->w.heap.size+1<=x:=fun x s=>(ab9 f.o x s).1;have u:=f.ym;have A:=f.eq
 cases l:v.ownBlock with
 | none =>
  rw[l]at a;have e:Below W W W':=⟨a.os,a.tape,a.output,a.size,fun k B=>a.block k B sM⟩;exact⟨f.t.below e,f.r.below e,f.k.below e,p,f.x.then e⟩
 | some z =>
  rw[l]at a;have C:=j z l;have i:=FW a;exact⟨f.t.dO i om om,f.r.dO i om om,f.k.dO i om,p,f.x.on i (.inr (.inr om))⟩
theorem Rn.taken {L':List Nat} (t:RTab W m g cap low T) (r:oq W y m h D c) (k:qA W q L) (o:wX W (w.heap.size+1) v T L') (x:bW y h w W) (f:q=w.heap.size) (i:y < w.heap.size/\m < w.heap.size/\h < w.heap.size/\g < w.heap.size) (j:m≠y/\m≠h/\g≠y/\g≠h) {s:Nat} (l:s < 32) (e:L'=L++[s]) :
  Rn w (W.setCell (q,s) (.bool true)) y m h g cap q low T D L' c v:=by
 have a:=aC.set q s W (.bool true);subst e;exact⟨t.dO a om om,r.dO a om om,k.put l,o.dO a om,x.on a (.inr (.inr om)),f,i,j⟩
theorem Rn.cur (f:Rn w W y m h g cap q low T D L c v) {c':Nat} (e:c'<=32):Rn w (W.setCell (y,2) c') y m h g cap q low T D L c' v:=by
 have a:=aC.set y 2 W c';have i:=f.ym;have j:=f.eq;exact⟨f.t.dO a f.ne.1 f.ne.2.2.1,f.r.cur e,f.k.dO a om,f.o.dO a om,f.x.on a (.inl rfl),f.eq,f.ym,f.ne⟩
theorem Rn.told (f:Rn w W y m h g cap q low T D L c v) {s:Nat} (e:s < 32) (x:Int):Rn w (W.setCell (h,s) x) y m h g cap q low T (fun k=>if k=s then x else D k) L c v:=by
 have a:=aC.set h s W x;have i:=f.ym;have j:=f.eq;exact⟨f.t.dO a f.ne.2.1 f.ne.2.2.2,f.r.put x e,f.k.dO a om,f.o.dO a om,f.x.on a (.inr (.inl rfl)),f.eq,f.ym,f.ne⟩
end
section
variable {w w':World} {b m g cap:Nat} {life:Int} {T:Tb}
structure kN (w:World) (m g cap:Nat) (life:Int) (T:Tb):Prop where
 c0:w.cell? (m,0)=life
 c1:w.cell? (m,1)=some (.slice (some (g,0)) 32 cap)
 f0:w.frozen? (m,0)=false
 f1:w.frozen? (m,1)=false
 sl:jl w g T
 ne:m≠g
theorem yZ.AB {o:Nat} {x:Tc} (h:yZ w b o x) (a:bW m g w w') (e:b≠m) (f:b≠g):yZ w' b o x :=
 ⟨a.keeps e f h.c0,a.keeps e f h.c1,a.keeps e f h.c2,a.keeps e f h.c3,a.keeps e f h.c4,a.keeps e f h.c5,a.keeps e f h.c6,a.keeps e f h.c7,a.keeps e f h.c8,a.keeps e f h.c9⟩
theorem lH.AB (h:lH w b life T) (k:bW m g w w') (a:b≠m) (e:b≠g):lH w' b life T:=by
 unfold lH;rw[k.block b h.lt a e];exact h
theorem kN.below (h:kN w m g cap life T) (a:Below w w w'):kN w' m g cap life T :=
 ⟨tk a h.c0,tk a h.c1,(aV (a.block m (eF h.c0))).trans h.f0,(aV (a.block m (eF h.c0))).trans h.f1,h.sl.below a,h.ne⟩
theorem kN.dO (h:kN w m g cap life T) (a:aC b w w') (e:m≠b) (f:g≠b):kN w' m g cap life T :=
 ⟨a.keeps e h.c0,a.keeps e h.c1,(aV (a.block m (eF h.c0) e)).trans h.f0,(aV (a.block m (eF h.c0) e)).trans h.f1,h.sl.dO a f,h.ne⟩
theorem kN.on {U:Tb} (h:kN w m g cap life T) (a:aC g w w') (e:jl w' g U):kN w' m g cap life U :=
 ⟨a.keeps h.ne h.c0,a.keeps h.ne h.c1,(aV (a.block m (eF h.c0) h.ne)).trans h.f0,(aV (a.block m (eF h.c0) h.ne)).trans h.f1,e,h.ne⟩
theorem aaf (d c:Ce):(((((((((d.put c.ve 1).put c.pr 2).put c.ia 3).put c.ip 4).put c.fa 5).put c.fp 6).put c.po 7).put c.st 8).put c.un 9)=c:=by
 cases c
 rfl
theorem U9 (h:jl w b T) (k:Nat) (c:Ce) (a:k < 32):jl ((((((((((w.setCell (b,k * 10) k).setCell (b,k * 10+1) c.ve).setCell (b,k * 10+2) c.pr).setCell (b,k * 10+3) c.ia).setCell (b,k * 10+4) c.ip).setCell (b,k * 10+5) c.fa).setCell (b,k * 10+6) c.fp).setCell (b,k * 10+7) c.po).setCell (b,k * 10+8) c.st).setCell (b,k * 10+9) c.un) b (upd T k c):=by
 have h:=h.slot (i:=k) a;have h:=h.put (i:=k) (k:=1) c.ve a om om;have h:=h.put (i:=k) (k:=2) c.pr a om om;have h:=h.put (i:=k) (k:=3) c.ia a om om;have h:=h.put (i:=k) (k:=4) c.ip a om om;have h:=h.put (i:=k) (k:=5) c.fa a om om;have h:=h.put (i:=k) (k:=6) c.fp a om om;have h:=h.put (i:=k) (k:=7) c.po a om om;have h:=h.put (i:=k) (k:=8) c.st a om om;have h:=h.put (i:=k) (k:=9) c.un a om om;simp only[upd_same,xM,aaf]at h;exact h
theorem Mc (w:World) (b k:Nat) (c:Ce):aC b w ((((((((((w.setCell (b,k * 10) k).setCell (b,k * 10+1) c.ve).setCell (b,k * 10+2) c.pr).setCell (b,k * 10+3) c.ia).setCell (b,k * 10+4) c.ip).setCell (b,k * 10+5) c.fa).setCell (b,k * 10+6) c.fp).setCell (b,k * 10+7) c.po).setCell (b,k * 10+8) c.st).setCell (b,k * 10+9) c.un) :=
 (((((((((aC.set b _ w _).trans (aC.set b _ _ _)).trans (aC.set b _ _ _)).trans (aC.set b _ _ _)).trans (aC.set b _ _ _)).trans (aC.set b _ _ _)).trans (aC.set b _ _ _)).trans (aC.set b _ _ _)).trans (aC.set b _ _ _)).trans (aC.set b _ _ _)
theorem cS {a:Addr} {u v:Value} (h:w.cell? a=some u):(w.setCell a v).cell? a=some v:=WO w a v (by rw[h];rfl)
theorem cO {a b:Addr} {v:Value} (h:a≠b):(w.setCell a v).cell? b=w.cell? b:=by
 apply lT;exact h
def aag (w w':World) (m g:Nat) (life:Int) (T:Tb):Prop:=(∃e a,kN w' m e a life T/\(e=g\/w.heap.size<=e))/\bW m g w w'
theorem Va (m g cap:Nat) (life a:Int) (T:Tb) (l:List Tc) (p:Option Addr) (cp:Nat) (w:World) (M:kN w m g cap a T) (R:vJ w p l) (hp:l≠[]->∀b o,p=some ⟨b,o,none⟩->b≠m/\b≠g) (hl:l.length<=100000) :
  Calls prog 64 #[.pointer (some (m,0)),life,.slice p l.length cp] w fun e w'=>e=.returned (.int .i64 (fP a life l:Nat))/\aag w w' m g (bG a life l) (fH a life T l):=by
 have J:=jH M;have HR:=jH R;have HP:=jH hp;clear M R hp;have s:Hid ((life < 1\/8 < l.length\/(l.any fun x=>!okS x)=true)->fP a life l=2/\aag w w m g (bG a life l) (fH a life T l)):=fun h=>by
  have i:fP a life l=2:=by unfold fP;rw[aj h]
  refine⟨i,?_⟩;unfold bG fH;rw[i];exact⟨⟨g,cap,J,.inl rfl⟩,bW.refl _ _ _⟩
 have F:Hid (¬(life < 1\/8 < l.length\/(l.any fun x=>!okS x)=true)->life < a->fP a life l=10/\aag w w m g (bG a life l) (fH a life T l)):=fun h W=>by
  have i:fP a life l=10:=by unfold fP;rw[ak h,aj W]
  refine⟨i,?_⟩;unfold bG fH;rw[i];exact⟨⟨g,cap,J,.inl rfl⟩,bW.refl _ _ _⟩
 have K:Hid (¬(life < 1\/8 < l.length\/(l.any fun x=>!okS x)=true)->¬life < a->fP a life l=0/\bG a life l=life/\fH a life T l=mZ (if a < life then newT else T) l):=fun h W=>by
  have i:fP a life l=0:=by unfold fP;rw[ak h,ak W]
  unfold bG fH;rw[i];exact⟨rfl,rfl,rfl⟩
 obtain⟨E,i⟩:∃E,E=fP a life l:=⟨_,rfl⟩;obtain⟨LF,X⟩:∃E,E=bG a life l:=⟨_,rfl⟩;obtain⟨TT,Y⟩:∃E,E=fH a life T l:=⟨_,rfl⟩;rw[<- i,<- X,<- Y]at s F K ⊢;clear i X Y;go_enter func64,ntmps64;by_cases h1:life < 1
 ·obtain⟨i,z⟩:=s.out (.inl h1);have I:=jH i;have A:=jH z;clear i z;go_wp2_with fail;go_ret;exact⟨by rw[I.out];rfl,A⟩
 by_cases h2:8 < l.length
 ·have Zr:(8:Int) < (l.length:Int):=by omega
  obtain⟨i,z⟩:=s.out (.inr (.inl h2));have I:=jH i;have A:=jH z;clear i z;go_wp2_with fail;go_ret;exact⟨by rw[I.out];rfl,A⟩
 have Zr:¬(8:Int) < (l.length:Int):=by omega
 have H1:=jH h1;have H2:=jH h2;go_wp2_with fail;go_loopw [7] (fun t wr=>∃j:Nat,j<=l.length/\t=.int .i64 j/\((l.take j).any fun x=>!okS x)=false/\wr=w) (fun t _=>l.length - (intOf t).toNat)
 case atStart=>exact⟨0,jY _,rfl,rfl,rfl⟩
 case round =>
  obtain⟨j,hj,rfl,Z,rfl⟩:=hrel;have HN:=jH Z;clear Z;by_cases G:j < l.length
  ·have hr:=fD G;obtain⟨y,hy⟩:∃y,y=l[j]:=⟨_,rfl⟩;rw[<- hy]at hr;have S:=jH hr;clear hy;obtain⟨b,o,rfl,L⟩:=HR.out j y hr;have c0:=L.c0;have j0:=jN j
   have j1:(j:Int) < (l.length:Int):=by omega
   clear hr L;by_cases H:y.sl < 0\/32<=y.sl
   ·have Zg:Hid ((l.any fun x=>!okS x)=true):=by
     show _=_;rw[List.any_eq_true];refine⟨y,kW S,?_⟩
     cases hd:okS y
     ·rfl
     ·have:=xO.1 hd;omega
    obtain⟨i,z⟩:=s.out (.inr (.inr Zg));have I:=jH i;have A:=jH z;clear i z Zg;by_cases Zx:y.sl < 0
    ·clear H;go_wp2_with fail;go_ret;exact⟨by rw[I.out];rfl,A⟩
    ·have N:32<=y.sl:=by omega
     clear H;go_wp2_with fail;go_ret;exact⟨by rw[I.out];rfl,A⟩
   ·have n1:¬y.sl < 0:=by omega
    have n2:¬32<=y.sl:=by omega
    have A:Hid (((l.take (j+1)).any fun x=>!okS x)=false):=by
     show _=_;have hd:okS y=true:=xO.2 ⟨by omega,by omega⟩;rw[xE,S.out,List.any_append,HN.out];simp only[Option.toList_some,List.any_cons,List.any_nil,hd,Bool.or_false,Bool.not_true]
    clear H;go_wp2_with fail;go_roundw
    case rel=>exact⟨j+1,by omega,by go_num,A,by first | rfl | trivial⟩
    case measure=>simp[intOf];omega
  ·obtain rfl:j=l.length:=by omega
   rw[xH]at HN;have Zz:¬((l.length:Int) < (l.length:Int)):=by omega
   have HG:Hid (¬(life < 1\/8 < l.length\/(l.any fun x=>!okS x)=true)):=by
    show ¬_;rintro(h | h | h)
    ·have:=H1.out;omega
    ·have:=H2.out;omega
    ·rw[HN.out]at h;cases h
   have m0:=J.c0;by_cases W:life < a
   ·obtain⟨i,z⟩:=F.out HG W;have I:=jH i;have A:=jH z;clear i z;go_wp2_with fail;go_ret;exact⟨by rw[I.out];rfl,A⟩
   ·obtain⟨i,hL,z⟩:=K.out HG om;obtain⟨U,hU⟩:∃U,U=if a < life then newT else T:=⟨_,rfl⟩;rw[<- hU]at z;have I:=jH i;have Zt:=jH hL;have Zu:=jH z;have HU:=jH hU;clear i hL z hU K F s;go_upto_if 47 with fail
    go_cut [48,49,50,51,52,53,54,55] (fun _ _ _ _ _ _ _ _ wx=>∃f q,kN wx m f q life U/\(f=g\/wr.heap.size<=f)/\bW m g wr wx)
    case first =>
     by_cases h5:a < life
     ·have O:Hid (U=newT):=by show _=_;rw[HU.out,aj h5]
      have f0:=J.f0;go_wp2_with fail;have C1:Hid (aC m wr (wr.setCell (m,0) life)):=aC.set m 0 _ _;have D0:Hid ((wr.setCell (m,0) life).cell? (m,0)=life):=cS m0;have D1:Hid ((wr.setCell (m,0) life).cell? (m,1)=some (.slice (some (g,0)) 32 cap)):=by
       show _=_;rw[cO sM];exact J.c1
      have F0:Hid ((wr.setCell (m,0) life).frozen? (m,0)=false):=by show _=_;rw[xB];exact J.f0
      have F1:Hid ((wr.setCell (m,0) life).frozen? (m,1)=false):=by show _=_;rw[xB];exact J.f1
      generalize wr.setCell (m,0) life=w1 at *;refine(empty_any _).mono ?_;rintro e w2 ⟨⟨ge,ce,rfl,N,hs⟩,B⟩;have S2:=jH hs;have GE:=jH N;have B2:=jH B;have P:=jH (eF D0);have e1:=tk B D1;have E0:=jH (tk B D0);have e2:=(aV (B.block m P)).trans F1;have E3:=jH ((aV (B.block m P)).trans F0);have E1:=jH e1;have E2:=jH e2;clear hs N B;go_wp2_with fail;go_meet
      case rel =>
       have C:m≠ge:=fun e=>by have:=P.out;have:=GE.out;omega
       refine⟨ge,ce,⟨?_,cS E1,?_,?_,?_,C⟩,.inr (dL C1.size GE),?_⟩
       ·rw[cO sM];exact E0
       ·rw[xB];exact E3
       ·rw[xB];exact E2
       ·rw[O.out];exact S2.dO (aC.set m 1 _ _) C.symm
       ·exact(((bW.refl m g _).on C1 (.inl rfl)).then B2).on (aC.set m 1 _ _) (.inl rfl)
     ·have O:Hid (U=T):=by show _=_;rw[HU.out,ak h5]
      have Zv:Hid (a=life):=by show _=_;omega
      go_wp2_with fail;go_meet
      case rel =>
       refine⟨g,cap,?_,.inl rfl,bW.refl _ _ _⟩;rw[O.out,<- Zv.out];exact J
    case rest =>
     obtain⟨f,q,Zh,Zi,Zj⟩:=hcut;have M2:=jH Zh;have G2:=jH Zi;have C2:=jH Zj;clear Zh Zi Zj m0;obtain⟨w0,rfl⟩:∃w0,w0=wr:=⟨_,rfl⟩;go_wp2_with fail;go_loopw [8] (fun t wi=>∃j:Nat,j<=l.length/\t=.int .i64 j/\kN wi m f q life (mZ U (l.take j))/\bW m g w0 wi) (fun t _=>l.length - (intOf t).toNat)
     case atStart=>exact⟨0,jY _,rfl,M2,C2⟩
     case round =>
      obtain⟨j,hj,rfl,Zk,Zl⟩:=hrel;have Q:=jH Zk;have C3:=jH Zl;clear Zk Zl;by_cases G:j < l.length
      ·have hr:=fD G;obtain⟨y,hy⟩:∃y,y=l[j]:=⟨_,rfl⟩;rw[<- hy]at hr;have Zm:okS y=true:=by
        have h:=List.any_eq_false.1 HN y (kW hr)
        cases hd:okS y
        ·rw[hd]at h;simp at h
        ·rfl
       have Zn:=xO.1 Zm;obtain⟨b,o,Zw,L⟩:=HR.out j y hr;subst Zw;have C:l≠[]:=fun e=>by rw[e]at G;simp at G
       have L:=L.AB C3 (HP C b o rfl).1 (HP C b o rfl).2;clear C;have S:=jH (DX U l j y hr);clear hy hr Zm;obtain⟨sl,c⟩:=y;simp only at Zn;obtain⟨k,rfl⟩:∃k:Nat,sl=k:=⟨sl.toNat,by omega⟩;have D:k < 32:=by omega
       have k0:=jN k
       have k1:(k:Int) < 32:=by omega
       have j0:=jN j
       have j1:(j:Int) < (l.length:Int):=by omega
       clear Zn;obtain⟨V,Zp⟩:∃V,V=mZ U (l.take j):=⟨_,rfl⟩;rw[<- Zp]at S Q;clear Zp;have HC:=jH L;clear L;obtain⟨x,hx⟩:∃x,x=(V k).ve:=⟨_,rfl⟩;have HX:=jH hx;have m1:wr.cell? (f,k * 10+1)=x:=by rw[hx];exact Q.sl.at' D om
       have m2:=Q.c1;have c0:=HC.c0;have c1:=HC.c1;clear hx;by_cases hv:x < c.ve
       ·have A:Hid (mZ U (l.take (j+1))=upd V k c):=by
         show _=_;rw[S.out];unfold tq;simp only[fJ];rw[aj (by rw[<- HX.out];exact hv)]
        go_wp2_with fail;go_quiet (fail)
        have u:Hid (kN (wr.drewN nq) m f q life V):=Q.below ⟨rfl,rfl,rfl,bJ _,fun _ _=>rfl⟩;have C4:Hid (bW m g w0 (wr.drewN nq)):=C3.then ⟨rfl,rfl,rfl,bJ _,fun _ _=>rfl⟩;have Zq:Hid (yZ (wr.drewN nq) b (o+j * 10) ⟨k,c⟩):=HC.below ⟨rfl,rfl,rfl,bJ _,fun _ _=>rfl⟩;generalize wr.drewN nq=w4 at *;clear m1 m2 c0 c1 Q C3 HC;have m2:=u.c1;have c0:=Zq.c0;obtain⟨_,c1,c2,c3,c4,c5,c6,c7,c8,c9⟩:=Zq.out;have g0:=u.sl.at' (k:=0) D om;have q1:=u.sl.at' (k:=1) D om;have q2:=u.sl.at' (k:=2) D om;have q3:=u.sl.at' (k:=3) D om;have q4:=u.sl.at' (k:=4) D om;have q5:=u.sl.at' (k:=5) D om;have q6:=u.sl.at' (k:=6) D om;have q7:=u.sl.at' (k:=7) D om;have q8:=u.sl.at' (k:=8) D om;have q9:=u.sl.at' (k:=9) D om;simp only[oV]at g0;simp only at c1 c2 c3 c4 c5 c6 c7 c8 c9;have fz:=u.sl.fr;go_wp2_with fail;go_region;have M5:Hid (kN ((((((((((w4.setCell (f,k * 10) k).setCell (f,k * 10+1) c.ve).setCell (f,k * 10+2) c.pr).setCell (f,k * 10+3) c.ia).setCell (f,k * 10+4) c.ip).setCell (f,k * 10+5) c.fa).setCell (f,k * 10+6) c.fp).setCell (f,k * 10+7) c.po).setCell (f,k * 10+8) c.st).setCell (f,k * 10+9) c.un).drew m f q life (mZ U (l.take (j+1)))):=by
         show kN _ _ _ _ _ _;rw[A.out];exact(u.on (Mc w4 f k c) (U9 u.sl k c D)).below bD
        have C5:=jH ((C4.on (Mc w4 f k c) (.inr G2)).then bD);generalize ((((((((((w4.setCell (f,k * 10) k).setCell (f,k * 10+1) c.ve).setCell (f,k * 10+2) c.pr).setCell (f,k * 10+3) c.ia).setCell (f,k * 10+4) c.ip).setCell (f,k * 10+5) c.fa).setCell (f,k * 10+6) c.fp).setCell (f,k * 10+7) c.po).setCell (f,k * 10+8) c.st).setCell (f,k * 10+9) c.un).drew=w5 at *;clear c0 c1 c2 c3 c4 c5 c6 c7 c8 c9 g0 q1 q2 q3 q4 q5 q6 q7 q8 q9 fz m2;go_wp2_with fail;go_roundw
        case rel=>exact⟨j+1,by omega,by go_num,M5,C5⟩
        case measure=>simp[intOf];omega
       ·have A:Hid (mZ U (l.take (j+1))=V):=by
         show _=_;rw[S.out];unfold tq;simp only[fJ];rw[ak (by rw[<- HX.out];exact hv)]
        go_wp2_with fail;go_quiet (fail)
        have u:Hid (kN (wr.drewN nq) m f q life (mZ U (l.take (j+1)))):=by
         show kN _ _ _ _ _ _;rw[A.out];exact Q.below ⟨rfl,rfl,rfl,bJ _,fun _ _=>rfl⟩
        have C4:Hid (bW m g w0 (wr.drewN nq)):=C3.then ⟨rfl,rfl,rfl,bJ _,fun _ _=>rfl⟩;generalize wr.drewN nq=w4 at *;go_wp2_with fail;go_roundw
        case rel=>exact⟨j+1,by omega,by go_num,u,C4⟩
        case measure=>simp[intOf];omega
      ·obtain rfl:j=l.length:=by omega
       have Zy:¬((l.length:Int) < (l.length:Int)):=by omega
       go_wp2_with fail;go_ret;refine⟨by rw[I.out];rfl,⟨f,q,?_,G2⟩,C3⟩;have h:=Q.out;rw[xH]at h;rw[Zt.out,Zu.out];exact h
end
section
variable {w0 W:World} {m g cap Z:Nat} {low ia ip fa fp:Int} {T:Tb}
structure Sz (w0 W:World) (m g cap Z:Nat) (low:Int) (T:Tb) (ia ip fa fp:Int):Prop where
 r:RTab W m g cap low T
 e:EnB W Z ia ip fa fp
 b:Below w0 w0 W
theorem Sz.below {f:World} (h:Sz w0 W m g cap Z low T ia ip fa fp) (a:Below W W f):Sz w0 f m g cap Z low T ia ip fa fp:=⟨h.r.below a,h.e.below a,t2 h.b a⟩
theorem Sz.all (h:Sz w0 W m g cap Z low T ia ip fa fp) :
  W.cell? (m,0)=low/\W.cell? (Z+1,0)=fa/\W.cell? (Z+1,1)=fp/\Sz w0 W m g cap Z low T ia ip fa fp:=⟨h.r.c0,h.e.c2,h.e.c3,h⟩
theorem Sz.back (h:Sz w0 W m g cap Z low T ia ip fa fp) (a f:Int) :
  Calls prog 72 #[.pointer (some (m,0)),a,f,.agg #[fa,fp]] W fun e w'=>e=.returned (.int .i64 (jK (fst T (eH a f fa fp))))/\Sz w0 w' m g cap Z low T ia ip fa fp:=by
 refine jM (zo m g cap low T a f fa fp W h.r) fun w' i=>?_;exact⟨rfl,h.below i⟩
theorem aah (m g cap:Nat) (low:Int) (T:Tb) (f ia ip fa fp st un:Int) (n:Nat) (w:World) (t:RTab w m g cap low T) (hl0:0<=low) (hl1:low<=100000) (F:gI T n) (N:n<=1000000000) :
  Calls prog 70 #[.pointer (some (m,0)),f,.agg #[ia,ip],.agg #[fa,fp],st,un] w fun e w'=>e=.returned (.tuple #[.int .i64 ((iC T low f ia ip fa fp st un).1:Nat),.int .i64 ((iC T low f ia ip fa fp st un).2.1:Nat)])/\RTab w' m g cap low (iC T low f ia ip fa fp st un).2.2/\aC g w w':=by
 have G:Hid (Below w w ((w.alloc (.cells #[ia,ip] 33)).alloc (.cells #[fa,fp] 33))):=t2 (aB _ _) (aB _ _);have z:=jH (IK w ia ip fa fp);have A:Hid (RTab ((w.alloc (.cells #[ia,ip] 33)).alloc (.cells #[fa,fp] 33)) m g cap low T):=t.below (t2 (aB _ _) (aB _ _));have O:=jH F;clear t F;go_enter func70,ntmps70;go_wp2_with fail;generalize (w.alloc (.cells #[ia,ip] 33)).alloc (.cells #[fa,fp] 33)=w0 at *;generalize hZ:w.heap.size=Z at z ⊢;refine jM (zn m g cap low T f ia ip fa fp w0 A) fun P h=>?_;have y:Hid (Sz w P m g cap Z low T ia ip fa fp):=⟨A.below h,z.below h,t2 G h⟩;clear h G z A;rcases hf:fst T (iQ f ia ip fa fp) with _ | H
 ·have I:=jH hf;simp only[jK];clear hf;go_wp2_with fail;go_loopw [14] (fun t wr=>∃j:Nat,j<=24/\t=.int .i64 j/\(∀i,i < j->(fst T (eH f (low+(i:Nat)) fa fp)).isSome=true)/\Sz w wr m g cap Z low T ia ip fa fp) (fun t _=>24 - (intOf t).toNat)
  case atStart=>exact⟨0,by omega,rfl,fun i Q=>by omega,y⟩
  case round =>
   obtain⟨j,hj,rfl,s,q⟩:=hrel;have B:=jH s;have J:=jH (q.below bD);have l:=jH q;have c0:=q.r.c0;have K:=q.e.c2;have L:=q.e.c3;clear s q y;by_cases C:j < 24
   ·have hw:IntKind.i64.wrap (low+(j:Int))=low+(j:Int):=by rw[iI];omega
    go_wp2_with fail;go_region_held3 (fun w'=>w'.cell? (m,0)=low/\w'.cell? (Z+1,0)=fa/\w'.cell? (Z+1,1)=fp/\Sz w w' m g cap Z low T ia ip fa fp) (first | assumption | exact J.all | exact Sz.all az) (first | (go_at_call 72;refine jM (Sz.back az f (low+j)) fun w2 D=>?_))
    rename_i o;clear o c0 K L J l;have a:=jH D;have u:=jH (D.below bD);clear D;rcases hq:fst T (eH f (low+(j:Nat)) fa fp) with _ | k
    ·have x:Hid (iC T low f ia ip fa fp st un=sF T ⟨0,f,ia,ip,fa,fp,low+j,st,un⟩):=by
      show _=_;have p:=rD.2 ⟨C,hq,B⟩;unfold iC sF;rw[I.out,p]
      cases fst T mY <;> rfl
     simp only[jK];clear hq;have c0:=a.r.c0;have e0:=a.e.c0;have e1:=a.e.c1;have K:=a.e.c2;have L:=a.e.c3;go_wp2_with fail;go_region_with (first | (go_at_call 127;refine(L6 m g cap low T ⟨0,f,ia,ip,fa,fp,low+j,st,un⟩ n _ ?_ O N).mono ?_;(first | exact u.r | exact a.r);rintro e S ⟨rfl,M,k3⟩))
     all_goals
      have U:=jH M;have V:Hid (aC g w S):=by first | exact(aC.of u.b).trans k3 | exact(aC.of a.b).trans k3
      clear M k3;generalize sF T ⟨0,f,ia,ip,fa,fp,low+j,st,un⟩=R at *;go_wp2_with fail;go_ret2;rw[x.out];exact⟨rfl,U,V⟩
    ·have E:Hid (∀i,i < j+1->(fst T (eH f (low+(i:Nat)) fa fp)).isSome=true):=fun i Q=>by
      by_cases e:i=j
      ·rw[e,hq];rfl
      ·exact B i om
     simp only[jK];have X:¬((k:Int) < 0):=by omega
     clear hq;go_wp2_with fail;go_roundw
     case rel=>exact⟨j+1,by omega,by go_num,E,a⟩
     case measure=>simp[intOf];omega
   ·obtain rfl:j=24:=by omega
    have x:Hid (iC T low f ia ip fa fp st un=(0,6,T)):=by
     show _=_;have p:=wI.2 B;unfold iC;rw[I.out,p]
     cases fst T mY <;> rfl
    go_wp2_with fail;go_ret2;rw[x.out];exact⟨rfl,l.r,aC.of l.b⟩
 ·have x:Hid (iC T low f ia ip fa fp st un=(0,5,T)):=by show _=_;unfold iC;rw[hf]
  simp only[jK];have X:¬((H:Int) < 0):=by omega
  have Y:=jN H
  clear hf;go_wp2_with fail;go_ret2;rw[x.out];exact⟨rfl,y.r,aC.of y.b⟩
end
theorem aai (m g cap:Nat) (low:Int) (T:Tb) (c:Ce) (n:Nat) (w:World) (t:RTab w m g cap low T) (A:gI T n) (H:n<=1000000000) :
  Calls prog 122 #[.pointer (some (m,0)),bI c] w fun e w'=>e=.returned (.tuple #[.int .i64 ((ku T c.pr c.ia c.ip c.fa c.fp c.po c.st c.un).1:Nat),.int .i64 ((ku T c.pr c.ia c.ip c.fa c.fp c.po c.st c.un).2.1:Nat)])/\RTab w' m g cap low (ku T c.pr c.ia c.ip c.fa c.fp c.po c.st c.un).2.2/\aC g w w':=by
 have B:bI c=.agg #[c.pr,c.ia,c.ip,c.fa,c.fp,c.po,c.st,c.un]:=rfl;rw[B];have C:Hid (Below w w (w.alloc (.cells #[c.pr,c.ia,c.ip,c.fa,c.fp,c.po,c.st,c.un] 115))):=aB _ _;have o:=jH (xP w c);have p:Hid (RTab (w.alloc (.cells #[c.pr,c.ia,c.ip,c.fa,c.fp,c.po,c.st,c.un] 115)) m g cap low T):=t.below (aB _ _);have I:=jH A;clear t B A;go_enter func122,ntmps122;go_wp2_with fail;generalize w.alloc (.cells #[c.pr,c.ia,c.ip,c.fa,c.fp,c.po,c.st,c.un] 115)=w0 at *;generalize Q:w.heap.size=Z at o ⊢;refine jM (zn m g cap low T c.pr c.ia c.ip c.fa c.fp _ p) fun R a=>?_;have q:=jH (t2 C a);have i:=jH (o.below a);have l:=jH (p.below a);clear a C o p;rcases hf:fst T (iQ c.pr c.ia c.ip c.fa c.fp) with _ | j
 ·have D:=jH hf;simp only[jK];clear hf;have s:=i.c0;have u:=i.c3;have x:=i.c4;have y:=i.c5;go_wp2_with fail;clear s u x y;refine jM (zo m g cap low T c.pr c.po c.fa c.fp _ l) fun w2 f=>?_;have E:=jH (t2 q f);have h:=jH (i.below f);have F:=jH (l.below f);clear f q i l;rcases hf:fst T (eH c.pr c.po c.fa c.fp) with _ | j
  ·have k:Hid (ku T c.pr c.ia c.ip c.fa c.fp c.po c.st c.un=sF T c):=by show _=_;unfold ku sF;rw[D.out,hf];rfl
   simp only[jK];clear hf;have s:=h.c0;have J:=h.c1;have K:=h.c2;have u:=h.c3;have x:=h.c4;have y:=h.c5;have L:=h.c6;have M:=h.c7;go_wp2_with fail;clear s J K u x y L M;refine jM (L6 m g cap low T c n _ F I H) fun S ⟨G,c3⟩=>?_;have N:=jH G;have O:=jH ((aC.of E.out).trans c3);clear G c3;go_wp2_with fail;go_ret2;rw[k.out];exact⟨rfl,N,O⟩
  ·have k:Hid (ku T c.pr c.ia c.ip c.fa c.fp c.po c.st c.un=(0,5,T)):=by show _=_;unfold ku;rw[D.out,hf]
   simp only[jK];have P:¬((j:Int) < 0):=by omega
   have z:=jN j
   clear hf;go_wp2_with fail;go_ret2;rw[k.out];exact⟨rfl,F,aC.of E.out⟩
 ·have k:Hid (ku T c.pr c.ia c.ip c.fa c.fp c.po c.st c.un=(0,5,T)):=by show _=_;unfold ku;rw[hf]
  simp only[jK];have P:¬((j:Int) < 0):=by omega
  have z:=jN j
  clear hf;go_wp2_with fail;go_ret2;rw[k.out];exact⟨rfl,l,aC.of q.out⟩
theorem Qb {m g cap N:Nat} {low:Int} {T:Tb} {u u':World} {row:Option Nat} (h:RTab u m g cap low T) (a:u.grownBy u' row) (hr:∀k,row=some k->N<=k) (q:m < N) (i:g < N):RTab u' m g cap low T:=by
 have f:=a.block m (eF h.c0) (fun e=>by have:=hr m e.symm;omega);have j:=a.block g h.sl.lt (fun e=>by have:=hr g e.symm;omega);refine⟨?_,?_,?_,h.ne⟩
 ·rw[dV (w:=u) f];exact h.c0
 ·rw[dV (w:=u) f];exact h.c1
 ·obtain⟨cs,l,o,p⟩:=h.sl;exact⟨cs,l,by rw[j];exact o,p⟩
theorem Md (m g cap:Nat) (low:Int) (T:Tb) (a:Int) (n:Nat) (w:World) (t:RTab w m g cap low T) (O:gI T n) (hn:n<=100000000) :
  Calls prog 118 #[.pointer (some (m,0)),a] w fun e w'=>∃v,e=.returned v/\IJ w' v (qx T a 32)/\RTab w' m g cap low (jF T a 32)/\aC g w w':=by
 obtain⟨V,W,D,E,F⟩:=lu Tryz.RG;have X:=jH t;have Y:=jH O;have G:=jH (eF t.c0);have x:=jH t.sl.lt;clear t O;go_enter func118,ntmps118;go_wp2_with fail;go_loopw [5,6] (fun v t wr=>∃j:Nat,j<=32/\t=.int .i64 j/\wr.ownsRow w 3 1 v (qx T a j).length ((qx T a j).map tH)/\RTab wr m g cap low (jF T a j)/\aC g w wr) (fun _ t _=>32 - (intOf t).toNat)
 case atStart=>exact⟨0,by omega,rfl,ql _ _ _ _,by rw[Gt];exact X,aC.refl _ _⟩
 case round =>
  obtain⟨j,hj,rfl,h,l,y⟩:=hrel;have z:=jH h;have o:=jH l;have A:=jH y;have Z:=l.c1;clear h l y;by_cases p:j < 32
  ·obtain⟨c,H⟩:∃c,c=T j:=⟨_,rfl⟩;have I:Hid (ni a (T j)=((c.pr != 0) && decide (c.un<=a))):=by show _=_;rw[H];rfl
   have J:=o.sl.at' (i:=j) (k:=2) p om;have K:=o.sl.at' (i:=j) (k:=9) p om;rw[uJ,<- H]at J K;simp only[Ce.get]at J K;have i1:=jN j
   have i2:(j:Int) < 32:=by omega
   clear H;rcases h1:(c.pr != 0) with _ | _
   ·have B:Hid (ni a (T j)=false):=by show _=_;rw[I.out,h1];rfl
    go_wp2_with fail;go_roundw
    case rel=>exact⟨j+1,by omega,by go_num,by rw[Bc B.out];exact z,by rw[Ba B.out];exact o,A⟩
    case measure=>simp[intOf];omega
   by_cases P:c.un<=a
   ·have Q:Hid (ni a (T j)=true):=by show _=_;rw[I.out,h1,gG P];rfl
    go_wp2_with fail;refine jM (GX m g cap low (jF T a j) j (n+1) _ o (II Y a j) om) fun R ⟨S,c3⟩=>?_;have U:Hid (RTab R m g cap low (jF T a (j+1))):=by
     show RTab _ _ _ _ _ _;rw[<- Us p Q.out];exact S
    have L:=jH (KC z c3 x);have M:=jH (A.trans c3);have Zg:=Dj T a j;clear S c3 o z A J K Z;go_wp2_with (at_builtin;refine vw _ rfl _ _ 31 rfl w 3 V (.int .i64 0) 1 8 Tryz.underlying31 W D E F rfl dC u5 _ _ rfl (L.alloc _) ⟨R.heap.size,0,none⟩ 1 1 [tH j] rfl rfl ?c1 ?c2 ?c3 ?c4 ?c5 ?_)
    case c1 =>
     intro q u N;rw[qo,fE,nw];simpa [tH] using N
    case c2 =>
     intro u N;obtain rfl:=jA.1 N;rfl
    case c3=>unfold maxLen;omega
    case c4=>omega
    case c5=>have:=M.size;simp;omega
    intro v4 w4 C s _;have f:∀q,u5.ownBlock=some q->w.heap.size<=q:=fun q hq=>(L.lt _ hq).1;have O4:Hid (w4.ownsRow w 3 1 v4 (qx T a (j+1)).length ((qx T a (j+1)).map tH)):=by
     show w4.ownsRow _ _ _ _ _ _;rw[KD Q.out,jw,TL];exact C
    have T4:Hid (RTab w4 m g cap low (jF T a (j+1))):=Qb (U.below (aB _ _)) s f G x;have C4:Hid (aC g w w4):=Gu (M.then (aB _ _)) s f;clear C s f U L M;go_wp2_with fail;go_roundw
    case rel=>exact⟨j+1,by omega,by go_num,O4,T4,C4⟩
    case measure=>simp[intOf];omega
   ·have B:Hid (ni a (T j)=false):=by show _=_;rw[I.out,h1,gQ P];rfl
    go_wp2_with fail;go_roundw
    case rel=>exact⟨j+1,by omega,by go_num,by rw[Bc B.out];exact z,by rw[Ba B.out];exact o,A⟩
    case measure=>simp[intOf];omega
  ·obtain rfl:j=32:=by omega
   go_wp2_with fail;go_ret;exact⟨_,rfl,IJ.pF z,o,A⟩
end Go.Proofs.YtnogmjekhjldcaaGreatDoor
