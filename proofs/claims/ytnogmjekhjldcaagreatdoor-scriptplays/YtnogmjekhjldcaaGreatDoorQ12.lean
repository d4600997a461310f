/-
  What the claimed theorem reaches, part Q12.
-/
import Derived.Test.YtnogmjekhjldcaaGreatDoorQ11
namespace Go.Proofs.YtnogmjekhjldcaaGreatDoor
open Go.RowKit Go.Proofs.Tryz
set_option maxRecDepth 100000
set_option maxHeartbeats 8000000
section
variable {w w0:World} {s:Nat->Addr} {k:Bk} {x:No} {m n:Nat}
structure Gz (w:World) (s:Nat->Addr):Prop where
 c1:w.cell? (0,0)=some (.iface 359 (.pointer (some (s 1))))
 c2:w.cell? (7,0)=some (.iface 359 (.pointer (some (s 2))))
 c4:w.cell? (18,0)=some (.iface 359 (.pointer (some (s 4))))
 c5:w.cell? (5,0)=some (.iface 359 (.pointer (some (s 5))))
 c6:w.cell? (6,0)=some (.iface 359 (.pointer (some (s 6))))
 c9:w.cell? (15,0)=some (.iface 359 (.pointer (some (s 9))))
 c10:w.cell? (3,0)=some (.iface 359 (.pointer (some (s 10))))
theorem Gz.below {w':World} (S:Gz w s) (a:Below w w w'):Gz w' s:=⟨tk a S.c1,tk a S.c2,tk a S.c4,tk a S.c5,tk a S.c6,tk a S.c9,tk a S.c10⟩
theorem Gz.s3 (S:Gz w s):Se3 w s:=⟨S.c1,S.c2,S.c10⟩
theorem Gz.s45 (S:Gz w s):OX w s:=⟨S.c4,S.c5⟩
theorem Gz.s5 (S:Gz w s):Se5 w s:=⟨S.c1,S.c2,S.c5,S.c6,S.c9⟩
theorem Gz.sn (S:Gz w s):Bf w s:=⟨S.c1,S.c2⟩
theorem UL (h:Nd w0 w k x m n) (f:m<=100000000) (a:Int) :
  Calls prog 221 #[.pointer (some (k.tb,0)),a] w fun e w'=>(∃v,e=.returned v)/\Nd w0 w' k {x with T:=jF x.T a 32} (m+1) n/\ay k.all w w':=by
 refine(OY k.tb x.low x.T a m w h.tb h.vs f).mono ?_;rintro e w' ⟨v,rfl,_,_,t,c⟩;exact⟨⟨v,rfl⟩,h.DJ t (II h.vs a 32) (h.wt.exp a 32) c,ay.one c k.DI⟩
theorem Yr (h:Nd w0 w k x m n) (r:Bool) (hr:x.ro.rings=r) :
  Calls prog 222 #[.pointer (some (k.ro,0))] w fun e w'=>e=.returned (.bool r)/\Nd w0 w' k {x with ro:=x.ro.tick} m n/\ay k.all w w':=by
 subst hr;refine(Xg k.ro x.ro w h.ro h.rk).mono ?_;rintro e w' ⟨rfl,t,c⟩;exact⟨rfl,h.Pg t h.rk.tick c,ay.one c k.vI⟩
theorem Yt (S:Gz w0 s) (h:Nd w0 w k x m n) :
  Calls prog 259 #[.pointer (some (k.ro,0))] w fun e w'=>e=.returned (.tuple #[x.ro.jQ,aO s x.ro.oM])/\Nd w0 w' k x m n/\ay k.all w w':=by
 refine(next_any k.ro x.ro s w h.ro h.rk (S.below h.bl).s3).mono ?_;rintro e w' ⟨rfl,c⟩;exact⟨rfl,h.below c,ay.of c⟩
theorem UM (S:Gz w0 s) (h:Nd w0 w k x m n) (e:Int) :
  Calls prog 261 #[.pointer (some (k.ro,0)),e] w fun r w'=>r=.returned (aO s (x.ro.mM e))/\Nd w0 w' k {x with ro:=x.ro.claim e} m n/\ay k.all w w':=by
 refine(TR k.ro x.ro e s w h.ro h.rk (S.below h.bl).s3).mono ?_;rintro e w' ⟨rfl,t,c⟩;exact⟨rfl,h.Pg t (h.rk.claim _) c,ay.one c k.vI⟩
theorem acM (S:Gz w0 s) (h:Nd w0 w k x m n) (ep li:Int) :
  Calls prog 218 #[.pointer (some (k.ce,0)),ep,li] w fun e w'=>e=.returned (aO s (bn x.off x.y ep li).1)/\Nd w0 w' k {x with y:=(bn x.off x.y ep li).2.1,off:=(bn x.off x.y ep li).2.2} m n/\ay k.all w w':=by
 have a:=eF S.c6;have f:=h.g0 _ k.rQ;have i:=h.g0 _ k.DC;simp only at a;refine(J5 k.ce k.yb x.off x.y ep li s w h.ce h.yb (S.below h.bl).s5 h.ds.d3.1 om om h.lf).mono ?_;rintro e w' ⟨rfl,t,u,c⟩;exact⟨rfl,h.Yf t u (dL (yV _ _ _ _) h.lf) c,ay.two c k.rQ k.DC⟩
theorem acN (S:Gz w0 s) (h:Nd w0 w k x m n) (a:m<=1000000000) (c:Ce) (f:iR c.pr) (i:iR c.st) :
  Calls prog 292 #[.pointer (some (k.tb,0)),bI c] w fun e w'=>(∃v,e=.returned v)/\Nd w0 w' k {x with T:=(ku x.T c.pr c.ia c.ip c.fa c.fp c.po c.st c.un).2.2} (m+1) n/\ay k.all w w':=by
 refine(acD k.tb x.low x.T c m s w (S.below h.bl).s45 h.tb h.vs a).mono ?_;rintro e w' ⟨rfl,t,q⟩;exact⟨⟨_,rfl⟩,h.DJ t (h.vs.put _ _ _ _ _ _ _ _) (h.wt.put _ _ _ _ _ _ _ _ f i) q,ay.one q k.DI⟩
theorem Yu (h:Nd w0 w k x m n) (f:m<=1000000000) (i:n<=100000000) :
  Calls prog 263 #[.pointer (some (k.te,0))] w fun e w'=>(∃Z,e=.returned (.slice (some ⟨Z,0,none⟩) 8 8)/\w.heap.size<=Z/\dF w' Z x.T (Fz x.T x.D x.cu))/\Nd w0 w' k {x with D:=jD x.T x.D (Fz x.T x.D x.cu),cu:=nxC x.T x.D x.cu} m (n+8)/\ay k.all w w':=by
 refine(UC k.te k.tb k.mp n x.cu m x.low x.T x.D w h.te h.tb h.vs f i).mono ?_;rintro e w' ⟨Z,L,c',j,rfl,l,hr,o,a⟩;obtain⟨rfl,rfl⟩:=j.one (uM x.T x.D x.cu);exact⟨⟨Z,rfl,l,hr⟩,h.aeZ o a,ay.two a k.KU k.acI⟩
theorem UN (h:Nd w0 w k x m n) :
  Calls prog 291 #[.pointer (some (k.mi,0))] w fun e w'=>(∃v,e=.returned v/\w'.ownsRow w 115 8 v (jy x.mt 32).length (qp (jy x.mt 32)))/\Nd w0 w' k x m n/\ay k.all w w':=by
 refine(OQ k.mi x.ml x.mt w h.mi).mono ?_;rintro e w' ⟨a,c⟩;exact⟨a,h.below c,ay.of c⟩
theorem Nd.c0 (h:Nd w0 w k x m n):w.cell? (k.nd,0)=some (.pointer (some (k.ro,0))):=h.nd.c 0
theorem Nd.c1 (h:Nd w0 w k x m n):w.cell? (k.nd,1)=x.id:=h.nd.c 1
theorem Nd.c2 (h:Nd w0 w k x m n):w.cell? (k.nd,2)=x.life:=h.nd.c 2
theorem Nd.c3 (h:Nd w0 w k x m n):w.cell? (k.nd,3)=x.now:=h.nd.c 3
theorem Nd.c4 (h:Nd w0 w k x m n):w.cell? (k.nd,4)=some (.slice k.rp x.ru.length k.rc):=h.nd.c 4
theorem Nd.c5 (h:Nd w0 w k x m n):w.cell? (k.nd,5)=some (.pointer (some (k.ce,0))):=h.nd.c 5
theorem Nd.c6 (h:Nd w0 w k x m n):w.cell? (k.nd,6)=some (.pointer (some (k.te,0))):=h.nd.c 6
theorem Nd.c7 (h:Nd w0 w k x m n):w.cell? (k.nd,7)=some (.pointer (some (k.mi,0))):=h.nd.c 7
theorem Nd.t0 (h:Nd w0 w k x m n):w.cell? (k.te,0)=some (.pointer (some (k.tb,0))):=h.te.c0
theorem Nd.drew (h:Nd w0 w k x m n):Nd w0 w.drew k x m n:=h.below bD
end
section
variable {w0 w:World} {k:Bk} {x:No} {m n:Nat}
theorem DR (h:Nd w0 w k x m n) (a st:Int) (l:iR a) (o:iR st) (p:0<=x.now) (q:x.now<=1000000000) :
  Calls prog 239 #[.pointer (some (k.nd,0)),a,st] w fun e w'=>e=.returned (.int .i64 (x.now+stay a st))/\Below w w w':=by
 have s:=jH h;have y:Hid (∀u,Calls prog 276 #[a,st] u fun e w'=>e=.returned (.int .i64 (stay a st))/\Below u u w'):=fun u=>Yq a st u l.wf o.wf;have z:=Bg a st;generalize stay a st=t at *;have B:IntKind.i64.wrap (x.now+t)=x.now+t:=by rw[iI];omega
 clear h l o p q z;generalize f:x.now=now at *;have c3:=f ▸ s.c3;clear f;go_enter func239,ntmps239;have j:w.drew.cell? (k.nd,3)=now/\Below w w w.drew:=⟨c3,bD⟩;go_wp2_with fail;go_region_held3 (fun w'=>w'.cell? (k.nd,3)=now/\Below w w w') (first | assumption | exact⟨tk i j.1,t2 j.2 i⟩)
  (first | (go_at_call 276;refine jM (y _) fun C i=>?_))
 have A:=jH (t2 j.2 i);go_wp2_with fail;go_ret;exact⟨rfl,A⟩
def Wx (w:World) (v:Value) (L:List Ce) (a:List Nat):Prop:=∃p cap,v=.slice p L.length cap/\∀(i:Nat) c,L[i]? = some c->∃g,p=some ⟨g,0,none⟩/\(¬g ∈ a)/\∀(j:Nat) u,(JA c)[j]? = some u->w.cell? ⟨g,i * 8+j,none⟩=some u
theorem Wx.pF {base:Nat} {v:Value} {L:List Ce} {bs:List Nat} (h:w.ownsRow base 115 8 v L.length (qp L)) (o:∀b ∈ bs,b < base):Wx w v L bs:=by
 have a:=h.lt;obtain⟨y,p⟩:=h;rcases p with⟨rfl,h0⟩ | ⟨g,cap,cur,rfl,q1,hh,q2,q3,q4,ht⟩
 ·refine⟨none,0,by rw[h0],fun j x q=>?_⟩;obtain⟨a,_⟩:=List.getElem?_eq_some_iff.1 q;omega
 ·refine⟨some (g,0),cap,rfl,fun i c e=>⟨g,rfl,fun s=>?_,fun j u f=>?_⟩⟩
  ·have:=o g s;have:=(a g rfl).1;omega
  ·have l:=RD L i j c u e f;have z:j < 8:=(List.getElem?_eq_some_iff.1 f).1;have A:=(List.getElem?_eq_some_iff.1 e).1;rw[<- ht,kG,aj om,sQ]at l;rw[aP w g _ _ _ _ hh];exact l
theorem Wx.dO {w':World} {v:Value} {L:List Ce} {bs:List Nat} (h:Wx w v L bs) (c:ay bs w w'):Wx w' v L bs:=by
 obtain⟨p,cap,e,f⟩:=h;refine⟨p,cap,e,fun i c' l=>?_⟩;obtain⟨g,o,a,q⟩:=f i c' l;exact⟨g,o,a,fun j u s=>c.keeps a (q j u s)⟩
theorem FlB.un {Z:Nat} {c:Ce} (h:FlB w Z c) (u:Int):FlB (w.setCell (Z,7) u) Z {c with un:=u} :=
 ⟨by rw[lT _ _ _ _ sM];exact h.c0,by rw[lT _ _ _ _ sM];exact h.c1,by rw[lT _ _ _ _ sM];exact h.c2,by rw[lT _ _ _ _ sM];exact h.c3,by rw[lT _ _ _ _ sM];exact h.c4,by rw[lT _ _ _ _ sM];exact h.c5,by rw[lT _ _ _ _ sM];exact h.c6,BP _ _ _ (u:=.int .i64 c.un) h.c7⟩
theorem Nd.lt (h:Nd w0 w k x m n):∀b ∈ k.all,b < w.heap.size:=by
 intro b a;simp only[Bk.all,dI,eY,fA]at a;rcases a with rfl | rfl | rfl | rfl | rfl | rfl | rfl | rfl
 ·exact h.nd.lt
 ·exact h.ro.lt
 ·exact h.ce.lt
 ·exact h.yb.lt
 ·exact eF h.te.c0
 ·exact h.tb.lt
 ·exact h.te.m.lt
 ·exact h.mi.lt
theorem Nd.more {m':Nat} (h:Nd w0 w k x m n) (a:m<=m'):Nd w0 w k x m' n:={h with vs:=h.vs.more a}
theorem Nd.eqT {T a:Tb} (h:Nd w0 w k {x with T:=T} m n) (e:a=T):Nd w0 w k {x with T:=a} m n:=by rw[e];exact h
theorem Yv {s:Nat->Addr} (S:Gz w0 s) (h:Nd w0 w k x m n) (h0:0<=x.now) (D:x.now<=1000000000) (B:m<=500000000) :
  Calls prog 260 #[.pointer (some (k.nd,0))] w fun e w'=>e=.returned (.tuple #[])/\Nd w0 w' k {x with T:=Aa x.now x.T (jy x.mt 32)} (m+32) n/\ay k.all w w':=by
 have HS:=jH S;have K:=jH h;have M:Hid (0<=x.now/\x.now<=1000000000/\m<=500000000):=⟨h0,D,B⟩;have c7:=h.c7;clear S h h0 D B;go_enter func260,ntmps260;go_wp2_with fail;refine(UN K).mono ?_;rintro e w1 ⟨⟨v,rfl,ho⟩,D,k1⟩;have N:=jH (Wx.pF ho (fun b hb=>K.lt b hb));have N1:=jH D;have K1:=jH k1;have HL:Hid (∀c ∈ jy x.mt 32,iR c.pr/\iR c.st):=fun c C=>by
  obtain⟨j,hj,rfl⟩:=Bh C;exact K.wm j hj
 have z:Hid ((jy x.mt 32).length<=32):=mO _ _;clear ho D k1 c7;generalize E:jy x.mt 32=L at *;have O:=jH E;clear E;obtain⟨p,cap,rfl,_⟩:=N.out;go_wp2_with fail;go_loopw [3,10] (fun _ t wr=>∃i:Nat,i<=L.length/\t=.int .i64 i/\Nd w0 wr k {x with T:=Aa x.now x.T (L.take i)} (m+i) n/\ay k.all w wr/\Wx wr (.slice p L.length cap) L k.all) (fun _ t _=>L.length - (intOf t).toNat)
 case atStart=>exact⟨0,by omega,rfl,N1,K1,N⟩
 case round =>
  obtain⟨i,hi,rfl,hn,hk,hf⟩:=hrel;have F:Hid (Nd w0 wr k {x with T:=Aa x.now x.T (L.take i)} (m+i) n):=hn;have KR:=jH hk;have FR:=jH hf;clear hn hk hf N1 K1 N;by_cases P:i < L.length
  ·as_aux_lemma =>
   obtain⟨p',Zg,hv,G⟩:=FR.out;injection hv with hp1 hp2 hp3;subst hp1;obtain⟨c,C⟩:∃c,c=L[i]:=⟨_,rfl⟩;have A:Hid (L[i]? = some c):=by show _=_;rw[C];exact fD P
   obtain⟨g,Q,Zh,a⟩:=G i c A;have H:Hid (iR c.pr/\iR c.st):=HL.out c (kW A);clear C G hp2 hp3;subst Q;have d0:wr.cell? (g,i * 8)=c.pr:=a 0 _ rfl;have d1:=a 1 _ rfl;have d2:=a 2 _ rfl;have d3:=a 3 _ rfl;have d4:=a 4 _ rfl;have d5:=a 5 _ rfl;have d6:=a 6 _ rfl;have d7:=a 7 _ rfl;clear a;have i0:=jN i
   have i1:(i:Int) < (L.length:Int):=by omega
   go_wp2_with fail;clear d0 d1 d2 d3 d4 d5 d6 d7;have R:Hid (Below wr wr (wr.alloc (.cells #[c.pr,c.ia,c.ip,c.fa,c.fp,c.po,c.st,c.un] 115))):=aB _ _;have U:=jH (xP wr c);have Z2:Hid ((wr.alloc (.cells #[c.pr,c.ia,c.ip,c.fa,c.fp,c.po,c.st,c.un] 115)).frozen? (wr.heap.size,7)=false):=jk _ _ _ _ _ (dh wr _);generalize wr.alloc (.cells #[c.pr,c.ia,c.ip,c.fa,c.fp,c.po,c.st,c.un] 115)=w2 at *;refine(DR (F.below R) c.pr c.st H.1 H.2 M.1 M.2.1).mono ?_;rintro e I ⟨rfl,f⟩;have B3:=jH (t2 R f);have J:=jH (U.below f);have V:Hid (I.frozen? (wr.heap.size,7)=false):=by show _=_;rw[f.frozen (p:=⟨wr.heap.size,7,none⟩) (eF U.c7)];exact Z2
   clear f R U Z2;have HU:Hid (Aa x.now x.T (L.take (i+1))=(ku (Aa x.now x.T (L.take i)) c.pr c.ia c.ip c.fa c.fp c.po c.st (x.now+stay c.pr c.st)).2.2):=by
    show _=_;rw[xE,A.out];exact Dz _ _ _ _
   have HG:Hid (wr.heap.size<=wr.heap.size):=bJ _;generalize hq:wr.heap.size=q at J V HG ⊢;have q7:=J.c7;have f7:=V.out;have W:Hid (¬q ∈ k.all):=fun B=>by have:=F.lt _ B;omega
   generalize x.now+stay c.pr c.st=un at *;go_upto_region 4 with fail
   go_wp2_with fail;have X:Hid (Below wr wr (I.setCell (q,7) un)):=aC.below B3 (aC.set q 7 I _) om;have l:=jH (J.un un);clear q7 f7 J B3 V;generalize I.setCell (q,7) un=w4 at *;have Y:=jH (F.below X);have o:w4.drew.cell? (k.nd,6)=some (.pointer (some (k.te,0)))/\w4.drew.cell? (k.te,0)=some (.pointer (some (k.tb,0)))/\w4.drew.cell? (q,0)=c.pr/\w4.drew.cell? (q,1)=c.ia/\w4.drew.cell? (q,2)=c.ip/\w4.drew.cell? (q,3)=c.fa/\w4.drew.cell? (q,4)=c.fp/\w4.drew.cell? (q,5)=c.po/\w4.drew.cell? (q,6)=c.st/\w4.drew.cell? (q,7)=un:=⟨Y.c6,Y.t0,l.c0,l.c1,l.c2,l.c3,l.c4,l.c5,l.c6,l.c7⟩;go_region_held3 (fun w'=>w'.cell? (k.nd,6)=some (.pointer (some (k.te,0)))/\w'.cell? (k.te,0)=some (.pointer (some (k.tb,0)))/\w'.cell? (q,0)=c.pr/\w'.cell? (q,1)=c.ia/\w'.cell? (q,2)=c.ip/\w'.cell? (q,3)=c.fa/\w'.cell? (q,4)=c.fp/\w'.cell? (q,5)=c.po/\w'.cell? (q,6)=c.st/\w'.cell? (q,7)=un)
    (first | assumption | exact⟨Z.c6,Z.t0,y _ _ o.2.2.1,y _ _ o.2.2.2.1,y _ _ o.2.2.2.2.1,y _ _ o.2.2.2.2.2.1,y _ _ o.2.2.2.2.2.2.1,y _ _ o.2.2.2.2.2.2.2.1,y _ _ o.2.2.2.2.2.2.2.2.1,y _ _ o.2.2.2.2.2.2.2.2.2⟩)
    (first | (go_at_call 292;refine(acN HS Y.drew (by have:=M.out;have:=z.out;omega) {c with un:=un} H.1 H.2).mono ?_;rintro e w5 ⟨⟨v5,rfl⟩,n5,k5⟩;have Z:=jH (n5.eqT HU.out);have K5:=jH ((ay.of bD).trans k5);have y:Hid (∀(j:Nat) (u:Value),w4.drew.cell? (q,j)=some u->w5.cell? (q,j)=some u):=(fun j u C=>k5.keeps (fun B=>W.out B) C);clear n5 k5))
   have F5:=jH ((FR.dO (ay.of X.out)).dO K5);have X5:=jH ((KR.then X).trans K5);have Zi:=z.out;go_wp2_with fail;exact⟨⟨i+1,by omega,by go_num,Z,X5,F5⟩,by simp[intOf];omega⟩
  ·obtain rfl:i=L.length:=by omega
   go_wp2_with fail;go_end0
   rw[xH]at F;exact⟨rfl,(F.more (m':=m+32) (by have:=z.out;omega)).eqT (by rw[O.out]),KR⟩
theorem Ro.IW {r:Ro} (f:r.ac=false) (a:r.oM=0):r.mM r.jQ=0:=by
 have e:¬1073741824 < r.nx:=by
  intro h;unfold Ro.oM at a;rw[aj h]at a;cases a
 unfold Ro.mM Ro.jQ;rw[f,ak sM,ak e,ak e,aj rfl]
theorem UO {s:Nat->Addr} (S:Gz w0 s) (h:Nd w0 w k x m n) (D:x.ro.ac=false) (E:0<=x.now) (F:x.now<=1000000000) (G:m<=500000000) :
  Calls prog 223 #[.pointer (some (k.nd,0))] w fun e w'=>e=.returned (aO s x.mM)/\Nd w0 w' k x.rP (m+32) n/\ay k.all w w':=by
 have q:=jH S;have Q:=jH h;have A:Hid (0<=x.now/\x.now<=1000000000/\m<=500000000):=⟨E,F,G⟩;have R:=jH D;have c0:=h.c0;clear S h E F G D;go_enter func223,ntmps223;go_wp2_with fail;refine jM (Yt q Q) fun H ⟨I,k1⟩=>?_;have u:=jH I;have J:=jH k1;clear I k1 c0;by_cases f:x.ro.oM=0
 ·have z:Hid (x.mM=x.cp.1):=by show _=_;unfold No.mM;rw[aj f]
  have U:=jH (Ro.IW R f);have K:=jH f;rw[f];clear f;simp only[aO];go_upto_region 4 with fail
  go_wp2_with fail;have V:H.drew.cell? (k.nd,5)=some (.pointer (some (k.ce,0)))/\H.drew.cell? (k.nd,2)=x.life:=⟨u.c5,u.c2⟩;go_region_held3 (fun w'=>w'.cell? (k.nd,5)=some (.pointer (some (k.ce,0)))/\w'.cell? (k.nd,2)=x.life)
   (first | assumption | exact⟨o.c5,o.c2⟩)
   (first | (go_at_call 218;refine jM (acM q u.drew x.ro.jQ x.life) fun w2 ⟨L,k2⟩=>?_;have o:=jH L;have B:=jH ((J.then bD).trans k2);clear L k2))
  clear V;have M:Hid (aO s (bn x.off x.y x.ro.jQ x.life).1=aO s x.cp.1):=rfl;rw[show(bn x.off x.y x.ro.jQ x.life).1=x.cp.1 from rfl];by_cases j:x.cp.1=0
  ·have p:Hid (x.rP={x with y:=x.cp.2.1,off:=x.cp.2.2,T:=Aa x.now x.T (jy x.mt 32),ro:=x.ro.claim x.ro.jQ}):=by show _=_;unfold No.rP;rw[aj K.out,aj j]
   have i:Hid (x.mM=0):=by show _=_;rw[z.out,j]
   rw[j];clear j M;simp only[aO];go_wp2_with fail;refine jM (Yv q o A.1 A.2.1 A.2.2) fun Y ⟨C,k3⟩=>?_;have N:=jH C;have O:=jH (B.trans k3);have c0:=C.c0;clear C k3 o B;go_wp2_with fail;refine jM (UM q N x.ro.jQ) fun w4 ⟨P,k4⟩=>?_;have W:Hid (Nd w0 w4 k x.rP (m+32) n):=by show Nd _ _ _ _ _ _;rw[p.out];exact P
   have X:=jH (O.trans k4);clear P k4 N O c0;rw[show aO s (x.ro.mM x.ro.jQ)=.nilIface by rw[U.out];rfl];go_wp2_with fail;go_ret;exact⟨by rw[i.out];rfl,W,X⟩
  ·have p:Hid (x.rP={x with y:=x.cp.2.1,off:=x.cp.2.2}):=by show _=_;unfold No.rP;rw[aj K.out,ak j]
   obtain⟨l,a⟩:∃l,x.cp.1=l+1:=⟨x.cp.1 - 1,by omega⟩;rw[a];have i:Hid (x.mM=l+1):=by show _=_;rw[z.out,a]
   clear j M a;simp only[aO];go_wp2_with fail;go_ret;exact⟨by rw[i.out];rfl,by rw[p.out];exact o.more om,B⟩
 ·have z:Hid (x.mM=0):=by show _=_;unfold No.mM;rw[ak f]
  have p:Hid (x.rP=x):=by show _=_;unfold No.rP;rw[ak f]
  obtain⟨l,a⟩:∃l,x.ro.oM=l+1:=⟨x.ro.oM - 1,by omega⟩;rw[a];clear f a;simp only[aO];go_wp2_with fail;go_ret;exact⟨by rw[z.out];rfl,by rw[p.out];exact u.more om,J⟩
end
section
variable {w w':World} {s:Nat->Addr} {Q:Nat} {c:Ce}
structure jm (w:World) (s:Nat->Addr):Prop where
 c1:w.cell? (0,0)=some (.iface 359 (.pointer (some (s 1))))
 c2:w.cell? (7,0)=some (.iface 359 (.pointer (some (s 2))))
 c3:w.cell? (4,0)=some (.iface 359 (.pointer (some (s 3))))
 c4:w.cell? (18,0)=some (.iface 359 (.pointer (some (s 4))))
 c5:w.cell? (5,0)=some (.iface 359 (.pointer (some (s 5))))
 c6:w.cell? (6,0)=some (.iface 359 (.pointer (some (s 6))))
 c7:w.cell? (16,0)=some (.iface 359 (.pointer (some (s 7))))
 c8:w.cell? (10,0)=some (.iface 359 (.pointer (some (s 8))))
 c9:w.cell? (15,0)=some (.iface 359 (.pointer (some (s 9))))
 c10:w.cell? (3,0)=some (.iface 359 (.pointer (some (s 10))))
theorem jm.below (S:jm w s) (a:Below w w w'):jm w' s:=⟨tk a S.c1,tk a S.c2,tk a S.c3,tk a S.c4,tk a S.c5,tk a S.c6,tk a S.c7,tk a S.c8,tk a S.c9,tk a S.c10⟩
theorem jm.n (S:jm w s):Gz w s:=⟨S.c1,S.c2,S.c4,S.c5,S.c6,S.c9,S.c10⟩
theorem jm.s4 (S:jm w s):Wv w s:=⟨S.c1,S.c3,S.c4,S.c5⟩
theorem acO (s:Nat->Addr) (n:Nat):nH s n=aO s n:=by cases n <;> rfl
structure Pk where
 pr:Int
 a1:Int
 p1:Int
 a2:Int
 p2:Int
 fl:Int
abbrev Pk.v (p:Pk):Value:=.agg #[p.pr,p.a1,p.p1,p.a2,p.p2,p.fl]
def Pk.err (p:Pk):Nat:=dB p.pr p.a1 p.p1 p.a2 p.p2 p.fl
def No.chk (x:No) (p:Pk):Nat:=if p.err=0 then (if x.ro.ac then 0 else 9) else p.err
theorem KZ {w0:World} {k:Bk} {x:No} {m n:Nat} (S:jm w0 s) (h:Nd w0 w k x m n) (p:Pk) :
  Calls prog 193 #[.pointer (some (k.nd,0)),p.v] w fun e w'=>e=.returned (aO s (x.chk p))/\Below w w w':=by
 have y:Hid (jm w0 s):=S;have z:Hid (Nd w0 w k x m n):=h;clear S h;go_enter func193,ntmps193;go_wp2_with fail;have q:Hid (Below w w (w.alloc (.cells #[p.pr,p.a1,p.p1,p.a2,p.p2,p.fl] 35))):=aB _ _;generalize w.alloc (.cells #[p.pr,p.a1,p.p1,p.a2,p.p2,p.fl] 35)=w1 at *;have A:Hid (nH s (dB p.pr p.a1 p.p1 p.a2 p.p2 p.fl)=aO s p.err):=acO s _;refine(check_any p.pr p.a1 p.p1 p.a2 p.p2 p.fl s w1 (y.below (t2 z.bl q)).n.sn).mono ?_;rintro e w2 ⟨rfl,i⟩;have l:Hid (Below w w w2):=t2 q i;have u:Hid (Nd w0 w2 k x m n):=z.below l;have D:Hid (jm w2 s):=y.below u.bl;rw[A.out];clear i A q;by_cases a:p.err=0
 ·have c0:=u.c0;rw[a];simp only[aO];go_wp2_with fail;refine(dR k.ro x.ro w2 u.ro).mono ?_;rintro e E ⟨rfl,B⟩;obtain rfl:=B.symm;clear B
  cases o:x.ro.ac
  ·have f:Hid (x.chk p=9):=by show _=_;unfold No.chk;rw[aj a,o];rfl
   have F:=D.c8;clear a o;go_wp2_with fail;go_ret;exact⟨by rw[f.out];rfl,l⟩
  ·have f:Hid (x.chk p=0):=by show _=_;unfold No.chk;rw[aj a,o];rfl
   clear a o;go_wp2_with fail;go_ret;exact⟨by rw[f.out];rfl,l⟩
 ·have f:Hid (x.chk p=p.err):=by show _=_;unfold No.chk;rw[ak a]
  obtain⟨C,j⟩:∃C,p.err=C+1:=⟨p.err - 1,by omega⟩;rw[j]at f ⊢;clear a j;simp only[aO];go_wp2_with fail;go_ret;exact⟨by rw[f.out];rfl,l⟩
def kR (w:World) (Q:Nat) (c:Ce):Prop:=w.heap[Q]? = some (.cells #[c.pr,c.ia,c.ip,c.fa,c.fp,c.po,c.st,c.un] 115 (0,0))
theorem kR.lt (h:kR w Q c):Q < w.heap.size:=by
 rcases dX Q w with a | a
 ·exact a
 ·unfold kR at h;rw[eP a]at h;cases h
theorem kR.below (h:kR w Q c) (a:Below w w w'):kR w' Q c:=by unfold kR;rw[a.block Q h.lt];exact h
theorem kR.gU {l:List Nat} (h:kR w Q c) (a:ay l w w') (e:¬Q ∈ l):kR w' Q c:=by unfold kR;rw[a.block Q h.lt e];exact h
theorem kR.b (h:kR w Q c):FlB w Q c:=⟨(aP w _ _ _ _ _ h).trans rfl,(aP w _ _ _ _ _ h).trans rfl,(aP w _ _ _ _ _ h).trans rfl,(aP w _ _ _ _ _ h).trans rfl,(aP w _ _ _ _ _ h).trans rfl,(aP w _ _ _ _ _ h).trans rfl,(aP w _ _ _ _ _ h).trans rfl,(aP w _ _ _ _ _ h).trans rfl⟩
theorem kR.fr (h:kR w Q c) (i:Nat):w.frozen? (Q,i)=false:=jk w _ i _ _ h
theorem kR.new (w:World) (c:Ce):kR (w.alloc (.cells #[c.pr,c.ia,c.ip,c.fa,c.fp,c.po,c.st,c.un] 115)) w c:=dh w _
theorem kR.zero (w:World):kR (w.alloc (.cells #[.int .i64 0,.int .i64 0,.int .i64 0,.int .i64 0,.int .i64 0,.int .i64 0,.int .i64 0,.int .i64 0] 115)) w vG:=dh w _
theorem gV (h:kR w Q c) (d:Ce) :
  ∃w',(Instr.storeAt 115 (.pointer (some (Q,0))) (.agg #[d.pr,d.ia,d.ip,d.fa,d.fp,d.po,d.st,d.un])).run prog w=.ok () w'/\kR w' Q d/\aC Q w w':=by
 have f:(sizeOf 115).run prog w=.ok 8 w:=by kernel_rfl
 have a:=Ii prog Q 0 115 (JA d) 0 _ w h (by simp[JA]) (fun u e=>by
  simp only[JA,dI,eY,fA]at e;rcases e with rfl | rfl | rfl | rfl | rfl | rfl | rfl | rfl <;> rfl)
 refine⟨w.setRow Q #[d.pr,d.ia,d.ip,d.fa,d.fp,d.po,d.st,d.un],?_,Cc w Q _ _ _ _ h,pW _ _ _⟩;simp only[Instr.storeAt,Instr.sureAddr,nM,qX,pR,storeVar,f,Value.cells];simp[JA]at a ⊢;exact a
theorem RQ {w0:World} {k:Bk} {x:No} {m n:Nat} (h:Nd w0 w k x m n) (j:Nat) (A:j < 32) :
  Calls prog 235 #[.pointer (some (k.nd,0)),j] w fun e w'=>e=.returned (bI (x.T j))/\Below w w w':=by
 have B:Hid (Nd w0 w k x m n):=h;have c6:(w.alloc (.cells #[.int .i64 0,.int .i64 0,.int .i64 0,.int .i64 0,.int .i64 0,.int .i64 0,.int .i64 0,.int .i64 0] 115)).cell? (k.nd,6)=some (.pointer (some (k.te,0))):=(h.below (aB _ _)).c6;have t0:(w.alloc (.cells #[.int .i64 0,.int .i64 0,.int .i64 0,.int .i64 0,.int .i64 0,.int .i64 0,.int .i64 0,.int .i64 0] 115)).cell? (k.te,0)=some (.pointer (some (k.tb,0))):=(h.below (aB _ _)).t0;clear h;go_enter func235,ntmps235;go_wp2_with fail;clear c6 t0;have y:=kR.zero w;have o:Hid (Below w w (w.alloc (.cells #[.int .i64 0,.int .i64 0,.int .i64 0,.int .i64 0,.int .i64 0,.int .i64 0,.int .i64 0,.int .i64 0] 115))):=aB _ _;generalize w.alloc (.cells #[.int .i64 0,.int .i64 0,.int .i64 0,.int .i64 0,.int .i64 0,.int .i64 0,.int .i64 0,.int .i64 0] 115)=w1 at *;refine(XT k.tb x.low x.T j w1 (B.below o).tb A).mono ?_;rintro e w2 ⟨rfl,a⟩;have C:Hid (kR w2 w vG):=y.below a;have D:Hid (Below w w w2):=t2 o a;clear a y o;obtain⟨c,p⟩:∃c,x.T j=c:=⟨_,rfl⟩;have u:Hid (x.T j=c):=p;rw[p];clear p;simp only[cellV];obtain⟨z,f,i,l⟩:=gV (C.below (aB w2 (.cells #[j,c.ve,c.pr,c.ia,c.ip,c.fa,c.fp,c.po,c.st,c.un] 117))) c;have E:Hid (Below w w z):=aC.below (t2 D (aB _ _)) l nL;have F:Hid (kR z w c):=i;clear i l;go_wp2_with (refine aA rfl 115 _ _ rfl _ _ _ rfl rfl f ?_)
 clear f;have q:=F.b;go_wp2_with fail;exact bf (v:=bI c) (by simp[results,results235,go_sem,q.c0,q.c1,q.c2,q.c3,q.c4,q.c5,q.c6,q.c7,bI]) rfl ⟨by rw[u.out],E⟩
end
section
variable {w0 w:World} {k:Bk} {m n:Nat} {s:Nat->Addr}
def No.nst (x:No) (j:Nat) (a:Int) (ou:Bool):Int:=xR (x.T j).pr (x.T j).st a ou
def No.mP (x:No) (j:Nat) (a:Int) (ou:Bool):No :=
 if wO (x.T j).pr a then {x with T:=iZ x.T j} else {x with T:=nO x.T j (x.nst j a ou) (x.now+stay (x.T j).pr (x.nst j a ou))}
theorem ae3 {x:No} {j:Nat} {a:Int} {ou:Bool} (h:iR (x.T j).st):iR (x.nst j a ou):=by
 unfold No.nst xR;repeat' split
 all_goals first | exact h | exact iR.small om om
theorem acP {x:No} (S:jm w0 s) (h:Nd w0 w k x m n) (a:m<=1000000000) (j st un:Int) (f:iR st) :
  Calls prog 238 #[.pointer (some (k.tb,0)),j,st,un] w fun e w'=>(∃v,e=.returned v)/\Nd w0 w' k {x with T:=nO x.T j st un} (m+1) n/\ay k.all w w':=by
 refine jM (set_any k.tb x.low x.T j st un m s w (S.below h.bl).s4 h.tb h.vs a) fun w' ⟨t,q⟩=>?_;exact⟨⟨_,rfl⟩,h.DJ t (h.vs.set _ _ _) (h.wt.set _ _ _ f) q,ay.one q k.DI⟩
theorem Yw {x:No} (S:jm w0 s) (h:Nd w0 w k x m n) (a:m<=1000000000) (j:Int) :
  Calls prog 237 #[.pointer (some (k.tb,0)),j] w fun e w'=>(∃v,e=.returned v)/\Nd w0 w' k {x with T:=iZ x.T j} (m+1) n/\ay k.all w w':=by
 refine jM (XR k.tb x.low x.T j m s w (S.below h.bl).s4 h.tb h.vs a) fun w' ⟨t,q⟩=>?_;exact⟨⟨_,rfl⟩,h.DJ t (h.vs.drop _) (h.wt.drop _) q,ay.one q k.DI⟩
theorem Nd.fresh {u u':World} {x y:No} {m' A Q:Nat} (H:Nd w0 w k x m n) (h:Nd w0 u k y m' A) (D:y.ru=x.ru) (c:ay k.all w u) (g:aC Q u u') (hr:w.heap.size<=Q):Nd w0 u' k y m' A/\ay k.all w u':=by
 have B:ay [Q] u u':=ay.one g sM;have j:∀b ∈ [Q],w.heap.size<=b:=fun b f=>by simp at f;omega
 refine⟨h.kept B (fun b f l=>?_) (fun E a e l=>?_) (fun b f=>dL H.bl.size (j b f)),?_⟩
 ·have:=j b l;have:=H.lt b f;omega
 ·have:=j _ l;have F:a.block < w.heap.size:=by
   have p:x.ru≠[]:=by rw[<- D];exact E
   obtain⟨r,z⟩:=JC _ p;obtain⟨i,G⟩:=Aq z;obtain⟨b,o,C,I,_⟩:=H.ru i r G;rw[e]at C
   cases C
   have q:=eF I;exact q
  omega
 ·have J:ay (k.all++[Q]) w u:=c.mono (fun b f=>Or.inl (TD _ f));have K:ay (k.all++[Q]) u u':=B.mono (fun b f=>Or.inl (abY _ f));exact(J.trans K).mono (fun b f=>by rcases lU.1 f with q | q;exact Or.inl q;exact Or.inr (j b q))
theorem RV {x:No} (S:jm w0 s) (h:Nd w0 w k x m n) (E:m<=1000000000) (h0:0<=x.now) (h1:x.now<=1000000000) (j:Nat) (hj:j < 32) (i:Int) (ou:Bool) :
  Calls prog 196 #[.pointer (some (k.nd,0)),j,i,.bool ou] w fun e w'=>e=.returned (bI (x.T j))/\Nd w0 w' k (x.mP j i ou) (m+1) n/\ay k.all w w':=by
 have HS:=jH S;have A:=jH h;have N:Hid (0<=x.now/\x.now<=1000000000/\m<=1000000000):=⟨h0,h1,E⟩;have HJ:=jH hj;clear S h h0 h1 E hj;go_enter func196,ntmps196;go_wp2_with fail;have Z1:=jH (kR.zero w);have R:Hid (Below w w (w.alloc (.cells #[.int .i64 0,.int .i64 0,.int .i64 0,.int .i64 0,.int .i64 0,.int .i64 0,.int .i64 0,.int .i64 0] 115))):=aB _ _;generalize w.alloc (.cells #[.int .i64 0,.int .i64 0,.int .i64 0,.int .i64 0,.int .i64 0,.int .i64 0,.int .i64 0,.int .i64 0] 115)=w1 at *;refine jM (RQ (A.below R) j HJ) fun w2 B=>?_;have Z2:=jH (Z1.below B);have U:=jH (t2 R B);clear B Z1 R;obtain⟨c,F⟩:∃c,x.T j=c:=⟨_,rfl⟩;have z:=jH F;have HI:=jH (F ▸ A.wt j HJ);have O:Hid (wO (x.T j).pr i=wO c.pr i/\x.nst j i ou=xR c.pr c.st i ou):=by rw[F];exact⟨rfl,by unfold No.nst;rw[F]⟩
 rw[F];clear F;simp only[bI];go_wp2_with fail;have Z3:Hid (kR (w2.alloc (.cells #[c.pr,c.ia,c.ip,c.fa,c.fp,c.po,c.st,c.un] 115)) w vG):=Z2.below (aB _ _);have V:=jH (kR.new w2 c);have W:Hid (Below w w (w2.alloc (.cells #[c.pr,c.ia,c.ip,c.fa,c.fp,c.po,c.st,c.un] 115))):=t2 U (aB _ _);have LQ:=jH U.size;generalize w2.alloc (.cells #[c.pr,c.ia,c.ip,c.fa,c.fp,c.po,c.st,c.un] 115)=w3 at *;generalize w2.heap.size=Q at *;clear Z2 U;have C:=jH (A.below W);refine jM (Ph c.pr c.st i ou w3) fun w4 hw=>?_;obtain rfl:=hw.symm;clear hw;obtain⟨st',f⟩:∃st',xR c.pr c.st i ou=st':=⟨_,rfl⟩;have G:Hid (iR st'):=by
  show iR st';rw[<- f,<- O.2];exact ae3 (by rw[z.out];exact HI.2)
 have X:=jH (O.2.trans f);have D:Hid (¬Q ∈ k.all):=fun E=>by have:=A.lt _ E;have:=LQ.out;omega
 have H:Hid (¬w.heap.size ∈ k.all):=fun E=>by have:=A.lt _ E;omega
 rw[f];clear f
 cases P:wO c.pr i
 ·have Y:Hid (x.mP j i ou={x with T:=nO x.T j st' (x.now+stay c.pr st')}):=by show _=_;unfold No.mP;rw[O.1,P,X.out,z.out];rfl
  clear P;go_upto_region 5 with fail
  go_wp2_with fail;have Z:Hid (∀u,Nd w0 u k x m n->Calls prog 239 #[.pointer (some (k.nd,0)),c.pr,st'] u fun e w'=>e=.returned (.int .i64 (x.now+stay c.pr st'))/\Below u u w'):=fun u hu=>DR hu c.pr st' HI.1 G N.1 N.2.1;have Zg:Hid (∀u un,Nd w0 u k x m n->Calls prog 238 #[.pointer (some (k.tb,0)),j,st',.int .i64 un] u fun e w'=>(∃v,e=.returned v)/\Nd w0 w' k {x with T:=nO x.T j st' un} (m+1) n/\ay k.all u w'):=fun u un hu=>acP HS hu N.2.2 j st' un G;generalize x.now+stay c.pr st'=un at *;have I:w3.drew.cell? (k.nd,6)=some (.pointer (some (k.te,0)))/\w3.drew.cell? (k.te,0)=some (.pointer (some (k.tb,0)))/\w3.drew.cell? (Q,0)=c.pr:=⟨C.c6,C.t0,V.b.c0⟩;go_region_held3 (fun w'=>w'.cell? (k.nd,6)=some (.pointer (some (k.te,0)))/\w'.cell? (k.te,0)=some (.pointer (some (k.tb,0)))/\w'.cell? (Q,0)=c.pr)
   (first | assumption | exact⟨tk a I.1,tk a I.2.1,tk a I.2.2⟩ | exact⟨J.c6,J.t0,K.keeps D (tk a I.2.2)⟩)
   (first
    | (go_at_call 239;refine jM (Z _ C.drew) fun w5 a=>?_)
    | (go_at_call 238;refine(Zg _ un (C.drew.below a)).mono ?_;rintro e w6 ⟨⟨v6,rfl⟩,L,k6⟩;have J:=jH L;have K:=jH k6;clear L k6))
  have Z6:=jH (((Z3.below bD).below a).gU K H);have Y6:=jH (((V.below bD).below a).gU K D);have X6:=jH ((ay.of (t2 (t2 W bD) a)).trans K);clear I a K;obtain⟨w7,l,o,p⟩:=gV Z6 c;obtain⟨M,k7⟩:=A.fresh J rfl X6 p nL;have N7:=jH M;have K7:=jH k7;have Z7:=jH o;have y:=Y6.b;have y0:=y.c0;have y1:=y.c1;have y2:=y.c2;have y3:=y.c3;have y4:=y.c4;have y5:=y.c5;have y6:=y.c6;have y7:=y.c7;clear M k7 o p y;go_wp2_with (refine aA rfl 115 _ _ rfl _ _ _ rfl rfl l ?_)
  clear l y0 y1 y2 y3 y4 y5 y6 y7;have q:=Z7.b;go_wp2_with fail;exact bf (v:=bI c) (by simp[results,results196,go_sem,q.c0,q.c1,q.c2,q.c3,q.c4,q.c5,q.c6,q.c7,bI]) rfl ⟨by rw[z.out],by rw[Y.out];exact N7,K7⟩
 ·have Y:Hid (x.mP j i ou={x with T:=iZ x.T j}):=by show _=_;unfold No.mP;rw[O.1,P];rfl
  clear P;have c6:=C.c6;have t0:=C.t0;go_wp2_with fail;refine(Yw HS C N.2.2 j).mono ?_;rintro e w6 ⟨⟨v6,rfl⟩,L,k6⟩;have J:=jH L;have Z6:=jH (Z3.gU k6 H);have Y6:=jH (V.gU k6 D);have X6:=jH ((ay.of W.out).trans k6);clear L k6 c6 t0;obtain⟨w7,l,o,p⟩:=gV Z6 c;obtain⟨M,k7⟩:=A.fresh J rfl X6 p nL;have N7:=jH M;have K7:=jH k7;have Z7:=jH o;have y:=Y6.b;have y0:=y.c0;have y1:=y.c1;have y2:=y.c2;have y3:=y.c3;have y4:=y.c4;have y5:=y.c5;have y6:=y.c6;have y7:=y.c7;clear M k7 o p y;go_wp2_with (refine aA rfl 115 _ _ rfl _ _ _ rfl rfl l ?_)
  clear l y0 y1 y2 y3 y4 y5 y6 y7;have q:=Z7.b;go_wp2_with fail;exact bf (v:=bI c) (by simp[results,results196,go_sem,q.c0,q.c1,q.c2,q.c3,q.c4,q.c5,q.c6,q.c7,bI]) rfl ⟨by rw[z.out],by rw[Y.out];exact N7,K7⟩
end
theorem UQ {w:World} {base n:Nat} {v:Value} {l:List Rl} (h:w.ownsRow base 50 5 v n (fQ l)):∃p c,v=.slice p l.length c/\Sl w (.slice p l.length c) l/\(∀a,p=some a->base<=a.block/\a.block < w.heap.size):=by
 obtain⟨f,o⟩:=Sl.pF h;obtain⟨p,c,e,_⟩:=f.open;refine⟨p,c,e,e ▸ f,fun a k=>?_⟩;subst k;rcases h.2 with q | ⟨g,cap,cur,i,m,j,_⟩
 ·rw[e]at q;cases q.1
 ·rw[e]at i
  cases i
  refine⟨m,?_⟩;rcases dX g w with a | a
  ·exact a
  ·rw[eP a]at j;cases j
theorem La (v:Value) (l:List Rl) (w:World) (R:Sl w v l) (D:l.length<=1000) :
  Calls prog 134 #[v] w fun e w'=>(∃p cap,e=.returned (.slice p l.length cap)/\Sl w' (.slice p l.length cap) l/\(∀a,p=some a->w.heap.size<=a.block/\a.block < w'.heap.size))/\Below w w w':=by
 rcases R with⟨rfl,rfl⟩ | ⟨a,cap,rfl,h1,h2,h3⟩
 ·have u:=abZ (P := prog) w 22 50 none 0 0 0 0 Tryz.underlying22;go_enter func134,ntmps134;go_wp2_with fail;go_ret;exact⟨⟨none,0,rfl,Or.inl ⟨rfl,rfl⟩,fun a e=>by cases e⟩,aH _ _⟩
 ·obtain⟨x,y,i,k,m⟩:=lu Tryz.Yh;have z:Hid (oQ w (some a) l):=h3;have u:=abZ (P := prog) w 22 50 (some a) l.length cap 0 0 Tryz.underlying22;clear h3;go_enter func134,ntmps134;go_wp2_with (at_builtin;refine vw _ rfl _ _ 22 rfl w 50 x _ 5 32 Tryz.underlying22 y i k m rfl dC (.slice (some ⟨w.heap.size,0,none⟩) 0 0) 0 [] rfl ?g0 a l.length cap (fQ l) rfl (wQ l) ?g1 (DK l) (by unfold maxLen;omega) om ?g2 ?_)
  case g0=>exact⟨rfl,.inr ⟨w.heap.size,0,#[],rfl,bJ _,dh w _,bJ _,by unfold maxLen;omega,rfl,rfl⟩⟩
  case g1=>exact(z.keep (fun a v A=>tk (aB _ _) A)).at
  case g2=>simp
  intro v' o h f _;have s:Hid (∃p c,v'=.slice p l.length c/\Sl o (.slice p l.length c) l/\(∀a,p=some a->w.heap.size<=a.block/\a.block < o.heap.size)):=UQ (by simpa using h);have B:Hid (Below w w o):=((aH _ _).alloc nL _).grown f sM (fun j C=>by simp[Value.ownBlock]at C;omega);clear h f;obtain⟨p,c,rfl,_⟩:=s.out;go_wp2_with fail;go_ret;obtain⟨E,c',e,q⟩:=s.out
  cases e
  exact⟨⟨p,c,rfl,q⟩,B⟩
theorem clone_any (v:Value) (l:List Rl) (w:World) (R:Sl w v l) (f:l.length<=1000) :
  Calls prog 134 #[v] w fun e w'=>(∃p cap,e=.returned (.slice p l.length cap)/\oQ w' p l/\(l≠[]->∀a,p=some a->w.heap.size<=a.block))/\Below w w w' :=
 (La v l w R f).mono fun _ _ ⟨⟨p,c,h,i,j⟩,k⟩=>⟨⟨p,c,h,by obtain⟨m,c',e,q⟩:=i.open;cases e;exact q,fun _ a e=>(j a e).1⟩,k⟩
def No.new (a:Nat) (y:By) (l:List Rl):No :=
 ⟨Ro.new a (newest y.B).e,a,(newest y.B).l+1,0,l,false,(bn false y (newest y.B).e ((newest y.B).l+1)).2.1,newT,fun _=>0,0,0,newT⟩
structure sD (id:Nat) (y:By) (l:List Rl):Prop where
 id:id < 2
 ru:aF l
 on:y.on=true
 ep:(newest y.B).e<=1073741824
 pu:(bn false y (newest y.B).e ((newest y.B).l+1)).1=0
theorem DT {off:Bool} {y:By} {ep li:Int} (h:(bn off y ep li).1=0):(bn off y ep li).2.2=false:=by
 revert h
 unfold bn;repeat' split
 all_goals simp
theorem Pq {s:Nat->Addr} {w:World} {l:List Rl} {v:Value} (h:aF l) (c:Dx s w l v):v=.nilIface:=by
 rcases c with⟨a,_⟩ | ⟨_,_,a⟩ | ⟨_,i,g,a,_⟩
 ·exact absurd h.1 om
 ·exact a
 ·rw[h.2]at a;cases a
theorem Sl.agn {w w':World} {v:Value} {l:List Rl} {b:Nat} (h:Sl w v l) (c:ay [b] w w') (k:∀a n c,v=.slice (some a) n c->a.block≠b):Sl w' v l:=by
 rcases h with h | ⟨a,cap,e,m,p,j⟩
 ·exact Or.inl h
 ·refine Or.inr ⟨a,cap,e,m,p,j.kept (fun s B u=>?_)⟩;obtain⟨r,f⟩:=JC _ s;obtain⟨i,x⟩:=Aq f;obtain⟨g,o,y,z,_⟩:=j i r x;have A:=k a _ _ e
  cases y
  cases u
  have q:=eF z;exact c.block g q (by simpa using A)
theorem acQ {w0 w:World} {s:Nat->Addr} (S:Gz w0 s) (id b:Nat) (y:By) (v:Value) (l:List Rl) (Y:fK w b y) (hb:w0.heap.size<=b) (bl:Below w0 w0 w) (hf:y.left<=9223372036854775807) (R:Sl w v l) (G:∀a n c,v=.slice (some a) n c->a.block≠b) (K:sD id y l) :
  Calls prog 178 #[id,.pointer (some (b,0)),v] w fun e w'=>(∃k,e=.returned (.tuple #[.pointer (some ⟨k.nd,0,none⟩),.nilIface])/\k.yb=b/\Nd w0 w' k (No.new id y l) 0 0/\(∀g ∈ k.all,g=b\/w.heap.size<=g)/\(l≠[]->∀a,k.rp=some a->w.heap.size<=a.block))/\ay [b] w w':=by
 have HS:=jH S;have Q:=jH Y;have I:=jH hb;have D:=jH bl;have HF:=jH hf;have HR:=jH R;have C:=jH K;have Zu:=jH G;obtain⟨p,cap,rfl,U⟩:=R.open;have Zv:=jH U;clear S Y hb bl hf R K U G;have J:=jH ((by have:=C.id;omega:(id:Int)=0\/(id:Int)=1));go_enter func178,ntmps178;go_wp2_with fail;refine(aeW id w C.id).mono ?_;rintro e w1 ⟨tb,rfl,t1,V,W⟩;have T1:Hid (Tab w1 tb (2000+(id:Int) * 24) newT):=by exact_mod_cast t1
 have L1:=jH V;have B1:=jH W;clear t1 V W;go_wp2_with fail;refine(rO p l cap s w1 (HS.below (t2 D B1)).sn (Zv.keep (fun a v hc=>tk B1 hc)) (by have:=C.ru.1;omega)).mono ?_;rintro e w2 ⟨⟨v2,rfl,hv⟩,L⟩;obtain rfl:=Pq C.ru hv;have T2:=jH (T1.below L);have B2:=jH (t2 B1 L);clear hv L T1 B1;go_wp2_with fail;refine(acr b y w2 (Q.below B2) C.on).mono ?_;rintro e w3 ⟨⟨rfl,c3⟩,N⟩;have L2:=jH T2.lt;have B3:=jH (t2 B2 N);have T3:=jH (T2.below N);have x:=jH B2.size;generalize w2.heap.size=ce at *;have C3:=jH c3;clear c3 N T2 B2;go_wp2_with fail;refine jM (Gj ce b false y w3 C3 (Q.below B3)) fun w4 E=>?_;have B4:=jH (t2 B3 E);have C4:=jH (C3.below E);have T4:=jH (T3.below E);clear E C3 T3 B3;go_wp2_with fail;refine(acg id (newest y.B).e w4 J om (by have:=C.ep;omega)).mono ?_;rintro e w5 ⟨⟨rfl,r5⟩,F⟩;have L4:=jH C4.lt;have B5:=jH (t2 B4 F);have C5:=jH (C4.below F);have T5:=jH (T4.below F);generalize w4.heap.size=ro at *;have R5:=jH r5;clear F C4 T4 B4 r5;go_wp2_with fail;refine jM (Xz ce b false y w5 C5 (Q.below B5)) fun w6 z=>?_;have B6:=jH (t2 B5 z);have C6:=jH (C5.below z);have T6:=jH (T5.below z);have R6:=jH (R5.below z);have Zw:IntKind.i64.wrap (((newest y.B).l:Int)+1)=((newest y.B).l:Int)+1:=by have:=(oN y.B).2.2;rw[iI];omega
 clear z C5 T5 B5 R5;go_wp2_with fail;refine jM (Gj ce b false y w6 C6 (Q.below B6)) fun w7 A=>?_;have B7:=jH (t2 B6 A);have C7:=jH (C6.below A);have T7:=jH (T6.below A);have R7:=jH (R6.below A);have Y7:=jH (Q.below B7);have Z:=jH Q.lt;clear A C6 T6 B6 R6 Zw;go_wp2_with fail;have H:=eF HS.c6;simp only at H;refine jM (J5 ce b false y (newest y.B).e ((newest y.B).l+1) s w7 C7 Y7 (HS.below (t2 D B7)).s5 (by have:=Z.out;have:=x.out;omega) (by have:=I.out;omega) (by have:=I.out;have:=Z.out;have:=x.out;omega) HF) fun w8 ⟨y8,c8,k8⟩=>?_;have K8:Hid (ay [b] w w8):=((ay.of B7.out:ay [b,ce] w w7).trans (ay.two k8 sM sM)).mono (fun q hq=>by simp at hq;rcases hq with rfl | rfl;exact Or.inl sM;exact Or.inr x);have Y8:=jH y8;have C8:Hid (yL w8 ce b false):=by have:=DT C.pu;rw[this]at c8;exact c8
 have T8:=jH (T7.kept (k8.block tb T7.lt (by have:=Z.out;have:=L1.out;omega) (by have:=L2.out;omega)));have R8:=jH (R7.kept (k8.block ro R7.lt (by have:=Z.out;have:=x.out;have:=L4.out;omega) (by have:=L4.out;omega)));rw[C.pu];clear y8 c8 k8 H C7 T7 R7 Y7 B7;simp only[aO];go_wp2_with fail;refine(clone_any _ l w8 (HR.agn K8 Zu) (by have:=C.ru.1;omega)).mono ?_;rintro e w9 ⟨⟨q,qc,rfl,rq,rf⟩,u⟩;have K9:=jH (K8.then u);have Y9:=jH (Y8.below u);have C9:=jH (C8.below u);have T9:=jH (T8.below u);have R9:=jH (R8.below u);have Q9:=jH rq;have Zx:=jH R8.lt;have QF:=jH rf;have QL:Hid (l≠[]->∀a,q=some a->a.block < w9.heap.size):=fun T a e=>by
  obtain⟨r,Zy⟩:=JC _ T;obtain⟨i,hi⟩:=Aq Zy;obtain⟨g,o,e2,h0,_⟩:=rq i r hi;rw[e]at e2
  cases e2
  have q:=eF h0;exact q
 have Zz:=jH u.size;clear rq rf u Y8 C8 T8 R8 K8;go_wp2_with fail;refine(XZ tb w9).mono ?_;rintro e O ⟨⟨X,M,rfl,hx,hm,te⟩,j⟩;have Zg:=jH (K9.then j);have Zh:=jH (Y9.below j);have Zi:=jH (C9.below j);have Zj:=jH (T9.below j);have Zk:=jH (R9.below j);have Zl:=jH (Q9.below j);have Zm:=jH te;have XL:Hid (w9.heap.size<=X/\w9.heap.size<=M/\X < O.heap.size/\M < O.heap.size):=⟨hx,hm,eF te.c0,te.m.lt⟩;clear hx hm te j Y9 C9 T9 R9 K9 Q9;go_wp2_with fail;refine(XM O).mono ?_;rintro e Zn ⟨⟨mi,rfl,Zp,Zq⟩,f⟩;have P:=jH (Zg.then f);have ZB:=jH (Zh.below f);have ZC:=jH (Zi.below f);have ZE:=jH (Zj.below f);have ZF:=jH (Zk.below f);have ZG:=jH (Zl.below f);have Zr:=jH (Zm.below f);have Zt:=jH Zp;have ML:=jH Zq;clear Zp Zq f Zh Zi Zj Zk Zg Zl Zm;go_wp2_with fail;go_ret2;have l1:=L1.out;have l2:=L2.out;have l3:=x.out;have l4:=L4.out;have l5:=Zx.out;have l6:=XL.out;have l7:=ML.out;have l8:=Zt.lt;have l9:=Zz.out;have ZH:=Z.out;have ZI:=Zr.ne;have ZJ:=D.size;have ZK:=I.out;have ZL:=P.size;refine⟨⟨⟨Zn.heap.size,ro,ce,b,X,tb,M,mi,q,qc⟩,rfl,rfl,?_,fun g H=>by simp only[Bk.all,dI,eY,fA]at H;omega,fun T a e=>by have q1:=QF.out T a e;omega⟩,P.then (aB _ _)⟩;have h:=aB Zn (.cells #[.pointer (some (ro,0)),id,.int .i64 ((newest y.B).l+1),.int .i64 0,.slice q l.length qc,.pointer (some (ce,0)),.pointer (some (X,0)),.pointer (some (mi,0))] 192);exact {
  nd:=dh _ _
  ro:=ZF.below h
  rk:=Ro.Ok.new J om (by have:=C.ep;omega)
  ce:=ZC.below h
  yb:=ZB.below h
  lf:=dL (yV _ _ _ _) HF
  tb:=ZE.below h
  vs:=gI.new
  wt:=qy.new
  te:=Zr.below h
  mi:=Zt.below h
  wm:=qy.new
  ru:=ZG.below h
  ds:=⟨by simp only;omega,by simp only;omega,by simp only;omega,by simp only;omega,by simp only;omega,by simp only;omega⟩
  g0:=fun g H=>by simp only[Bk.all,dI,eY,fA]at H;omega
  rb:=fun T a e=>by
   have q1:=QF.out T a e;have q2:=QL.out T a e;refine⟨by omega,fun hm=>?_⟩;simp only[Bk.all,dI,eY,fA]at hm;omega
  id:=J.out
  bl:=ay.below D (P.then h) (fun g H=>by simp at H;omega)}
def Bk.iU (k:Bk) (p:Option Addr) (c:Nat):Bk:={k with rp:=p,rc:=c}
theorem Gx.agp {w:World} {k:Bk} {e life a:Int} {n:Nat} (h:Gx w k e life a n) (p:Option Addr) (n' c:Nat):Gx (w.setCell (k.nd,4) (.slice p n' c)) (k.iU p c) e life a n':=by
 unfold Gx;show(w.setCell (k.nd,4) (.slice p n' c)).heap[k.nd]? = _;rw[bV w _ _ _ _ _ h];rfl
theorem Nd.ag9 {w0 w:World} {k:Bk} {x:No} {m n:Nat} (h:Nd w0 w k x m n) {p:Option Addr} {c:Nat} {l:List Rl} (R:oQ w p l) (f:l≠[]->∀a,p=some a->w0.heap.size<=a.block/\¬a.block ∈ k.all) :
  Nd w0 (w.setCell (k.nd,4) (.slice p l.length c)) (k.iU p c) {x with ru:=l} m n:=by
 have g:aC k.nd w (w.setCell (k.nd,4) (.slice p l.length c)):=aC.set _ _ _ _;exact {
  nd:=h.nd.agp p l.length c
  ro:=h.ro.dO g (by have:=h.ds.d1;omega)
  rk:=h.rk
  ce:=h.ce.dO g (by have:=h.ds.d1;omega)
  yb:=h.yb.dO g (by have:=h.ds.d1;omega)
  lf:=h.lf
  tb:=h.tb.dO g (by have:=h.ds.d1;omega)
  vs:=h.vs
  wt:=h.wt
  te:=h.te.dO g (by have:=h.ds.d1;omega) (by have:=h.ds.d1;omega)
  mi:=h.mi.dO g (by have:=h.ds.d1;omega)
  wm:=h.wm
  ru:=R.dO g (fun i a e q=>(f i a e).2 (q ▸ k.tK))
  ds:=⟨h.ds.d1,h.ds.d2,h.ds.d3,h.ds.d4,h.ds.d5,h.ds.d6⟩
  g0:=h.g0
  rb:=f
  id:=h.id
  bl:=aC.below h.bl g (h.g0 _ k.tK)}
theorem Yx {w0 w:World} {k:Bk} {x:No} {m n:Nat} {s:Nat->Addr} (S:jm w0 s) (h:Nd w0 w k x m n) (v:Value) (l:List Rl) (R:Sl w v l) (H:l.length<=1000) :
  Calls prog 136 #[.pointer (some (k.nd,0)),v] w fun e w'=>((aF l/\e=.returned .nilIface/\∃p c,Nd w0 w' (k.iU p c) {x with ru:=l} m n/\(l≠[]->∀a,p=some a->w.heap.size<=a.block))\/(¬aF l/\(∃v',e=.returned v'/\Dx s w' l v')/\Nd w0 w' k x m n))/\ay k.all w w':=by
 have P:Hid (jm w0 s):=S;have I:Hid (Nd w0 w k x m n):=h;have J:Hid (Sl w v l):=R;have K:Hid (l.length<=1000):=H;clear S h R H;go_enter func136,ntmps136;go_wp2_with fail;obtain⟨Q,c0,T,o⟩:=J.open;subst T;refine(rO Q l c0 s w (P.below I.bl).n.sn o K).mono ?_;rintro e B ⟨⟨L,rfl,u⟩,y⟩;have C:Hid (Dx s B l L):=u;have z:Hid (Below w w B):=y;have D:Hid (Nd w0 B k x m n):=I.below z;clear u y o;by_cases f:aF l
 ·obtain rfl:=Pq f C;have q:Hid (aF l):=f;clear f C;go_wp2_with fail;refine(clone_any _ l B (J.below z) K).mono ?_;rintro e w2 ⟨⟨p,c,rfl,A,j⟩,F⟩;have U:Hid (l≠[]->∀a,p=some a->w.heap.size<=a.block):=fun E a e=>dL z.size (j E a e);have M:Hid (oQ w2 p l/\(l≠[]->∀a,p=some a->w0.heap.size<=a.block/\¬a.block ∈ k.all)):=⟨A,fun E a e=>⟨by have:=j E a e;have:=D.bl.size;omega,fun V=>by have:=j E a e;have:=D.lt _ V;omega⟩⟩;have G:Hid (Nd w0 w2 k x m n):=D.below F;have W:Hid (Below w w w2):=t2 z F;clear A j F;have Y:=G.c4;have Z:=G.nd.fr;go_wp2_with fail;go_ret;exact⟨Or.inl ⟨q,rfl,p,c,G.ag9 M.1 M.2,U⟩,(ay.of W.out).trans (ay.one (aC.set _ _ _ _) k.tK)⟩
 ·have X:Hid (∃N O,L=.iface N O):=by
   rcases C.out with⟨_,a⟩ | ⟨a,b,_⟩ | ⟨_,i,g,_,a,_⟩
   ·exact⟨_,_,a⟩
   ·exact absurd ⟨a,b⟩ f
   ·exact⟨_,_,a⟩
  have q:Hid (¬aF l):=f;clear f;obtain⟨N,O,rfl⟩:=X.out;go_wp2_with fail;go_ret;exact⟨Or.inr ⟨q,⟨_,rfl,C⟩,D⟩,ay.of z.out⟩
theorem IX {w0 w:World} {k:Bk} {x:No} {m n:Nat} (h:Nd w0 w k x m n) (i:Bool) (p:Option Addr) (a c:Nat) :
  Calls prog 262 #[.pointer (some (k.nd,0)),.bool i,.slice p a c] w fun e w'=>e=.returned (.agg #[x.id,x.life,x.ro.ep,.bool i,.slice p a c])/\Below w w w':=by
 have l:Hid (Nd w0 w k x m n):=h;have o:Hid (∀u,lS u k.ro x.ro->Calls prog 112 #[.pointer (some (k.ro,0))] u fun e w'=>e=.returned x.ro.ep/\w'=u):=fun u R=>wB k.ro x.ro u R;clear h;go_enter func262,ntmps262;go_wp2_with fail;have q:Hid (Below w w (w.alloc (.cells #[.int .i64 0,.int .i64 0,.int .i64 0,.bool false,.slice none 0 0] 216))):=aB _ _;have f:Hid (Nd w0 (w.alloc (.cells #[.int .i64 0,.int .i64 0,.int .i64 0,.bool false,.slice none 0 0] 216)) k x m n):=l.below q;have c0:(w.alloc (.cells #[.int .i64 0,.int .i64 0,.int .i64 0,.bool false,.slice none 0 0] 216)).drew.cell? (k.nd,0)=some (.pointer (some (k.ro,0))):=f.c0;have c1:(w.alloc (.cells #[.int .i64 0,.int .i64 0,.int .i64 0,.bool false,.slice none 0 0] 216)).drew.cell? (k.nd,1)=x.id:=f.c1;have c2:(w.alloc (.cells #[.int .i64 0,.int .i64 0,.int .i64 0,.bool false,.slice none 0 0] 216)).drew.cell? (k.nd,2)=x.life:=f.c2;have s:Hid (lS (w.alloc (.cells #[.int .i64 0,.int .i64 0,.int .i64 0,.bool false,.slice none 0 0] 216)).drew k.ro x.ro):=f.drew.ro;go_region_with (first
  | (go_at_call 112;refine(o _ s).mono ?_;rintro e w2 ⟨rfl,j⟩;obtain rfl:=j.symm))
 all_goals go_wp2_with fail
 all_goals exact bf (v:=.agg #[x.id,x.life,x.ro.ep,.bool i,.slice p a c]) (by simp[results,results262,go_sem]) rfl ⟨rfl,((aH _ _).alloc nL _).drew⟩
section
variable {w w0:World} {base n m:Nat} {v:Value} {x:No} {k:Bk}
def kH (x:No) (a:Bool) (e:Value):List Value:=[.int .i64 x.id,.int .i64 x.life,.int .i64 x.ro.ep,.bool a,e]
theorem Tryz.xY:(prog.info? 216).map (fun i=>(i.zero,i.size,i.bytes))=some (some (.agg #[.int .i64 0,.int .i64 0,.int .i64 0,.bool false,.slice none 0 0]),5,56):=by kernel_rfl
def Yy (w:World) (base:Nat) (T:Tb) (L:List Nat) (v:Value):Prop:=(L=[]/\v=.slice none 0 0)\/∃Z,v=.slice (some ⟨Z,0,none⟩) 8 8/\base<=Z/\dF w Z T L/\L.length=8
def tV (w:World) (base:Nat) (x:No) (l:List Nt) (v:Value):Prop:=∃p cap,v=.slice p l.length cap/\(l.length<=cap/\(l=[]->p=none/\cap=0))/\∀(i:Nat) t,l[i]? = some t->∃g a,p=some ⟨g,0,none⟩/\base<=g/\Yy w base x.T t.L a/\∀(j:Nat) u,(kH x t.cl a)[j]? = some u->w.cell? ⟨g,i * 5+j,none⟩=some u
theorem jf {w':World} {a:Nat} {e:TypeId} {cs:List Value} {l:List Nat} (h:w.ownsRow base e a v n cs) (i:ay l w w') (j:∀b ∈ l,b < base):w'.ownsRow base e a v n cs:=by
 have f:=h.lt;obtain⟨o,p⟩:=h;refine⟨o,?_⟩;rcases p with⟨rfl,h0⟩ | ⟨g,cap,cur,rfl,q1,hh,q2⟩
 ·exact .inl ⟨rfl,h0⟩
 ·refine .inr ⟨g,cap,cur,rfl,q1,?_,q2⟩;rw[i.block g (f g rfl).2 (fun q=>by have:=j g q;omega)];exact hh
theorem tV.nil (w:World) (base:Nat) (x:No):tV w base x [] (.slice none 0 0):=⟨none,0,rfl,⟨bJ _,fun _=>⟨rfl,rfl⟩⟩,fun i t h=>by simp at h⟩
theorem tV.one {t:Nt} {a:Value} (h:w.ownsRow base 216 5 v 1 (kH x t.cl a)) (o:Yy w base x.T t.L a):tV w base x [t] v:=by
 obtain⟨q,p⟩:=h;rcases p with⟨_,h0⟩ | ⟨g,cap,cur,rfl,q1,hh,q2,q3,q4,ht⟩
 ·cases h0
 ·refine⟨some ⟨g,0,none⟩,cap,rfl,⟨q2,fun e=>by cases e⟩,fun i t' f=>?_⟩;match i,f with
  | 0,f =>
   obtain rfl:t=t':=by simpa using f
   refine⟨g,a,rfl,q1,o,fun j u l=>?_⟩;have s:=(List.getElem?_eq_some_iff.1 l).1;rw[<- ht,kG,aj om,sQ]at l;rw[aP w g _ _ _ _ hh,Nat.zero_mul,fE];exact l
theorem tV.two {t u:Nt} {a dv:Value} (h:w.ownsRow base 216 5 v 2 (kH x t.cl a++kH x u.cl dv)) (q:Yy w base x.T t.L a) (s:Yy w base x.T u.L dv):tV w base x [t,u] v:=by
 obtain⟨A,y⟩:=h;rcases y with⟨_,h0⟩ | ⟨g,cap,cur,rfl,q1,hh,q2,q3,q4,ht⟩
 ·cases h0
 ·refine⟨some ⟨g,0,none⟩,cap,rfl,⟨q2,fun e=>by cases e⟩,fun i t' f=>?_⟩;match i,f with
  | 0,f =>
   obtain rfl:t=t':=by simpa using f
   refine⟨g,a,rfl,q1,q,fun j z l=>?_⟩;have p:j < 5:=(List.getElem?_eq_some_iff.1 l).1;have o:(kH x t.cl a++kH x u.cl dv)[j]? = some z:=by rw[qW (by simpa [kH] using p)];exact l
   rw[<- ht,kG,aj om,sQ]at o;rw[aP w g _ _ _ _ hh,Nat.zero_mul,fE];exact o
  | 1,f =>
   obtain rfl:u=t':=by simpa using f
   refine⟨g,dv,rfl,q1,s,fun j z l=>?_⟩;have p:j < 5:=(List.getElem?_eq_some_iff.1 l).1;have o:(kH x t.cl a++kH x u.cl dv)[5+j]? = some z:=by rw[xA (by simp[kH])];simpa [kH] using l
   rw[<- ht,kG,aj om,sQ]at o;rw[aP w g _ _ _ _ hh,Nat.one_mul];exact o
theorem y9 (x:No) (f:Bool) (p:Option Addr) (a c:Nat):∀u ∈ kH x f (.slice p a c),u.oneCell'=true:=fun u e=>by
 simp only[kH,dI,eY,fA]at e;rcases e with rfl | rfl | rfl | rfl | rfl <;> rfl
theorem Pv {u u':World} {row:Option Nat} (h:u.grownBy u' row):ay row.toList u u' :=
 ⟨h.os,h.tape,h.output,h.size,fun k a f=>h.block k a (fun e=>f (by rw[<- e];simp))⟩
theorem dF.kept {w':World} {Z:Nat} {T:Tb} {L:List Nat} (h:dF w Z T L) (e:w'.heap[Z]? = w.heap[Z]?):dF w' Z T L:=by
 obtain⟨cs,a,f⟩:=h;exact⟨cs,by rw[e];exact a,f⟩
theorem Nd.aha (h:Nd w0 w k x m n) (l:x.ru≠[]):∀a,k.rp=some a->a.block < w.heap.size:=fun a e=>by
 obtain⟨r,f⟩:=JC _ l;obtain⟨i,p⟩:=Aq f;obtain⟨b,o,j,s,_⟩:=h.ru i r p;rw[e]at j
 cases j
 have q:=eF s;exact q
theorem YA {u u':World} {y:No} {m' l:Nat} {row:Option Nat} (H:Nd w0 w k x m n) (h:Nd w0 u k y m' l) (p:y.ru=x.ru) (c:ay k.all w u) (g:u.grownBy u' row) (hr:∀q,row=some q->w.heap.size<=q):Nd w0 u' k y m' l/\ay k.all w u':=by
 have o:=Pv g;have i:∀b ∈ row.toList,w.heap.size<=b:=fun b f=>hr b (by simpa using f);refine⟨h.kept o (fun b f j=>?_) (fun s a e j=>?_) (fun b f=>dL H.bl.size (i b f)),?_⟩
 ·have:=i b j;have:=H.lt b f;omega
 ·have:=i _ j;have:=H.aha (by rw[<- p];exact s) a e;omega
 ·have z:ay (k.all++row.toList) w u:=c.mono (fun b f=>Or.inl (TD _ f));have A:ay (k.all++row.toList) u u':=o.mono (fun b f=>Or.inl (abY _ f));exact(z.trans A).mono (fun b f=>by rcases lU.1 f with q | q;exact Or.inl q;exact Or.inr (i b q))
theorem Lc (h:Nd w0 w k x m n) (fresh:Bool) (V:0<=x.now) (M:m<=1000000000) (W:n<=100000000) :
  Calls prog 224 #[.pointer (some ⟨k.nd,0,none⟩),.bool fresh] w fun e w'=>(∃v,e=.returned v/\tV w' w.heap.size x (x.notes fresh) v)/\(∃X,X<=n+8/\Nd w0 w' k x.noted m X)/\ay k.all w w':=by
 obtain⟨O,P,y,z,A⟩:=lu Tryz.xY;have a:Hid (Nd w0 w k x m n):=h;have Y:Hid (m<=1000000000/\n<=100000000):=⟨M,W⟩;have c0:=h.c0;have c3:=h.c3;have Zg:Int.tmod x.now 3=x.now % 3:=aeF V;have H:Hid (x.due=decide (x.now % 3=0)):=rfl;clear h V M W
 cases o:x.ro.ac
 ·have s:Hid (x.notes fresh=[]/\x.noted=x):=by
   constructor
   ·unfold No.notes;rw[o];rfl
   ·unfold No.noted;rw[o];rfl
  go_enter func224,ntmps224;go_wp2_with fail;refine(dR k.ro x.ro w a.out.ro).mono ?_;rintro e Q ⟨rfl,rfl⟩;rw[o];go_wp2_with fail;go_ret;rw[s.out.1,s.out.2];exact⟨⟨_,rfl,tV.nil _ _ _⟩,⟨n,by omega,a.out⟩,ay.refl _ _⟩
 ·have B:=jH o;have HB:=jH a.out.lt;rcases hd:x.due with _ | _
  ·have R:¬x.now % 3=0:=by rw[H.out]at hd;simpa using hd
   have p:Hid (x.noted=x):=by show _=_;unfold No.noted;rw[o,hd];rfl
   cases fresh
   ·have s:Hid (x.notes false=[]):=by show _=_;unfold No.notes;rw[o,hd];rfl
    clear hd H;go_enter func224,ntmps224;go_wp2_with fail;refine(dR k.ro x.ro w a.out.ro).mono ?_;rintro e Q ⟨rfl,rfl⟩;rw[B.out];go_wp2_with fail;go_ret;rw[s.out,p.out];exact⟨⟨_,rfl,tV.nil _ _ _⟩,⟨n,by omega,a.out⟩,ay.refl _ _⟩
   ·have s:Hid (x.notes true=[⟨true,[]⟩]):=by show _=_;unfold No.notes;rw[o,hd];rfl
    clear hd H;go_enter func224,ntmps224;go_wp2_with fail;refine jM (dR k.ro x.ro w a.out.ro) fun Q C=>?_;obtain rfl:=C.symm;rw[B.out];go_wp2_with fail;refine jM (IX a.out true none 0 0) fun w2 f=>?_;go_wp2_with (at_builtin;refine vw _ rfl _ _ 166 rfl w.heap.size 216 O _ 5 56 Tryz.underlying166 P y z A rfl dC (.slice none 0 0) 0 [] rfl (ql _ _ _ _) ⟨w2.heap.size,0,none⟩ 1 1 (kH x true (.slice none 0 0)) rfl rfl ?c1 (y9 _ _ _ _ _) ?c3 ?c4 ?c5 ?_)
    case c1 =>
     intro q u I;rw[qo,fE,aP _ _ _ _ _ _ (dh w2 _)];simpa [kH] using I
    case c3=>unfold maxLen;omega
    case c4=>omega
    case c5=>have:=f.out.size;simp;omega
    intro v3 w3 i j _;have J:=jH i;have E:=jH ((f.out.alloc f.out.size _).grown j (by have:=f.out.size;simp;omega) (fun q F=>by simp[Value.ownBlock]at F));clear i j f;go_wp2_with fail;go_ret;rw[s.out,p.out];exact⟨⟨_,rfl,tV.one J.out (Or.inl ⟨rfl,rfl⟩)⟩,⟨n,by omega,a.out.below E.out⟩,ay.of E.out⟩
  ·have R:x.now % 3=0:=by rw[H.out]at hd;simpa using hd
   have s:Hid (x.notes fresh=[⟨true,[]⟩,⟨false,Fz x.T x.D x.cu⟩]):=by show _=_;unfold No.notes;rw[o,hd];cases fresh <;> rfl
   have p:Hid (x.noted={x with D:=jD x.T x.D (Fz x.T x.D x.cu),cu:=nxC x.T x.D x.cu}):=by show _=_;unfold No.noted;rw[o,hd];rfl
   clear hd H
   cases fresh
   all_goals
    go_enter func224,ntmps224;go_wp2_with fail;refine jM (dR k.ro x.ro w a.out.ro) fun Q C=>?_;obtain rfl:=C.symm;rw[B.out];go_wp2_with fail;refine jM (IX a.out true none 0 0) fun w2 f=>?_;go_wp2_with (at_builtin;refine vw _ rfl _ _ 166 rfl w.heap.size 216 O _ 5 56 Tryz.underlying166 P y z A rfl dC (.slice none 0 0) 0 [] rfl (ql _ _ _ _) ⟨w2.heap.size,0,none⟩ 1 1 (kH x true (.slice none 0 0)) rfl rfl ?c1 (y9 _ _ _ _ _) ?c3 ?c4 ?c5 ?_)
    case c1 =>
     intro q u I;rw[qo,fE,aP _ _ _ _ _ _ (dh w2 _)];simpa [kH] using I
    case c3=>unfold maxLen;omega
    case c4=>omega
    case c5=>have:=f.out.size;simp;omega
    intro v3 w3 i j _;have J:=jH i;have E:=jH ((f.out.alloc f.out.size _).grown j (by have:=f.out.size;simp;omega) (fun q F=>by simp[Value.ownBlock]at F));clear i j f;have S:=jH (a.out.below E.out);have c6:=S.out.c6;go_wp2_with fail;refine(Yu S.out Y.out.1 Y.out.2).mono ?_;rintro e w4 ⟨⟨Z,rfl,hz,hr⟩,n4,k4⟩;have N4:=jH n4;have K4:=jH ((ay.of E.out).trans k4);have O4:=jH (jf J.out k4 HB.out);have R4:=jH hr;have ZZ:=jH (dL E.out.size hz);have VZ:Hid (∀q,v3.ownBlock=some q->q≠Z/\w.heap.size<=q):=fun q F=>by have:=J.out.lt q F;exact⟨by omega,this.1⟩
    have S4:=jH K4.out.size;clear n4 k4 hr hz c6 J E S;go_wp2_with fail;refine jM (IX N4.out false (some ⟨Z,0,none⟩) 8 8) fun w5 G=>?_;have U:=G;have O5:=jH (jf (l:=[]) O4.out (ay.of G) (fun _ M=>by simp at M));clear G O4;go_wp2_with (at_builtin;refine vw _ rfl _ _ 166 rfl w.heap.size 216 O _ 5 56 Tryz.underlying166 P y z A rfl dC v3 1 (kH x true (.slice none 0 0)) rfl (O5.out.alloc _) ⟨w5.heap.size,0,none⟩ 1 1 (kH x false (.slice (some ⟨Z,0,none⟩) 8 8)) rfl rfl ?c1 (y9 _ _ _ _ _) ?c3 ?c4 ?c5 ?_)
    case c1 =>
     intro q u I;rw[qo,fE,aP _ _ _ _ _ _ (dh w5 _)];simpa [kH] using I
    case c3=>unfold maxLen;omega
    case c4=>omega
    case c5=>have:=U.out.size;have:=S4.out;simp;omega
    intro v6 w6 K L _;have O6:=jH K;have G6:Hid (∃u,(Below w4.heap.size w4 u)/\u.grownBy w6 v3.ownBlock):=⟨_,U.out.alloc U.out.size _,L⟩;clear K L;go_wp2_with fail;go_ret;obtain⟨u,N,gu⟩:=G6.out;obtain⟨r1,r2⟩:=YA a.out (N4.out.below N) rfl (K4.out.then N) gu (fun q F=>(VZ.out q F).2);rw[s.out,p.out];refine⟨⟨_,rfl,tV.two O6.out (Or.inl ⟨rfl,rfl⟩) (Or.inr ⟨Z,rfl,ZZ.out,?_,(uM x.T x.D x.cu).len⟩)⟩,⟨n+8,by omega,r1⟩,r2⟩;exact(R4.out.below N).kept (gu.block Z (R4.out.below N).lt (fun e=>(VZ.out Z e.symm).1 rfl))
theorem tV.mono {b a:Nat} {l:List Nt} (h:tV w b x l v) (f:a<=b):tV w a x l v:=by
 obtain⟨p,cap,e,j,o⟩:=h;refine⟨p,cap,e,j,fun i t s=>?_⟩;obtain⟨g,u,y,z,A,B⟩:=o i t s;refine⟨g,u,y,dL f z,?_,B⟩;rcases A with q | ⟨Z,C,D,E⟩
 ·exact Or.inl q
 ·exact Or.inr ⟨Z,C,dL f D,E⟩
theorem DU {r:Ro} (h:r.rings=true):r.tick.ac=false/\r.ac=false:=by
 unfold Ro.rings at h;unfold Ro.tick
 cases a:r.ac
 ·exact⟨by simp,rfl⟩
 ·rw[a]at h;simp at h
theorem Ld (h:Nd w0 w k x m n) (t:Int):Nd w0 (w.setCell ⟨k.nd,3,none⟩ (.int .i64 t)) k {x with now:=t} m n/\ay k.all w (w.setCell ⟨k.nd,3,none⟩ (.int .i64 t)):=⟨h.RH t,ay.one (aC.set _ _ _ _) k.tK⟩
theorem acR {s:Nat->Addr} (S:Gz w0 s) (h:Nd w0 w k x m n) (O:0<=x.now) (P:x.now<=999999999) (Q:m<=90000000) (R:n<=100000000) :
  Calls prog 180 #[.pointer (some ⟨k.nd,0,none⟩)] w fun e w'=>(∃v,e=.returned (.tuple #[v,aO s x.lg])/\tV w' w.heap.size x.tk1 x.dN v)/\(∃u,u<=n+8/\Nd w0 w' k x.tick (m+33) u)/\ay k.all w w':=by
 have HS:=jH S;have T:=jH h;have f:Hid (0<=x.now/\x.now<=999999999/\m<=90000000/\n<=100000000):=⟨O,P,Q,R⟩;have c3:=h.c3;have f3:=h.nd.fr 3;have H:(x.now==1099511627776)=false:=by rw[dG];omega
 have hw:IntKind.i64.wrap (x.now+1)=x.now+1:=by rw[iI];omega
 clear S h O P Q R;go_enter func180,ntmps180;go_upto_region 4 with fail
 go_wp2_with fail;have y:Hid (Nd w0 (w.setCell ⟨k.nd,3,none⟩ (.int .i64 (x.now+1))) k {x with now:=x.now+1} m n):=(Ld T.out _).1;have U:Hid (ay k.all w (w.setCell ⟨k.nd,3,none⟩ (.int .i64 (x.now+1)))):=(Ld T.out _).2;clear c3 f3 H hw;generalize w.setCell ⟨k.nd,3,none⟩ (.int .i64 (x.now+1))=w1 at *;have hS:w1.drew.cell? ⟨k.nd,6,none⟩=some (.pointer (some ⟨k.te,0,none⟩))/\w1.drew.cell? ⟨k.te,0,none⟩=some (.pointer (some ⟨k.tb,0,none⟩))/\w1.drew.cell? ⟨k.nd,3,none⟩=some (.int .i64 (x.now+1)):=⟨y.out.c6,y.out.t0,y.out.c3⟩;go_region_held3 (fun w'=>w'.cell? ⟨k.nd,6,none⟩=some (.pointer (some ⟨k.te,0,none⟩))/\w'.cell? ⟨k.te,0,none⟩=some (.pointer (some ⟨k.tb,0,none⟩))/\w'.cell? ⟨k.nd,3,none⟩=some (.int .i64 (x.now+1)))
  (first | assumption | exact⟨j.out.c6,j.out.t0,j.out.c3⟩)
  (first | (go_at_call 221;refine(UL y.out.drew (by have:=f.out;omega) (x.now+1)).mono ?_;rintro e w2 ⟨⟨v2,rfl⟩,V,k2⟩;have j:=jH V;have W:=jH ((U.out.then bD).trans k2);clear V k2))
 clear hS;have c0:=j.out.c0;go_wp2_with fail;refine jM (dR k.ro x.ro w2 j.out.ro) fun X z=>?_;obtain rfl:=z.symm;clear z;go_wp2_with fail;obtain⟨r,hr⟩:∃r,x.ro.rings=r:=⟨_,rfl⟩;refine jM (Yr j.out r hr) fun X ⟨Y,k3⟩=>?_;have I:Hid (Nd w0 X k x.au (m+1) n):=Y;have F:=jH (W.out.trans k3);clear Y k3 y U j W c0
 cases r
 ·have i:Hid (x.lg=0):=by show _=_;unfold No.lg;rw[hr];rfl
  have J:Hid (x.tk1=x.au):=by show _=_;unfold No.tk1;rw[hr];rfl
  have A:Hid (x.dN=x.au.notes (!x.ro.ac)):=by show _=_;unfold No.dN;rw[i.out,J.out];rfl
  have B:Hid (x.tick=x.au.noted):=by show _=_;unfold No.tick;rw[i.out,J.out];rfl
  go_wp2_with fail;refine(Lc I.out (!x.ro.ac) (by have:=f.out;show 0<=x.now+1;omega) (by have:=f.out;omega) f.out.2.2.2).mono ?_;rintro e w4 ⟨⟨v4,rfl,nv⟩,⟨u,a,C⟩,k4⟩;have V4:=jH (nv.mono F.out.size);have G:=jH C;have D:=jH (F.out.trans k4);have l:=jH a;clear nv C k4 a;go_wp2_with fail;go_ret2;exact⟨⟨v4,by rw[i.out];rfl,by rw[J.out,A.out];exact V4.out⟩,⟨u,l.out,by rw[B.out];exact G.out.more om⟩,D.out⟩
 ·have o:=DU hr;have p:Hid (x.tk1=x.au.rP/\x.lg=x.au.mM):=by
   constructor
   ·unfold No.tk1;rw[hr];rfl
   ·unfold No.lg;rw[hr];rfl
  have HF:=jH o.2;have K:=jH o.1;clear o;go_wp2_with fail;refine jM (UO HS.out I.out K.out (by have:=f.out;show 0<=x.now+1;omega) (by have:=f.out;show x.now+1<=_;omega) (by have:=f.out;omega)) fun w4 ⟨C,k4⟩=>?_;have G:Hid (Nd w0 w4 k x.au.rP (m+33) n):=C.more om;have D:=jH (F.out.trans k4);clear C k4 I F;by_cases E:x.au.mM=0
  ·have i:Hid (x.lg=0):=by show _=_;rw[p.out.2,E]
   have A:Hid (x.dN=x.au.rP.notes (!x.ro.ac)):=by show _=_;unfold No.dN;rw[i.out,p.out.1];rfl
   have B:Hid (x.tick=x.au.rP.noted):=by show _=_;unfold No.tick;rw[i.out,p.out.1];rfl
   have L:Hid (x.au.rP.now=x.now+1):=by show _=_;unfold No.rP;split;split;rfl;rfl;rfl
   rw[E];clear E;simp only[aO];go_wp2_with fail;refine(Lc G.out (!x.ro.ac) (by rw[L.out];have:=f.out;omega) (by have:=f.out;omega) f.out.2.2.2).mono ?_;rintro e w5 ⟨⟨v5,rfl,nv⟩,⟨u,a,Z⟩,k5⟩;have V5:=jH (nv.mono D.out.size);have N5:=jH Z;have K5:=jH (D.out.trans k5);have l:=jH a;clear nv Z k5 a;go_wp2_with fail;go_ret2;exact⟨⟨v5,by rw[i.out];rfl,by rw[p.out.1,A.out];exact V5.out⟩,⟨u,l.out,by rw[B.out];exact N5.out⟩,K5.out⟩
  ·have i:Hid (¬x.lg=0):=by show ¬_=_;rw[p.out.2];exact E
   have A:Hid (x.dN=[]):=by show _=_;unfold No.dN;rw[ak i.out]
   have B:Hid (x.tick=x.au.rP):=by show _=_;unfold No.tick;rw[ak i.out,p.out.1]
   obtain⟨M,q⟩:∃M,x.au.mM=M+1:=⟨x.au.mM - 1,by omega⟩;have N:Hid (x.lg=M+1):=by show _=_;rw[p.out.2,q]
   rw[q];clear E q;simp only[aO];go_wp2_with fail;go_ret2;exact⟨⟨_,by rw[N.out];rfl,by rw[A.out];exact tV.nil _ _ _⟩,⟨n,by omega,by rw[B.out];exact G.out⟩,D.out⟩
end
theorem YB {w0 w:World} {k:Bk} {x:No} {m n:Nat} (h:Nd w0 w k x m n) :
  Calls prog 108 #[.pointer (some (k.nd,0))] w fun e w'=>(∃Z,e=.returned (.slice (some ⟨Z,0,none⟩) 32 32)/\iD w' Z x.T/\w.heap.size<=Z)/\Below w w w':=by
 have i:Hid (Nd w0 w k x m n):=h;have c:=h.c6;have t:=h.t0;clear h;go_enter func108,ntmps108;go_wp2_with fail;refine(Ut k.tb x.low x.T w i.tb).mono ?_;rintro e a ⟨rfl,f,b1⟩;have j:Hid (iD a w x.T):=f;have l:Hid (Below w w a):=b1;clear f b1;go_wp2_with fail;go_ret;exact⟨⟨_,rfl,j,bJ _⟩,l⟩
end Go.Proofs.YtnogmjekhjldcaaGreatDoor
