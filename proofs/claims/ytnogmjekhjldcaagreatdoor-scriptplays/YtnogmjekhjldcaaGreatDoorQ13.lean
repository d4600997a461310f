/-
  What the claimed theorem reaches, part Q13.
-/
import Derived.Test.YtnogmjekhjldcaaGreatDoorQ12
import Derived.Deep.CutBlock
namespace Go.Proofs.YtnogmjekhjldcaaGreatDoor
open Go.RowKit Go.Proofs.Tryz
set_option maxRecDepth 100000
set_option maxHeartbeats 8000000
structure ae4 (w:World) (s:Nat->Addr):Prop where
 c1:w.cell? (0,0)=some (.iface 359 (.pointer (some (s 1))))
 c8:w.cell? (10,0)=some (.iface 359 (.pointer (some (s 8))))
theorem YC (w:World):Calls prog 271 #[.int .i64 2,.int .i64 1] w fun e w'=>e=.returned (.tuple #[.int .i64 1,.nilIface])/\w'=w:=by
 go_enter func271,ntmps271;go_wp2_with fail;go_ret2;exact⟨rfl,rfl⟩
def YD (s:Nat->Addr):Nat->Value
 | 0=>.nilIface
 | k+1=>.iface 359 (.pointer (some (s k)))
theorem UR (a f:Int) (s:Nat->Addr) (w:World) (S:ae4 w s) (h:((a != 1)=true/\(a != 2)=true)\/((a=1\/a=2)/\(f < 0\/15 < f))) :
  Calls prog 271 #[a,f] w fun e w'=>e=.returned (.tuple #[.int .i64 0,YD s 2])/\Below w w w':=by
 have c1:=S.c1;clear S;rcases h with⟨h1,h2⟩ | ⟨rfl | rfl,h | h⟩;all_goals
  go_enter func271,ntmps271;go_wp2_with fail;go_region;all_goals go_wp2_with fail
  all_goals go_ret2
  all_goals exact⟨rfl,bD⟩
theorem Le (a:Int) (s:Nat->Addr) (w:World) (S:ae4 w s) (f:0<=a) (i:a<=15) (h:a≠1) :
  Calls prog 271 #[.int .i64 2,a] w fun e w'=>e=.returned (.tuple #[.int .i64 0,YD s 9])/\Below w w w':=by
 have c8:=S.c8;have j:(a != 1)=true:=qY.2 h;clear S h;go_enter func271,ntmps271;go_wp2_with fail;go_region;all_goals go_wp2_with fail
 all_goals go_ret2
 all_goals exact⟨rfl,bD⟩
theorem UU (a:Int) (w:World) (f:0<=a) (h:a<=15) :
  Calls prog 271 #[.int .i64 1,a] w fun e w'=>e=.returned (.tuple #[.int .i64 2,.nilIface])/\w'=w:=by
 go_enter func271,ntmps271;go_wp2_with fail;go_ret2;exact⟨rfl,rfl⟩
theorem UW (f a:Int) (s:Nat->Addr) (w:World) (S:ae4 w s) :
  Calls prog 271 #[f,a] w fun e w'=>e=.returned (.tuple #[.int .i64 (kL f a),YD s (kX f a)])/\Below w w w':=by
 by_cases h:(f=1\/f=2)/\0<=a/\a<=15
 ·by_cases o:f=1
  ·subst o;have i:kL 1 a=2:=by unfold kL;rw[aj h];rfl
   have j:kX 1 a=0:=by unfold kX;rw[aj h];rfl
   rw[i,j];exact(UU a w h.2.1 h.2.2).mono fun e w' ⟨l,m⟩=>⟨l,by rw[m];exact aH _ _⟩
  ·obtain rfl:f=2:=by omega
   by_cases k:a=1
   ·subst k;have i:kL 2 1=1:=by decide
    have j:kX 2 1=0:=by decide
    rw[i,j];exact(YC w).mono fun e w' ⟨l,m⟩=>⟨l,by rw[m];exact aH _ _⟩
   ·have i:kL 2 a=0:=by unfold kL;rw[aj h,ak om,ak k]
    have j:kX 2 a=9:=by unfold kX;rw[aj h,ak om,ak k]
    rw[i,j];exact Le a s w S h.2.1 h.2.2 k
 ·have i:kL f a=0:=by unfold kL;rw[ak h]
  have j:kX f a=2:=by unfold kX;rw[ak h]
  rw[i,j];refine UR f a s w S ?_;simp only[qY,ne_eq];omega
section
variable {w:World} {Q:Nat} {p:Pk} {pr:Int} {s:Nat->Addr}
def dU (w:World) (Q:Nat) (p:Pk):Prop:=w.heap[Q]? = some (.cells #[p.pr,p.a1,p.p1,p.a2,p.p2,p.fl] 35 (0,0))
theorem dU.lt (h:dU w Q p):Q < w.heap.size:=by
 rcases dX Q w with a | a
 ·exact a
 ·unfold dU at h;rw[eP a]at h;cases h
theorem dU.below {w':World} (h:dU w Q p) (a:Below w w w'):dU w' Q p:=by unfold dU;rw[a.block Q h.lt];exact h
theorem dU.gU {w':World} {l:List Nat} (h:dU w Q p) (a:ay l w w') (e:¬Q ∈ l):dU w' Q p:=by unfold dU;rw[a.block Q h.lt e];exact h
theorem dU.c (h:dU w Q p) (i:Nat):w.cell? (Q,i)=(#[p.pr,p.a1,p.p1,p.a2,p.p2,p.fl]:Array Value)[i]? := aP w _ _ _ _ _ h
theorem dU.fr (h:dU w Q p) (i:Nat):w.frozen? (Q,i)=false:=jk w _ i _ _ h
structure agq (w:World) (Q:Nat) (p:Pk):Prop where
 c0:w.cell? (Q,0)=p.pr
 c1:w.cell? (Q,1)=p.a1
 c2:w.cell? (Q,2)=p.p1
 c3:w.cell? (Q,3)=p.a2
 c4:w.cell? (Q,4)=p.p2
 c5:w.cell? (Q,5)=p.fl
theorem dU.b (h:dU w Q p):agq w Q p:=⟨h.c 0,h.c 1,h.c 2,h.c 3,h.c 4,h.c 5⟩
theorem dU.new (w:World) (p:Pk):dU (w.alloc (.cells #[p.pr,p.a1,p.p1,p.a2,p.p2,p.fl] 35)) w p:=dh w _
def No.iE (x:No) (p:Pk):Nat×Nat×Tb:=iC x.T x.low p.pr p.a1 p.p1 p.a2 p.p2 (kL p.pr p.fl) (x.now+stay p.pr (kL p.pr p.fl))
def No.zh (x:No) (p:Pk):Nat:=if adm x.ru p.pr true p.p2 then (if kX p.pr p.fl=0 then (x.iE p).2.1 else kX p.pr p.fl) else 8
def No.bg (x:No) (p:Pk):No:=if x.zh p=0 then {x with T:=(x.iE p).2.2} else x
def No.NZ (x:No) (p:Pk):Ce:=if x.zh p=0 then (x.iE p).2.2 (x.iE p).1 else vG
theorem YE {a:Int} :iR (kL pr a):=by unfold kL;repeat' split;all_goals exact iR.small om om
theorem DW {T:Tb} {low a e f i st un:Int} (h:(iC T low pr a e f i st un).2.1≠0):(iC T low pr a e f i st un).2.2=T:=by
 revert h
 unfold iC;repeat' split
 all_goals simp
theorem acS {T:Tb} {low a e f i st un:Int} (h:(iC T low pr a e f i st un).2.1=0):(iC T low pr a e f i st un).1 < 32:=by
 revert h
 unfold iC;repeat' split
 all_goals simp
 all_goals exact qm az
theorem acU {w0:World} {k:Bk} {x:No} {m n:Nat} (S:jm w0 s) (h:Nd w0 w k x m n) (f:m<=1000000000) (p:Pk) (i:iR p.pr) :
  Calls prog 272 #[.pointer (some (k.tb,0)),p.pr,.agg #[p.a1,p.p1],.agg #[p.a2,p.p2],.int .i64 (kL p.pr p.fl),.int .i64 (x.now+stay p.pr (kL p.pr p.fl))] w fun e w'=>e=.returned (.tuple #[.int .i64 ((x.iE p).1:Nat),aO s (x.iE p).2.1])/\Nd w0 w' k {x with T:=(x.iE p).2.2} (m+1) n/\ay k.all w w':=by
 have j:=h.id;have a:0<=x.low/\x.low<=100000:=by unfold No.low;omega
 refine jM (acE k.tb x.low x.T p.pr p.a1 p.p1 p.a2 p.p2 (kL p.pr p.fl) (x.now+stay p.pr (kL p.pr p.fl)) m s w (S.below h.bl).n.s45 h.tb a.1 a.2 h.vs f) fun w' ⟨t,q⟩=>?_;exact⟨rfl,h.DJ t (h.vs.add _ _ _ _ _ _ _ _) (h.wt.add _ _ _ _ _ _ _ _ i YE) q,ay.one q k.DI⟩
theorem agr {l:List Rl} {v:Value} {b:Bool} (h:aF l) (f:p.err=0) (a:agk s w l p.pr p.a1 p.p1 p.a2 p.p2 p.fl true v b):v=.nilIface/\b=adm l p.pr true p.p2:=by
 rcases a with⟨q,_⟩ | ⟨_,⟨e,q,_⟩,_⟩ | ⟨_,_,q1,q2⟩
 ·exact absurd h q
 ·unfold Pk.err at f;rw[q]at f;cases f
 ·exact⟨q1,q2⟩
theorem YF (w:World) (Q:Nat):aC Q w ((((((((w.setCell (Q,0) (.int .i64 0)).setCell (Q,1) (.int .i64 0)).setCell (Q,2) (.int .i64 0)).setCell (Q,3) (.int .i64 0)).setCell (Q,4) (.int .i64 0)).setCell (Q,5) (.int .i64 0)).setCell (Q,6) (.int .i64 0)).setCell (Q,7) (.int .i64 0)) :=
 (((((((aC.set _ _ _ _).trans (aC.set _ _ _ _)).trans (aC.set _ _ _ _)).trans (aC.set _ _ _ _)).trans (aC.set _ _ _ _)).trans (aC.set _ _ _ _)).trans (aC.set _ _ _ _)).trans (aC.set _ _ _ _)
theorem YG {w0:World} {k:Bk} {x:No} {m n:Nat} (S:jm w0 s) (h:Nd w0 w k x m n) (hm:m<=1000000000) (h0:0<=x.now) (h1:x.now<=1000000000) (hr:aF x.ru) (p:Pk) (hp:p.err=0) (Zg:iR p.pr) :
  Calls prog 231 #[.pointer (some (k.nd,0)),p.v] w fun e w'=>e=.returned (.tuple #[bI (x.NZ p),aO s (x.zh p)])/\Nd w0 w' k (x.bg p) (m+1) n/\ay k.all w w':=by
 have HS:=jH S;have F:=jH h;have HW:Hid (0<=x.now/\x.now<=1000000000/\m<=1000000000):=⟨h0,h1,hm⟩;have HR:=jH hr;have HP:=jH hp;have Zh:=jH Zg;clear S h h0 h1 hm hr hp Zg;go_enter func231,ntmps231;go_upto_region 1 with fail
 go_wp2_with fail;have B0:=aB w (.cells #[p.pr,p.a1,p.p1,p.a2,p.p2,p.fl] 35);have P1:Hid (dU ((w.alloc (.cells #[p.pr,p.a1,p.p1,p.a2,p.p2,p.fl] 35)).alloc (.cells #[.int .i64 0,.int .i64 0,.int .i64 0,.int .i64 0,.int .i64 0,.int .i64 0,.int .i64 0,.int .i64 0] 115)) w p):=(dU.new w p).below (aB _ _);have B1:Hid (Below w w ((w.alloc (.cells #[p.pr,p.a1,p.p1,p.a2,p.p2,p.fl] 35)).alloc (.cells #[.int .i64 0,.int .i64 0,.int .i64 0,.int .i64 0,.int .i64 0,.int .i64 0,.int .i64 0,.int .i64 0] 115))):=t2 B0 (aB _ _);have Z1:Hid (kR ((w.alloc (.cells #[p.pr,p.a1,p.p1,p.a2,p.p2,p.fl] 35)).alloc (.cells #[.int .i64 0,.int .i64 0,.int .i64 0,.int .i64 0,.int .i64 0,.int .i64 0,.int .i64 0,.int .i64 0] 115)) (w.heap.size+1) vG):=by
  have:=kR.zero (w.alloc (.cells #[p.pr,p.a1,p.p1,p.a2,p.p2,p.fl] 35));show kR _ _ _;simpa using this
 clear B0;generalize (w.alloc (.cells #[p.pr,p.a1,p.p1,p.a2,p.p2,p.fl] 35)).alloc (.cells #[.int .i64 0,.int .i64 0,.int .i64 0,.int .i64 0,.int .i64 0,.int .i64 0,.int .i64 0,.int .i64 0] 115)=w1 at *;have N1:=jH (F.below B1);have LW:Hid (w.heap.size<=w.heap.size):=bJ _;have LQ:Hid (w.heap.size<=w.heap.size+1):=wz _;generalize Zm:w.heap.size=P at P1 Z1 LW LQ ⊢;generalize Zn:P+1=Q at Z1 LQ ⊢;have S1:Hid (∀u,Below w1 w1 u->jm u s):=fun u L=>(HS.below N1.bl).below L;have Zi:Hid (¬Q ∈ k.all):=fun hm=>by have:=F.lt _ hm;omega
 have E:Hid (¬P ∈ k.all):=fun hm=>by have:=F.lt _ hm;omega
 have X:Hid (∀u,Nd w0 u k x m n->Calls prog 270 #[.slice k.rp x.ru.length k.rc,pkt p.pr p.a1 p.p1 p.a2 p.p2 p.fl,.bool true] u fun e w'=>e=.returned (.tuple #[.bool (adm x.ru p.pr true p.p2),.nilIface])/\Below u u w'):=fun u L=>by
  refine(Pe k.rp x.ru k.rc p.pr p.a1 p.p1 p.a2 p.p2 p.fl true s u (HS.below L.bl).n.sn L.ru (by have:=HR.1;omega)).mono ?_;rintro e w' ⟨⟨v,b,rfl,a⟩,hb⟩;obtain⟨rfl,rfl⟩:=agr HR HP a;exact⟨rfl,hb⟩
 have i:w1.drew.cell? (k.nd,4)=some (.slice k.rp x.ru.length k.rc)/\agq w1.drew P p:=⟨N1.c4,(P1.below bD).b⟩;obtain⟨g4,q0,q1,q2,q3,q4,q5⟩:=i;have i:w1.drew.cell? (k.nd,4)=some (.slice k.rp x.ru.length k.rc)/\w1.drew.cell? (P,0)=p.pr/\w1.drew.cell? (P,1)=p.a1/\w1.drew.cell? (P,2)=p.p1/\w1.drew.cell? (P,3)=p.a2/\w1.drew.cell? (P,4)=p.p2/\w1.drew.cell? (P,5)=p.fl:=⟨g4,q0,q1,q2,q3,q4,q5⟩;clear g4 q0 q1 q2 q3 q4 q5;obtain⟨ad,Y⟩:∃ad,adm x.ru p.pr true p.p2=ad:=⟨_,rfl⟩;have M:=jH Y;rw[Y]at X;clear Y;go_region_held3 (fun w'=>w'.cell? (k.nd,4)=some (.slice k.rp x.ru.length k.rc)/\w'.cell? (P,0)=p.pr/\w'.cell? (P,1)=p.a1/\w'.cell? (P,2)=p.p1/\w'.cell? (P,3)=p.a2/\w'.cell? (P,4)=p.p2/\w'.cell? (P,5)=p.fl)
  (first | assumption | exact⟨tk j i.1,tk j i.2.1,tk j i.2.2.1,tk j i.2.2.2.1,tk j i.2.2.2.2.1,tk j i.2.2.2.2.2.1,tk j i.2.2.2.2.2.2⟩)
  (first | (go_at_call 270;refine jM (X _ N1.drew) fun w2 j=>?_))
 have B2:=jH (t2 (t2 B1 bD) j);have N2:=jH (F.below B2);have P2:=jH ((P1.below bD).below j);have Z2:=jH ((Z1.below bD).below j);have S2:=jH (HS.below N2.bl);clear i j B1 N1 P1 Z1 S1 X
 cases ad
 ·have C:Hid (x.zh p=8):=by show _=_;unfold No.zh;rw[M.out];rfl
  have Z:Hid (x.bg p=x):=by show _=_;unfold No.bg;rw[C.out];rfl
  have N:Hid (x.NZ p=vG):=by show _=_;unfold No.NZ;rw[C.out];rfl
  have s7:=S2.c7;have Zp : 16≠Q:=by have hg : 16 < w0.heap.size:=eF HS.c7;have:=F.bl.size;omega
  have z:=Z2.b;have z0:=z.c0;have z1:=z.c1;have z2:=z.c2;have z3:=z.c3;have z4:=z.c4;have z5:=z.c5;have z6:=z.c6;have z7:=z.c7;have zf:=Z2.fr;simp only[vG]at z0 z1 z2 z3 z4 z5 z6 z7;clear z;go_wp2_with fail;go_region;all_goals go_wp2_with fail
  all_goals
   refine bf (v:=.tuple #[bI vG,.iface 359 (.pointer (some (s 7)))]) (by simp[results,results231,go_sem,z0,z1,z2,z3,z4,z5,z6,z7,bI,vG]) rfl ?_;rw[N.out,C.out,Z.out];have Zj:∀W,aC Q w2 W->Nd w0 W k x m n/\ay k.all w W:=fun W hc=>F.fresh N2 rfl (ay.of B2.out) hc om;refine⟨rfl,(fun q=>⟨q.1.more om,q.2⟩) (Zj _ ?_)⟩;exact(YF w2 Q).then bD
 ·have O:Hid (x.zh p=if kX p.pr p.fl=0 then (x.iE p).2.1 else kX p.pr p.fl):=by show _=_;unfold No.zh;rw[M.out];rfl
  have p0:=P2.b.c0;have p5:=P2.b.c5;go_wp2_with fail;clear p0 p5;refine jM (UW p.pr p.fl s w2 ⟨S2.c1,S2.c8⟩) fun w3 G=>?_;have B3:=jH (t2 B2 G);have N3:=jH (F.below B3);have P3:=jH (P2.below G);have Z3:=jH (Z2.below G);clear G B2 N2 P2 Z2 S2;by_cases hz:kX p.pr p.fl=0
  ·rw[aj hz]at O;rw[hz];clear hz;simp only[YD];have H:Hid (∀u,Nd w0 u k x m n->Calls prog 239 #[.pointer (some (k.nd,0)),p.pr,.int .i64 (kL p.pr p.fl)] u fun e w'=>e=.returned (.int .i64 (x.now+stay p.pr (kL p.pr p.fl)))/\Below u u w'):=fun u L=>DR L p.pr _ Zh YE HW.1 HW.2.1;have I:Hid (∀u,Nd w0 u k x m n->Calls prog 272 #[.pointer (some (k.tb,0)),p.pr,.agg #[p.a1,p.p1],.agg #[p.a2,p.p2],.int .i64 (kL p.pr p.fl),.int .i64 (x.now+stay p.pr (kL p.pr p.fl))] u fun e w'=>e=.returned (.tuple #[.int .i64 ((x.iE p).1:Nat),aO s (x.iE p).2.1])/\Nd w0 w' k {x with T:=(x.iE p).2.2} (m+1) n/\ay k.all u w'):=fun u L=>acU HS L HW.2.2 p Zh;generalize kL p.pr p.fl=bs at H I ⊢;generalize x.now+stay p.pr bs=un at H I ⊢;go_upto_region 7 with fail
   go_wp2_with fail;obtain⟨q0,q1,q2,q3,q4,_⟩:=(P3.below bD).b;have i:w3.drew.cell? (k.nd,6)=some (.pointer (some (k.te,0)))/\w3.drew.cell? (k.te,0)=some (.pointer (some (k.tb,0)))/\w3.drew.cell? (P,0)=p.pr/\w3.drew.cell? (P,1)=p.a1/\w3.drew.cell? (P,2)=p.p1/\w3.drew.cell? (P,3)=p.a2/\w3.drew.cell? (P,4)=p.p2:=⟨N3.c6,N3.t0,q0,q1,q2,q3,q4⟩;clear q0 q1 q2 q3 q4;go_region_held3 (fun w'=>w'.cell? (k.nd,6)=some (.pointer (some (k.te,0)))/\w'.cell? (k.te,0)=some (.pointer (some (k.tb,0)))/\w'.cell? (P,0)=p.pr/\w'.cell? (P,1)=p.a1/\w'.cell? (P,2)=p.p1/\w'.cell? (P,3)=p.a2/\w'.cell? (P,4)=p.p2)
    (first | assumption | exact⟨tk f i.1,tk f i.2.1,tk f i.2.2.1,tk f i.2.2.2.1,tk f i.2.2.2.2.1,tk f i.2.2.2.2.2.1,tk f i.2.2.2.2.2.2⟩ | exact⟨N6.c6,N6.t0,R.keeps E (tk f i.2.2.1),R.keeps E (tk f i.2.2.2.1),R.keeps E (tk f i.2.2.2.2.1),R.keeps E (tk f i.2.2.2.2.2.1),R.keeps E (tk f i.2.2.2.2.2.2)⟩)
    (first
     | (go_at_call 239;refine jM (H _ N3.drew) fun w5 f=>?_)
     | (go_at_call 272;refine jM (I _ (N3.drew.below f)) fun w6 ⟨n6,k6⟩=>?_;have N6:=jH n6;have R:=jH k6;clear n6 k6))
   have Z6:=jH (((Z3.below bD).below f).gU R Zi);have X6:=jH ((ay.of (t2 (t2 B3 bD) f)).trans R);clear i f R B3 N3 P3 Z3 H I;by_cases l:(x.iE p).2.1=0
   ·have C:Hid (x.zh p=0):=by show _=_;rw[O.out,l]
    have Z:Hid (x.bg p={x with T:=(x.iE p).2.2}):=by show _=_;unfold No.bg;rw[C.out];rfl
    have N:Hid (x.NZ p=(x.iE p).2.2 (x.iE p).1):=by show _=_;unfold No.NZ;rw[C.out];rfl
    have Zk:=jH (acS l);rw[l];simp only[aO];go_wp2_with fail;refine jM (RQ N6 (x.iE p).1 Zk) fun w7 J=>?_;have N7:=jH (N6.below J);have X7:=jH (X6.then J);have Z7:=jH (Z6.below J);clear J N6 X6 Z6 l;obtain⟨c,hc⟩:∃c,(x.iE p).2.2 (x.iE p).1=c:=⟨_,rfl⟩;rw[show({x with T:=(x.iE p).2.2}:No).T (x.iE p).1=c from hc];rw[hc]at N;clear hc;obtain⟨w9,o,y,A⟩:=gV Z7 c;obtain⟨K,U⟩:=F.fresh N7 rfl X7 A om;have N9:=jH K;have K9:=jH U;have Z9:=jH y;clear K U y A;simp only[bI];go_wp2_with (refine aA rfl 115 _ _ rfl _ _ _ rfl rfl o ?_)
    clear o;have q:=Z9.b;go_wp2_with fail;exact bf (v:=.tuple #[bI c,.nilIface]) (by simp[results,results231,go_sem,q.c0,q.c1,q.c2,q.c3,q.c4,q.c5,q.c6,q.c7,bI]) rfl ⟨by rw[N.out,C.out];rfl,by rw[Z.out];exact N9,K9⟩
   ·have C:=jH O.out;have Z:Hid (x.bg p=x):=by show _=_;unfold No.bg;rw[ak (by rw[C.out];exact l)]
    have N:Hid (x.NZ p=vG):=by show _=_;unfold No.NZ;rw[ak (by rw[C.out];exact l)]
    have Zl:Hid ((x.iE p).2.2=x.T):=DW l;obtain⟨V,D⟩:∃V,(x.iE p).2.1=V+1:=⟨(x.iE p).2.1 - 1,by omega⟩;rw[D]at C ⊢;clear l D;simp only[aO];obtain⟨w9,B,y,A⟩:=gV Z6 vG;have o:=B;obtain⟨K,U⟩:=F.fresh N6 rfl X6 A om;have N9:Hid (Nd w0 w9 k x (m+1) n):=by rw[Zl.out]at K;exact K
    have K9:=jH U;have Z9:=jH y;clear K U y A B;go_wp2_with (refine aA rfl 115 _ _ rfl _ _ _ rfl rfl o ?_)
    clear o;have q:=Z9.b;go_wp2_with fail;exact bf (v:=.tuple #[bI vG,.iface 359 (.pointer (some (s V)))]) (by simp[results,results231,go_sem,q.c0,q.c1,q.c2,q.c3,q.c4,q.c5,q.c6,q.c7,bI]) rfl ⟨by rw[N.out,C.out];rfl,by rw[Z.out];exact N9,K9⟩
  ·rw[ak hz]at O;have Z:Hid (x.bg p=x):=by show _=_;unfold No.bg;rw[ak (by rw[O.out];exact hz)]
   have N:Hid (x.NZ p=vG):=by show _=_;unfold No.NZ;rw[ak (by rw[O.out];exact hz)]
   obtain⟨V,D⟩:∃V,kX p.pr p.fl=V+1:=⟨kX p.pr p.fl - 1,by omega⟩;have C:Hid (x.zh p=V+1):=by show _=_;rw[O.out,D]
   rw[D];clear hz D O;simp only[YD];obtain⟨w9,B,y,A⟩:=gV Z3 vG;have o:=B;obtain⟨K,U⟩:=F.fresh N3 rfl (ay.of B3.out) A om;have N9:=jH K;have K9:=jH U;have Z9:=jH y;clear K U y A B;go_wp2_with (refine aA rfl 115 _ _ rfl _ _ _ rfl rfl o ?_)
   clear o;have q:=Z9.b;go_wp2_with fail;exact bf (v:=.tuple #[bI vG,.iface 359 (.pointer (some (s V)))]) (by simp[results,results231,go_sem,q.c0,q.c1,q.c2,q.c3,q.c4,q.c5,q.c6,q.c7,bI]) rfl ⟨by rw[N.out,C.out];rfl,by rw[Z.out];exact N9.more om,K9⟩
end
def No.fnd (x:No) (p:Pk):Option Nat:=fst x.T (iQ p.pr p.a1 p.p1 p.a2 p.p2)
def No.Px (x:No) (p:Pk):Ce:=match x.fnd p with | some j=>x.T j | none=>x.NZ p
def No.Lh (x:No) (p:Pk):Nat:=match x.fnd p with | some _=>0 | none=>x.zh p
def No.ou (x:No) (p:Pk):No:=match x.fnd p with | some j=>x.mP j p.fl true | none=>x.bg p
theorem Py {w0 w:World} {k:Bk} {x:No} {m n:Nat} {s:Nat->Addr} (S:jm w0 s) (h:Nd w0 w k x m n) (L:m<=1000000000) (h0:0<=x.now) (h1:x.now<=1000000000) (hr:aF x.ru) (p:Pk) (hp:p.err=0) (E:iR p.pr) :
  Calls prog 194 #[.pointer (some (k.nd,0)),p.v] w fun e w'=>e=.returned (.tuple #[bI (x.Px p),aO s (x.Lh p)])/\Nd w0 w' k (x.ou p) (m+1) n/\ay k.all w w':=by
 have HS:=jH S;have F:=jH h;have D:Hid (0<=x.now/\x.now<=1000000000/\m<=1000000000):=⟨h0,h1,L⟩;have HR:=jH hr;have HP:=jH hp;have R:=jH E;clear S h h0 h1 L hr hp E;go_enter func194,ntmps194;go_upto_region 1 with fail
 go_wp2_with fail;have B0:=aB w (.cells #[p.pr,p.a1,p.p1,p.a2,p.p2,p.fl] 35);have M:Hid (dU ((w.alloc (.cells #[p.pr,p.a1,p.p1,p.a2,p.p2,p.fl] 35)).alloc (.cells #[.int .i64 0,.int .i64 0,.int .i64 0,.int .i64 0,.int .i64 0,.int .i64 0,.int .i64 0,.int .i64 0] 115)) w p):=(dU.new w p).below (aB _ _);have U:Hid (Below w w ((w.alloc (.cells #[p.pr,p.a1,p.p1,p.a2,p.p2,p.fl] 35)).alloc (.cells #[.int .i64 0,.int .i64 0,.int .i64 0,.int .i64 0,.int .i64 0,.int .i64 0,.int .i64 0,.int .i64 0] 115))):=t2 B0 (aB _ _);have N:Hid (kR ((w.alloc (.cells #[p.pr,p.a1,p.p1,p.a2,p.p2,p.fl] 35)).alloc (.cells #[.int .i64 0,.int .i64 0,.int .i64 0,.int .i64 0,.int .i64 0,.int .i64 0,.int .i64 0,.int .i64 0] 115)) (w.heap.size+1) vG):=by
  have:=kR.zero (w.alloc (.cells #[p.pr,p.a1,p.p1,p.a2,p.p2,p.fl] 35));show kR _ _ _;simpa using this
 clear B0;generalize (w.alloc (.cells #[p.pr,p.a1,p.p1,p.a2,p.p2,p.fl] 35)).alloc (.cells #[.int .i64 0,.int .i64 0,.int .i64 0,.int .i64 0,.int .i64 0,.int .i64 0,.int .i64 0,.int .i64 0] 115)=w1 at *;have O:=jH (F.below U);have LW:Hid (w.heap.size<=w.heap.size):=bJ _;have LQ:Hid (w.heap.size<=w.heap.size+1):=wz _;generalize Zh:w.heap.size=P at M N LW LQ ⊢;generalize Zi:P+1=Q at N LQ ⊢;obtain⟨o,V⟩:∃o,x.fnd p=o:=⟨_,rfl⟩;have W:=jH V;have G:Hid (∀u,Nd w0 u k x m n->Calls prog 230 #[.pointer (some (k.tb,0)),p.pr,.agg #[p.a1,p.p1],.agg #[p.a2,p.p2]] u fun e w'=>e=.returned (.tuple #[.int .i64 ((o.getD 0:Nat):Int),.bool o.isSome])/\Below u u w'):=fun u hu=>by
  have:=Dh k.tb x.low x.T p.pr p.a1 p.p1 p.a2 p.p2 u hu.tb;rw[show fst x.T (iQ p.pr p.a1 p.p1 p.a2 p.p2)=o from V]at this;exact this
 clear V;obtain⟨q0,q1,q2,q3,q4,_⟩:=(M.below bD).b;have z:w1.drew.cell? (k.nd,6)=some (.pointer (some (k.te,0)))/\w1.drew.cell? (k.te,0)=some (.pointer (some (k.tb,0)))/\w1.drew.cell? (P,0)=p.pr/\w1.drew.cell? (P,1)=p.a1/\w1.drew.cell? (P,2)=p.p1/\w1.drew.cell? (P,3)=p.a2/\w1.drew.cell? (P,4)=p.p2:=⟨O.c6,O.t0,q0,q1,q2,q3,q4⟩;clear q0 q1 q2 q3 q4;go_region_held3 (fun w'=>w'.cell? (k.nd,6)=some (.pointer (some (k.te,0)))/\w'.cell? (k.te,0)=some (.pointer (some (k.tb,0)))/\w'.cell? (P,0)=p.pr/\w'.cell? (P,1)=p.a1/\w'.cell? (P,2)=p.p1/\w'.cell? (P,3)=p.a2/\w'.cell? (P,4)=p.p2)
  (first | assumption | exact⟨tk a z.1,tk a z.2.1,tk a z.2.2.1,tk a z.2.2.2.1,tk a z.2.2.2.2.1,tk a z.2.2.2.2.2.1,tk a z.2.2.2.2.2.2⟩)
  (first | (go_at_call 230;refine jM (G _ O.drew) fun w2 a=>?_))
 have X:=jH (t2 (t2 U bD) a);have N2:=jH (F.below X);have P2:=jH ((M.below bD).below a);have Z2:=jH ((N.below bD).below a);have H:Hid (¬Q ∈ k.all):=fun L=>by have:=F.lt _ L;omega
 clear z a U O M N G;obtain⟨r0,r1,r2,r3,r4,r5⟩:=P2.b
 cases o with
 | some j =>
  have Y:=jH (qm W);have y:Hid (x.Px p=x.T j/\x.Lh p=0/\x.ou p=x.mP j p.fl true):=by unfold No.Px No.Lh No.ou;rw[W.out];exact⟨rfl,rfl,rfl⟩
  simp only[Aw,BZ];go_wp2_with fail;clear r0 r1 r2 r3 r4 r5;refine jM (RV HS N2 D.2.2 D.1 D.2.1 j Y p.fl true) fun w7 ⟨I,k7⟩=>?_;have Z:=jH I;have X7:=jH ((ay.of X.out).trans k7);have Z7:=jH (Z2.gU k7 H);have A:Hid ((x.mP j p.fl true).ru=x.ru):=by show _=_;unfold No.mP;split <;> rfl
  clear I k7;obtain⟨c,B⟩:∃c,x.T j=c:=⟨_,rfl⟩;rw[B];rw[B]at y;clear B;obtain⟨w9,f,i,l⟩:=gV Z7 c;obtain⟨J,K⟩:=F.fresh Z A X7 l om;have N9:=jH J;have K9:=jH K;have Z9:=jH i;clear J K i l;simp only[bI];go_wp2_with (refine aA rfl 115 _ _ rfl _ _ _ rfl rfl f ?_)
  clear f;have q:=Z9.b;go_wp2_with fail;exact bf (v:=.tuple #[bI c,.nilIface]) (by simp[results,results194,go_sem,q.c0,q.c1,q.c2,q.c3,q.c4,q.c5,q.c6,q.c7,bI]) rfl ⟨by rw[y.1,y.2.1];rfl,by rw[y.2.2];exact N9,K9⟩
 | none =>
  have y:Hid (x.Px p=x.NZ p/\x.Lh p=x.zh p/\x.ou p=x.bg p):=by unfold No.Px No.Lh No.ou;rw[W.out];exact⟨rfl,rfl,rfl⟩
  simp only[Az,Cb];go_wp2_with fail;clear r0 r1 r2 r3 r4 r5;refine jM (YG HS N2 D.2.2 D.1 D.2.1 HR p HP R) fun w7 ⟨I,k7⟩=>?_;have Z:=jH I;have X7:=jH ((ay.of X.out).trans k7);have Z7:=jH (Z2.gU k7 H);have A:Hid ((x.bg p).ru=x.ru):=by show _=_;unfold No.bg;split <;> rfl
  clear I k7;obtain⟨c,B⟩:∃c,x.NZ p=c:=⟨_,rfl⟩;obtain⟨ev,C⟩:∃ev,aO s (x.zh p)=ev:=⟨_,rfl⟩;have Zg:Hid (aO s (x.Lh p)=ev):=by show _=_;rw[y.2.1];exact C
  rw[B,C];rw[B]at y;clear B C;obtain⟨w9,f,i,l⟩:=gV Z7 c;obtain⟨J,K⟩:=F.fresh Z A X7 l om;have N9:=jH J;have K9:=jH K;have Z9:=jH i;clear J K i l;simp only[bI];go_wp2_with (refine aA rfl 115 _ _ rfl _ _ _ rfl rfl f ?_)
  clear f;have q:=Z9.b;go_wp2_with fail;exact bf (v:=.tuple #[bI c,ev]) (by simp[results,results194,go_sem,q.c0,q.c1,q.c2,q.c3,q.c4,q.c5,q.c6,q.c7,bI]) rfl ⟨by rw[y.1,Zg.out],by rw[y.2.2];exact N9,K9⟩
def aU:Pk:=⟨0,0,0,0,0,0⟩
theorem dU.zero (w:World):dU (w.alloc (.cells #[.int .i64 0,.int .i64 0,.int .i64 0,.int .i64 0,.int .i64 0,.int .i64 0] 35)) w aU:=dh w _
theorem bZ {w:World} {Q:Nat} {c:Pk} (h:dU w Q c) (d:Pk) :
  ∃w',(Instr.storeAt 35 (.pointer (some (Q,0))) (.agg #[d.pr,d.a1,d.p1,d.a2,d.p2,d.fl])).run prog w=.ok () w'/\dU w' Q d/\aC Q w w':=by
 have f:(sizeOf 35).run prog w=.ok 6 w:=by kernel_rfl
 have a:=Ii prog Q 0 35 [d.pr,d.a1,d.p1,d.a2,d.p2,d.fl] 0 _ w h sM (fun u e=>by
  simp only[dI,eY,fA]at e;rcases e with rfl | rfl | rfl | rfl | rfl | rfl <;> rfl)
 refine⟨w.setRow Q #[d.pr,d.a1,d.p1,d.a2,d.p2,d.fl],?_,Cc w Q _ _ _ _ h,pW _ _ _⟩;simp only[Instr.storeAt,Instr.sureAddr,nM,qX,pR,storeVar,f,Value.cells];simp at a ⊢;exact a
theorem GH (w:World) (Q:Nat):aC Q w ((((((w.setCell (Q,0) (.int .i64 0)).setCell (Q,1) (.int .i64 0)).setCell (Q,2) (.int .i64 0)).setCell (Q,3) (.int .i64 0)).setCell (Q,4) (.int .i64 0)).setCell (Q,5) (.int .i64 0)) :=
 (((((aC.set _ _ _ _).trans (aC.set _ _ _ _)).trans (aC.set _ _ _ _)).trans (aC.set _ _ _ _)).trans (aC.set _ _ _ _)).trans (aC.set _ _ _ _)
theorem tX (w:World) (P a b:Nat) (u v:Value):aC P w ((w.setCell (P,a) u).setCell (P,b) v):=(aC.set _ _ _ _).trans (aC.set _ _ _ _)
def No.oh (x:No) (p:Pk):Nat:=if x.chk p=0 then x.Lh p else x.chk p
def No.eU (x:No) (p:Pk):Pk:=if x.oh p=0 then ⟨p.pr,1,(x.Px p).po,p.a2,p.p2,p.fl⟩ else aU
def No.ins (x:No) (p:Pk):No:=if x.chk p=0 then x.ou p else x
theorem acV {x:No} {p:Pk} (h:x.chk p=0):p.err=0:=by
 unfold No.chk at h;by_cases e:p.err=0
 ·exact e
 ·rw[ak e]at h;exact absurd h e
theorem ags (x:No) (p:Pk):(x.ou p).ru=x.ru:=by
 unfold No.ou;split
 ·unfold No.mP;split <;> rfl
 ·unfold No.bg;split <;> rfl
theorem UY {w0 w:World} {k:Bk} {x:No} {m n:Nat} {s:Nat->Addr} (S:jm w0 s) (h:Nd w0 w k x m n) (K:m<=1000000000) (h0:0<=x.now) (h1:x.now<=1000000000) (hr:aF x.ru) (p:Pk) (L:iR p.pr) :
  Calls prog 154 #[.pointer (some (k.nd,0)),p.v] w fun e w'=>e=.returned (.tuple #[(x.eU p).v,aO s (x.oh p)])/\Nd w0 w' k (x.ins p) (m+1) n/\ay k.all w w':=by
 have HR:=jH hr;clear hr;have V:=jH S;have C:=jH h;have W:Hid (0<=x.now/\x.now<=1000000000/\m<=1000000000):=⟨h0,h1,K⟩;have X:=jH L;clear S h h0 h1 K L;go_enter func154,ntmps154;go_wp2_with fail;have B0:=aB w (.cells #[p.pr,p.a1,p.p1,p.a2,p.p2,p.fl] 35);have Y:Hid (dU ((w.alloc (.cells #[p.pr,p.a1,p.p1,p.a2,p.p2,p.fl] 35)).alloc (.cells #[.int .i64 0,.int .i64 0,.int .i64 0,.int .i64 0,.int .i64 0,.int .i64 0] 35)) w p):=(dU.new w p).below (aB _ _);have Z:Hid (Below w w ((w.alloc (.cells #[p.pr,p.a1,p.p1,p.a2,p.p2,p.fl] 35)).alloc (.cells #[.int .i64 0,.int .i64 0,.int .i64 0,.int .i64 0,.int .i64 0,.int .i64 0] 35))):=t2 B0 (aB _ _);have R:Hid (dU ((w.alloc (.cells #[p.pr,p.a1,p.p1,p.a2,p.p2,p.fl] 35)).alloc (.cells #[.int .i64 0,.int .i64 0,.int .i64 0,.int .i64 0,.int .i64 0,.int .i64 0] 35)) (w.heap.size+1) aU):=by
  have:=dU.zero (w.alloc (.cells #[p.pr,p.a1,p.p1,p.a2,p.p2,p.fl] 35));show dU _ _ _;simpa using this
 clear B0;generalize (w.alloc (.cells #[p.pr,p.a1,p.p1,p.a2,p.p2,p.fl] 35)).alloc (.cells #[.int .i64 0,.int .i64 0,.int .i64 0,.int .i64 0,.int .i64 0,.int .i64 0] 35)=w1 at *;have N1:=jH (C.below Z);have LW:Hid (w.heap.size<=w.heap.size):=bJ _;have LQ:Hid (w.heap.size<=w.heap.size+1):=wz _;generalize Zj:w.heap.size=P at Y R LW LQ ⊢;generalize Zk:P+1=Q at R LQ ⊢;have Zg:Hid (¬Q ∈ k.all):=fun K=>by have:=C.lt _ K;omega
 have Zh:Hid (¬P ∈ k.all):=fun K=>by have:=C.lt _ K;omega
 refine jM (KZ V N1 p) fun w2 A=>?_;have B2:=jH (t2 Z A);have N2:=jH (C.below B2);have P2:=jH (Y.below A);have Z2:=jH (R.below A);have S2:=jH (V.below N2.bl);clear A Z N1 Y R;by_cases D:x.chk p=0
 ·have HP:=jH (acV D);have HE:Hid (x.oh p=x.Lh p):=by show _=_;unfold No.oh;rw[aj D]
  have T:Hid (x.ins p=x.ou p):=by show _=_;unfold No.ins;rw[aj D]
  have y:=jH (ags x p);obtain⟨r0,r1,r2,r3,r4,r5⟩:=P2.b;rw[D];clear D;simp only[aO];go_wp2_with fail;clear r0 r1 r2 r3 r4 r5;refine jM (Py V N2 W.2.2 W.1 W.2.1 HR p HP X) fun E ⟨n3,k3⟩=>?_;obtain⟨c,I⟩:∃c,x.Px p=c:=⟨_,rfl⟩;have HC:=jH I;rw[I];clear I;have n4:=n3.below (aB E (.cells #[c.pr,c.ia,c.ip,c.fa,c.fp,c.po,c.st,c.un] 115));have N4:=jH n4;have X4:Hid (ay k.all w (E.alloc (.cells #[c.pr,c.ia,c.ip,c.fa,c.fp,c.po,c.st,c.un] 115))):=((ay.of B2.out).trans k3).then (aB _ _);have P4:Hid (dU (E.alloc (.cells #[c.pr,c.ia,c.ip,c.fa,c.fp,c.po,c.st,c.un] 115)) P p):=(P2.gU k3 Zh).below (aB _ _);have Z4:Hid (dU (E.alloc (.cells #[c.pr,c.ia,c.ip,c.fa,c.fp,c.po,c.st,c.un] 115)) Q aU):=(Z2.gU k3 Zg).below (aB _ _);have F4:=jH (kR.new E c);simp only[bI];clear n3 n4 k3;by_cases U:x.Lh p=0
  ·have f:Hid (x.oh p=0):=by show _=_;rw[HE.out,U]
   have z:Hid (x.eU p=⟨p.pr,1,c.po,p.a2,p.p2,p.fl⟩):=by show _=_;unfold No.eU;rw[aj f.out,HC.out]
   rw[U];clear U;simp only[aO];go_upto_region 7 with fail
   generalize E.alloc (.cells #[c.pr,c.ia,c.ip,c.fa,c.fp,c.po,c.st,c.un] 115)=w4 at *;generalize E.heap.size=G at *;have g5:=F4.b.c5;obtain⟨r0,r1,r2,r3,r4,r5⟩:=P4.b;have pf:=P4.fr;have J:=tX w4 P 1 2 (.int .i64 1) c.po;have Z5:=jH (Z4.gU (ay.one (l:=[P]) J sM) (by simp;omega));obtain⟨n5,k5⟩:=C.fresh N4 y X4 J om;obtain⟨w9,a,i,j⟩:=bZ Z5 ⟨p.pr,1,c.po,p.a2,p.p2,p.fl⟩;simp only at a;obtain⟨F,H⟩:=C.fresh n5 y k5 j om;have M:=jH F;have N:=jH H;have O:=jH i;clear F H i j n5 k5 J;go_wp2_with (refine aA rfl 35 _ _ rfl _ _ _ rfl rfl a ?_)
   clear a g5 r0 r1 r2 r3 r4 r5 pf;have q:=O.b;go_wp2_with fail;exact bf (v:=.tuple #[Pk.v ⟨p.pr,1,c.po,p.a2,p.p2,p.fl⟩,.nilIface]) (by simp[results,results154,go_sem,q.c0,q.c1,q.c2,q.c3,q.c4,q.c5,Pk.v]) rfl ⟨by rw[z.out,f.out];rfl,by rw[T.out];exact M,N⟩
  ·obtain⟨B,u⟩:∃B,x.Lh p=B+1:=⟨x.Lh p - 1,by omega⟩;have f:Hid (x.oh p=B+1):=by show _=_;rw[HE.out,u]
   have z:Hid (x.eU p=aU):=by show _=_;unfold No.eU;rw[ak (by rw[f.out];omega)]
   rw[u];clear U u;simp only[aO];generalize Zi:E.alloc (.cells #[c.pr,c.ia,c.ip,c.fa,c.fp,c.po,c.st,c.un] 115)=w4 at N4 X4 P4 Z4 F4;obtain⟨w9,o,i,j⟩:=bZ Z4 aU;have a:=o;obtain⟨F,H⟩:=C.fresh N4 y X4 j om;have M:=jH F;have N:=jH H;have O:=jH i;clear F H i j o;subst Zi;go_wp2_with (refine aA rfl 35 _ _ rfl _ _ _ rfl rfl a ?_)
   clear a;have q:=O.b;go_wp2_with fail;exact bf (v:=.tuple #[Pk.v aU,.iface 359 (.pointer (some (s B)))]) (by simp[results,results154,go_sem,q.c0,q.c1,q.c2,q.c3,q.c4,q.c5,Pk.v]) rfl ⟨by rw[z.out,f.out];rfl,by rw[T.out];exact M,N⟩
 ·obtain⟨B,u⟩:∃B,x.chk p=B+1:=⟨x.chk p - 1,by omega⟩;have f:Hid (x.oh p=B+1):=by show _=_;unfold No.oh;rw[ak D,u]
  have z:Hid (x.eU p=aU):=by show _=_;unfold No.eU;rw[ak (by rw[f.out];omega)]
  have T:Hid (x.ins p=x):=by show _=_;unfold No.ins;rw[ak D]
  have y:Hid (x.ru=x.ru):=rfl;rw[u];clear D u;simp only[aO];obtain⟨w9,o,i,j⟩:=bZ Z2 aU;have a:=o;obtain⟨F,H⟩:=C.fresh N2 y (ay.of B2.out) j om;have M:=jH F;have N:=jH H;have O:=jH i;clear F H i j o;go_wp2_with (refine aA rfl 35 _ _ rfl _ _ _ rfl rfl a ?_)
  clear a;have q:=O.b;go_wp2_with fail;exact bf (v:=.tuple #[Pk.v aU,.iface 359 (.pointer (some (s B)))]) (by simp[results,results154,go_sem,q.c0,q.c1,q.c2,q.c3,q.c4,q.c5,Pk.v]) rfl ⟨by rw[z.out,f.out];rfl,by rw[T.out];exact M.more om,N⟩
def No.bck (x:No) (p:Pk):Option Nat:=fst x.T (eH p.pr p.p2 p.a1 p.p1)
def No.nR (x:No) (p:Pk):Nat:=if x.chk p=0 then (if p.a2=1 then (match x.bck p with | some _=>0 | none=>4) else 3) else x.chk p
def No.IY (x:No) (p:Pk):Option Nat:=if x.chk p=0 then (if p.a2=1 then x.bck p else none) else none
def No.fB (x:No) (p:Pk):Pk:=match x.IY p with | some j=>⟨p.pr,p.a1,p.p1,(x.T j).ia,(x.T j).ip,p.fl⟩ | none=>aU
def No.jd (x:No) (p:Pk):No:=match x.IY p with | some j=>x.mP j p.fl false | none=>x
theorem ae5 (x:No) (j:Nat) (a:Int) (ou:Bool):(x.mP j a ou).ru=x.ru:=by unfold No.mP;split <;> rfl
theorem Pz {w0 w:World} {k:Bk} {x:No} {m n:Nat} {s:Nat->Addr} (S:jm w0 s) (h:Nd w0 w k x m n) (O:m<=1000000000) (h0:0<=x.now) (h1:x.now<=1000000000) (p:Pk) :
  Calls prog 155 #[.pointer (some (k.nd,0)),p.v] w fun e w'=>e=.returned (.tuple #[(x.fB p).v,aO s (x.nR p)])/\Nd w0 w' k (x.jd p) (m+1) n/\ay k.all w w':=by
 have R:=jH S;have A:=jH h;have HW:Hid (0<=x.now/\x.now<=1000000000/\m<=1000000000):=⟨h0,h1,O⟩;clear S h h0 h1 O;go_enter func155,ntmps155;go_wp2_with fail;have B0:=aB w (.cells #[p.pr,p.a1,p.p1,p.a2,p.p2,p.fl] 35);have P1:Hid (dU ((w.alloc (.cells #[p.pr,p.a1,p.p1,p.a2,p.p2,p.fl] 35)).alloc (.cells #[.int .i64 0,.int .i64 0,.int .i64 0,.int .i64 0,.int .i64 0,.int .i64 0] 35)) w p):=(dU.new w p).below (aB _ _);have B1:Hid (Below w w ((w.alloc (.cells #[p.pr,p.a1,p.p1,p.a2,p.p2,p.fl] 35)).alloc (.cells #[.int .i64 0,.int .i64 0,.int .i64 0,.int .i64 0,.int .i64 0,.int .i64 0] 35))):=t2 B0 (aB _ _);have Z1:Hid (dU ((w.alloc (.cells #[p.pr,p.a1,p.p1,p.a2,p.p2,p.fl] 35)).alloc (.cells #[.int .i64 0,.int .i64 0,.int .i64 0,.int .i64 0,.int .i64 0,.int .i64 0] 35)) (w.heap.size+1) aU):=by
  have:=dU.zero (w.alloc (.cells #[p.pr,p.a1,p.p1,p.a2,p.p2,p.fl] 35));show dU _ _ _;simpa using this
 clear B0;generalize (w.alloc (.cells #[p.pr,p.a1,p.p1,p.a2,p.p2,p.fl] 35)).alloc (.cells #[.int .i64 0,.int .i64 0,.int .i64 0,.int .i64 0,.int .i64 0,.int .i64 0] 35)=w1 at *;have N1:=jH (A.below B1);have LW:Hid (w.heap.size<=w.heap.size):=bJ _;have LQ:Hid (w.heap.size<=w.heap.size+1):=wz _;generalize Zm:w.heap.size=P at P1 Z1 LW LQ ⊢;generalize Zn:P+1=Q at Z1 LQ ⊢;have Zi:Hid (¬Q ∈ k.all):=fun O=>by have:=A.lt _ O;omega
 have Zj:Hid (¬P ∈ k.all):=fun O=>by have:=A.lt _ O;omega
 refine jM (KZ R N1 p) fun w2 F=>?_;have U:=jH (t2 B1 F);have I:=jH (A.below U);have V:=jH (P1.below F);have X:=jH (Z1.below F);have S2:=jH (R.below I.bl);clear F B1 N1 P1 Z1;by_cases E:x.chk p=0
 ·have y:=jH E;rw[E];clear E;simp only[aO];by_cases Y:p.a2=1
  ·have G:=jH Y;obtain⟨r0,r1,r2,Z,r4,r5⟩:=V.b;rw[Y]at Z;clear Y;go_upto_region 6 with fail
   clear r0 r1 r2 Z r4 r5;go_wp2_with fail;obtain⟨o,ho⟩:∃o,x.bck p=o:=⟨_,rfl⟩;have HO:=jH ho;have Zg:Hid (∀u,Nd w0 u k x m n->Calls prog 195 #[.pointer (some (k.tb,0)),p.pr,p.p2,.agg #[p.a1,p.p1]] u fun e w'=>e=.returned (.tuple #[.int .i64 ((o.getD 0:Nat):Int),.bool o.isSome])/\Below u u w'):=fun u hu=>by
    have:=Di k.tb x.low x.T p.pr p.p2 p.a1 p.p1 u hu.tb;rw[show fst x.T (eH p.pr p.p2 p.a1 p.p1)=o from ho]at this;exact this
   clear ho;obtain⟨q0,q1,q2,_,q4,_⟩:=(V.below bD).b;have J:w2.drew.cell? (k.nd,6)=some (.pointer (some (k.te,0)))/\w2.drew.cell? (k.te,0)=some (.pointer (some (k.tb,0)))/\w2.drew.cell? (P,0)=p.pr/\w2.drew.cell? (P,1)=p.a1/\w2.drew.cell? (P,2)=p.p1/\w2.drew.cell? (P,4)=p.p2:=⟨I.c6,I.t0,q0,q1,q2,q4⟩;clear q0 q1 q2 q4;go_region_held3 (fun w'=>w'.cell? (k.nd,6)=some (.pointer (some (k.te,0)))/\w'.cell? (k.te,0)=some (.pointer (some (k.tb,0)))/\w'.cell? (P,0)=p.pr/\w'.cell? (P,1)=p.a1/\w'.cell? (P,2)=p.p1/\w'.cell? (P,4)=p.p2)
    (first | assumption | exact⟨tk a J.1,tk a J.2.1,tk a J.2.2.1,tk a J.2.2.2.1,tk a J.2.2.2.2.1,tk a J.2.2.2.2.2⟩)
    (first | (go_at_call 195;refine jM (Zg _ I.drew) fun w3 a=>?_))
   have B3:=jH (t2 (t2 U bD) a);have N3:=jH (A.below B3);have P3:=jH ((V.below bD).below a);have Z3:=jH ((X.below bD).below a);have S3:=jH (R.below N3.bl);clear J a U I V X S2 Zg
   cases o with
   | some j =>
    have Zk:=jH (qm HO);have B:Hid (x.IY p=some j):=by show _=_;unfold No.IY;rw[aj y.out,aj G.out,HO.out]
    have K:Hid (x.nR p=0):=by show _=_;unfold No.nR;rw[aj y.out,aj G.out,HO.out]
    have L:Hid (x.jd p=x.mP j p.fl false):=by show _=_;unfold No.jd;rw[B.out]
    have Zh:Hid ((x.mP j p.fl false).ru=x.ru):=ae5 _ _ _ _;simp only[Aw,BZ];have r5:=P3.b.c5;go_wp2_with fail;clear r5;refine jM (RV R N3 HW.2.2 HW.1 HW.2.1 j Zk p.fl false) fun w4 ⟨n4,k4⟩=>?_;obtain⟨c,f⟩:∃c,x.T j=c:=⟨_,rfl⟩;have i:Hid (x.fB p=⟨p.pr,p.a1,p.p1,c.ia,c.ip,p.fl⟩):=by show _=_;unfold No.fB;rw[B.out];simp only[f]
    rw[f];clear f;simp only[bI];have N4:=jH n4;have X4:=jH ((ay.of B3.out).trans k4);have P4:=jH (P3.gU k4 Zj);have Z4:=jH (Z3.gU k4 Zi);clear n4 k4 N3 P3 Z3 B3;obtain⟨r0,r1,r2,Z,r4,r5⟩:=P4.b;have pf:=P4.fr;have Zp:(Instr.field 115 (.agg #[c.pr,c.ia,c.ip,c.fa,c.fp,c.po,c.st,c.un]) 1).run prog w4=.ok (.agg #[c.ia,c.ip]) w4:=by kernel_rfl
    have M:=tX w4 P 3 4 c.ia c.ip;have Z5:=jH (Z4.gU (ay.one (l:=[P]) M sM) (by simp;omega));obtain⟨n5,k5⟩:=A.fresh N4 Zh X4 M om;obtain⟨w9,z,C,D⟩:=bZ Z5 ⟨p.pr,p.a1,p.p1,c.ia,c.ip,p.fl⟩;simp only at z;obtain⟨n9,k9⟩:=A.fresh n5 Zh k5 D om;have N9:=jH n9;have K9:=jH k9;have Z9:=jH C;clear n9 k9 C D n5 k5 M;go_wp2_with (refine aA rfl 35 _ _ rfl _ _ _ rfl rfl z ?_)
    clear z r0 r1 r2 Z r4 r5 pf;have q:=Z9.b;go_wp2_with fail;exact bf (v:=.tuple #[Pk.v ⟨p.pr,p.a1,p.p1,c.ia,c.ip,p.fl⟩,.nilIface]) (by simp[results,results155,go_sem,q.c0,q.c1,q.c2,q.c3,q.c4,q.c5,Pk.v]) rfl ⟨by rw[i.out,K.out];rfl,by rw[L.out];exact N9,K9⟩
   | none =>
    have B:Hid (x.IY p=none):=by show _=_;unfold No.IY;rw[aj y.out,aj G.out,HO.out]
    have K:Hid (x.nR p=4):=by show _=_;unfold No.nR;rw[aj y.out,aj G.out,HO.out]
    have L:Hid (x.jd p=x):=by show _=_;unfold No.jd;rw[B.out]
    have i:Hid (x.fB p=aU):=by show _=_;unfold No.fB;rw[B.out]
    simp only[Az,Cb];have s3:=S3.c3;have Zl : 4≠Q:=by have hg : 4 < w0.heap.size:=eF R.c3;have:=A.bl.size;omega
    obtain⟨z0,z1,z2,z3,z4,z5⟩:=Z3.b;have zf:=Z3.fr;simp only[aU]at z0 z1 z2 z3 z4 z5;go_wp2_with fail;go_region;all_goals go_wp2_with fail
    all_goals
     refine bf (v:=.tuple #[Pk.v aU,.iface 359 (.pointer (some (s 3)))]) (by simp[results,results155,go_sem,z0,z1,z2,z3,z4,z5,Pk.v,aU]) rfl ?_;rw[i.out,K.out,L.out];have f:∀W,aC Q w3 W->Nd w0 W k x m n/\ay k.all w W:=fun W E=>A.fresh N3 rfl (ay.of B3.out) E om;refine⟨rfl,(fun q=>⟨q.1.more om,q.2⟩) (f _ ?_)⟩;exact(GH w3 Q).then bD
  ·have B:Hid (x.IY p=none):=by show _=_;unfold No.IY;rw[aj y.out,ak Y]
   have K:Hid (x.nR p=3):=by show _=_;unfold No.nR;rw[aj y.out,ak Y]
   have L:Hid (x.jd p=x):=by show _=_;unfold No.jd;rw[B.out]
   have i:Hid (x.fB p=aU):=by show _=_;unfold No.fB;rw[B.out]
   have s2:=S2.c2;have Z:=V.b.c3;have Zl : 7≠Q:=by have hg : 7 < w0.heap.size:=eF R.c2;have:=A.bl.size;omega
   obtain⟨z0,z1,z2,z3,z4,z5⟩:=X.b;have zf:=X.fr;simp only[aU]at z0 z1 z2 z3 z4 z5;go_wp2_with fail;go_region;all_goals go_wp2_with fail
   all_goals
    refine bf (v:=.tuple #[Pk.v aU,.iface 359 (.pointer (some (s 2)))]) (by simp[results,results155,go_sem,z0,z1,z2,z3,z4,z5,Pk.v,aU]) rfl ?_;rw[i.out,K.out,L.out];have f:∀W,aC Q w2 W->Nd w0 W k x m n/\ay k.all w W:=fun W E=>A.fresh I rfl (ay.of U.out) E om;refine⟨rfl,(fun q=>⟨q.1.more om,q.2⟩) (f _ ?_)⟩;exact(GH w2 Q).then bD
 ·obtain⟨e1,N⟩:∃e1,x.chk p=e1+1:=⟨x.chk p - 1,by omega⟩;have K:Hid (x.nR p=e1+1):=by show _=_;unfold No.nR;rw[ak E,N]
  have B:Hid (x.IY p=none):=by show _=_;unfold No.IY;rw[ak E]
  have L:Hid (x.jd p=x):=by show _=_;unfold No.jd;rw[B.out]
  have i:Hid (x.fB p=aU):=by show _=_;unfold No.fB;rw[B.out]
  rw[N];clear E N;simp only[aO];obtain⟨w9,H,C,D⟩:=bZ X aU;have z:=H;obtain⟨n9,k9⟩:=A.fresh I rfl (ay.of U.out) D om;have N9:=jH n9;have K9:=jH k9;have Z9:=jH C;clear n9 k9 C D H;go_wp2_with (refine aA rfl 35 _ _ rfl _ _ _ rfl rfl z ?_)
  clear z;have q:=Z9.b;go_wp2_with fail;exact bf (v:=.tuple #[Pk.v aU,.iface 359 (.pointer (some (s e1)))]) (by simp[results,results155,go_sem,q.c0,q.c1,q.c2,q.c3,q.c4,q.c5,Pk.v]) rfl ⟨by rw[i.out,K.out];rfl,by rw[L.out];exact N9.more om,K9⟩
theorem acW (d c:Ce):(((((((((d.put c.ve 1).put c.pr 2).put c.ia 3).put c.ip 4).put c.fa 5).put c.fp 6).put c.po 7).put c.st 8).put c.un 9)=c:=by
 cases c
 rfl
theorem UZ {w:World} {b:Nat} {life:Int} {T:Tb} (h:lH w b life T) (k:Nat) (c:Ce) (a:k < 32):lH ((((((((((w.setCell (b,1+k * 10) k).setCell (b,1+k * 10+1) c.ve).setCell (b,1+k * 10+2) c.pr).setCell (b,1+k * 10+3) c.ia).setCell (b,1+k * 10+4) c.ip).setCell (b,1+k * 10+5) c.fa).setCell (b,1+k * 10+6) c.fp).setCell (b,1+k * 10+7) c.po).setCell (b,1+k * 10+8) c.st).setCell (b,1+k * 10+9) c.un) b life (upd T k c):=by
 have h:=h.acz (i:=k) a;have h:=h.put (i:=k) (k:=1) c.ve a om om;have h:=h.put (i:=k) (k:=2) c.pr a om om;have h:=h.put (i:=k) (k:=3) c.ia a om om;have h:=h.put (i:=k) (k:=4) c.ip a om om;have h:=h.put (i:=k) (k:=5) c.fa a om om;have h:=h.put (i:=k) (k:=6) c.fp a om om;have h:=h.put (i:=k) (k:=7) c.po a om om;have h:=h.put (i:=k) (k:=8) c.st a om om;have h:=h.put (i:=k) (k:=9) c.un a om om;simp only[upd_same,xM,acW]at h;exact h
theorem PD (w:World) (b k:Nat) (c:Ce):aC b w ((((((((((w.setCell (b,1+k * 10) k).setCell (b,1+k * 10+1) c.ve).setCell (b,1+k * 10+2) c.pr).setCell (b,1+k * 10+3) c.ia).setCell (b,1+k * 10+4) c.ip).setCell (b,1+k * 10+5) c.fa).setCell (b,1+k * 10+6) c.fp).setCell (b,1+k * 10+7) c.po).setCell (b,1+k * 10+8) c.st).setCell (b,1+k * 10+9) c.un) :=
 (((((((((aC.set b _ w _).trans (aC.set b _ _ _)).trans (aC.set b _ _ _)).trans (aC.set b _ _ _)).trans (aC.set b _ _ _)).trans (aC.set b _ _ _)).trans (aC.set b _ _ _)).trans (aC.set b _ _ _)).trans (aC.set b _ _ _)).trans (aC.set b _ _ _)
theorem YH (b:Nat) (life:Int) (T:Tb) (k:Nat) (c:Ce) (w:World) (M:lH w b life T) (f:k < 32) :
  Calls prog 267 #[.pointer (some (b,0)),.agg #[k,c.ve,c.pr,c.ia,c.ip,c.fa,c.fp,c.po,c.st,c.un]] w fun e w'=>e=.returned (.tuple #[])/\lH w' b life (if (T k).ve < c.ve then upd T k c else T)/\aC b w w':=by
 obtain⟨x,s⟩:∃x,x=(T k).ve:=⟨_,rfl⟩;have q:=jH M;have l:=jH s;have B:=jN k
 have C:(k:Int) < 32:=by omega
 rw[<- s];clear M s;have m:Hid (lH (w.alloc (.cells #[k,c.ve,c.pr,c.ia,c.ip,c.fa,c.fp,c.po,c.st,c.un] 117)) b life T):=q.below (aB _ _);have u:Hid (aC b w (w.alloc (.cells #[k,c.ve,c.pr,c.ia,c.ip,c.fa,c.fp,c.po,c.st,c.un] 117))):=aC.of (aB _ _);have i:Hid (yZ (w.alloc (.cells #[k,c.ve,c.pr,c.ia,c.ip,c.fa,c.fp,c.po,c.st,c.un] 117)) w 0 ⟨k,c⟩):=XK w ⟨k,c⟩ _;have z:Hid (w.heap.size≠b):=fun e=>by have:=q.lt;omega
 by_cases o:x < c.ve
 ·rw[aj o];go_enter func267,ntmps267;go_wp2_with fail;generalize w.alloc (.cells #[k,c.ve,c.pr,c.ia,c.ip,c.fa,c.fp,c.po,c.st,c.un] 117)=w0 at *;obtain⟨Z,p⟩:∃Z,Z=w.heap.size:=⟨_,rfl⟩;rw[<- p]at i z ⊢;clear p q;have A:w0.cell? (b,1+k * 10+1)=x:=by rw[l.out];exact m.at' f om
  have y:=i.c0;have j:=i.c1;simp only[fE]at j;go_wp2_with fail;go_region;have h:=jH (m.below bD);have D:=jH (u.then bD);have a:=jH (i.below bD);generalize w0.drew=w1 at *;clear y j A m u i;have y:=a.c0;have j:=a.c1;have E:=a.c2;have F:=a.c3;have G:=a.c4;have H:=a.c5;have I:=a.c6;have J:=a.c7;have K:=a.c8;have L:=a.c9;have N:=h.at' (k:=0) f om;have O:=h.at' (k:=1) f om;have P:=h.at' (k:=2) f om;have Q:=h.at' (k:=3) f om;have R:=h.at' (k:=4) f om;have S:=h.at' (k:=5) f om;have U:=h.at' (k:=6) f om;have V:=h.at' (k:=7) f om;have W:=h.at' (k:=8) f om;have X:=h.at' (k:=9) f om;simp only[fE,oV]at j E F G H I J K L N;have Y:=h.fr;go_wp2_with fail;go_region;go_end0
  exact⟨rfl,(UZ h k c f).below bD,(D.trans (PD _ _ _ _)).then bD⟩
 ·rw[ak o];go_enter func267,ntmps267;go_wp2_with fail;generalize w.alloc (.cells #[k,c.ve,c.pr,c.ia,c.ip,c.fa,c.fp,c.po,c.st,c.un] 117)=w0 at *;obtain⟨Z,p⟩:∃Z,Z=w.heap.size:=⟨_,rfl⟩;rw[<- p]at i z ⊢;clear p q;have A:w0.cell? (b,1+k * 10+1)=x:=by rw[l.out];exact m.at' f om
  have y:=i.c0;have j:=i.c1;simp only[fE]at j;go_wp2_with fail;go_region;go_wp2_with fail;go_end0
  exact⟨rfl,m.below bD,u.then bD⟩
theorem take_any (b:Nat) (life:Int) (T:Tb) (x:Tc) (w:World) (M:lH w b life T) (a:okS x=true) :
  Calls prog 267 #[.pointer (some (b,0)),.agg #[x.sl,x.c.ve,x.c.pr,x.c.ia,x.c.ip,x.c.fa,x.c.fp,x.c.po,x.c.st,x.c.un]] w fun e w'=>e=.returned (.tuple #[])/\lH w' b life (tq T x)/\aC b w w':=by
 obtain⟨sl,c⟩:=x;have h:=xO.1 a;simp only at h;obtain⟨k,rfl⟩:∃k:Nat,sl=k:=⟨sl.toNat,by omega⟩;exact YH b life T k c w M om
structure Se2 (w:World) (s:Nat->Addr):Prop where
 c1:w.cell? (0,0)=some (.iface 359 (.pointer (some (s 1))))
 c9:w.cell? (15,0)=some (.iface 359 (.pointer (some (s 9))))
theorem Se2.below {w w':World} {s:Nat->Addr} (S:Se2 w s) (a:Below w w w'):Se2 w' s:=⟨tk a S.c1,tk a S.c9⟩
theorem Se2.dO {w w':World} {s:Nat->Addr} {b:Nat} (S:Se2 w s) (a:aC b w w') (e : 0≠b) (f : 15≠b):Se2 w' s:=⟨a.keeps e S.c1,a.keeps f S.c9⟩
theorem DX (T:Tb) (l:List Tc) (j:Nat) (x:Tc) (h:l[j]? = some x):mZ T (l.take (j+1))=tq (mZ T (l.take j)) x:=by
 unfold mZ;rw[xE,h];simp
theorem YJ (b:Nat) (life:Int) (l:List Tc) (p:Option Addr) (cap:Nat) (s:Nat->Addr) (w:World) (S:Se2 w s) (R:vJ w p l) (k:l.length<=100000)
  (i:life < 1\/8 < l.length\/(l.any fun x=>!okS x)=true) :
  Calls prog 227 #[.pointer (some (b,0)),life,.slice p l.length cap] w fun e w'=>e=.returned (aO s 2)/\Below w w w':=by
 have m:=jH R;have o:=jH i;have q:=jH S;have s1:=S.c1;clear R S i;go_enter func227,ntmps227;by_cases y:life < 1
 ·go_wp2_with fail;go_ret;exact⟨rfl,aH _ _⟩
 by_cases z:8 < l.length
 ·have f:(8:Int) < (l.length:Int):=by omega
  go_wp2_with fail;go_ret;exact⟨rfl,aH _ _⟩
 have f:¬(8:Int) < (l.length:Int):=by omega
 go_wp2_with fail;refine(qw p cap l _ m k).mono ?_;have j:(l.any fun x=>!okS x)=true:=by
  rcases o.out with h | h | h
  ·omega
  ·omega
  ·exact h
 rw[j];rintro e A ⟨rfl,a⟩;have u:=jH a;have s1:=(q.below a).c1;clear a j;go_wp2_with fail;go_ret;exact⟨rfl,u⟩
theorem YK (b:Nat) (life f:Int) (T:Tb) (l:List Tc) (p:Option Addr) (cap:Nat) (s:Nat->Addr) (w:World) (S:Se2 w s) (M:lH w b f T) (R:vJ w p l)
  (y:¬life < 1) (z:¬8 < l.length) (h:(l.any fun x=>!okS x)=false) (A:life < f) :
  Calls prog 227 #[.pointer (some (b,0)),life,.slice p l.length cap] w fun e w'=>e=.returned (aO s 10)/\Below w w w':=by
 have i:=jH R;have j:=jH S;have k:=jH M;have m:=jH h;have o:l.length<=100000:=by omega
 clear R S M h;have q:¬(8:Int) < (l.length:Int):=by omega
 go_enter func227,ntmps227;go_wp2_with fail;refine(qw p cap l _ i o).mono ?_;rw[m.out];rintro e B ⟨rfl,a⟩;have u:=jH a;have C:=(j.below a).c9;have D:=(k.below a).life;clear a;go_wp2_with fail;go_ret;exact⟨rfl,u⟩
theorem acX (b:Nat) (life f:Int) (T:Tb) (l:List Tc) (p:Option Addr) (cap:Nat) (w:World) (M:lH w b f T) (R:vJ w p l) (G:∀g o,p=some ⟨g,o,none⟩->g≠b)
  (h1:¬life < 1) (h2:¬8 < l.length) (H:(l.any fun x=>!okS x)=false) (h4:¬life < f) :
  Calls prog 227 #[.pointer (some ⟨b,0,none⟩),.int .i64 life,.slice p l.length cap] w fun e w'=>e=.returned .nilIface/\lH w' b life (mZ (if f < life then newT else T) l)/\aC b w w':=by
 have I:=jH R;have S:=jH M;have J:=jH H;have V:=jH G;have W:l.length<=100000:=by omega
 clear R M H G;obtain⟨U,z⟩:∃U,U=if f < life then newT else T:=⟨_,rfl⟩;have K:=jH z;rw[<- z];clear z;have X:¬(8:Int) < (l.length:Int):=by omega
 go_enter func227,ntmps227;go_wp2_with fail;refine(qw p cap l _ I.out W).mono ?_;rw[J.out];rintro e w1 ⟨rfl,i⟩;have L:=jH i;have A:=jH (S.out.below i);have B:=A.out.life;clear i;go_upto_if 33 with fail
 go_cut [34,35,36,37,38,39,40,41] (fun _ _ _ _ _ _ _ _ N=>lH N b life U/\aC b w N)
 case first =>
  by_cases O:f < life
  ·have C:Hid (U=newT):=by show _=_;rw[K.out,aj O]
   go_wp2_with fail;refine jM (Gp _) fun w2 k=>?_;have m:=jH (A.out.below k);have Y:=jH (t2 L.out k);clear k B;have B:=m.out.life;have fz:=m.out.fr 0;have D:=Ui (w:=w2.setCell ⟨b,0,none⟩ (.int .i64 life)) (b:=b) (life:=life) newT (m.out.Rz life) (jE _ _) (dZ _ _);go_wp2_with (refine AL rfl 265 _ _ rfl _ _ _ rfl rfl D ?_)
   go_meet
   case rel =>
    refine⟨?_,(((aC.of Y.out).trans (aC.set b 0 _ _)).trans (OL _ _ _))⟩;rw[C.out];exact OJ newT (m.out.Rz life)
  ·have C:Hid (U=T):=by show _=_;rw[K.out,ak O]
   have Z:Hid (f=life):=by show _=_;omega
   go_wp2_with fail;go_meet
   case rel =>
    refine⟨?_,aC.of L.out⟩;rw[C.out,<- Z.out];exact A.out
 case rest =>
  obtain⟨q,a⟩:=hcut;have m:=jH q;have C2:=jH a;clear q a B;go_wp2_with fail;go_loopw [8,44] (fun _ t wr=>∃j:Nat,j<=l.length/\t=.int .i64 j/\lH wr b life (mZ U (l.take j))/\aC b w wr) (fun _ t _=>l.length - (intOf t).toNat)
  case atStart=>exact⟨0,jY _,rfl,m.out,C2.out⟩
  case round =>
   obtain⟨j,hj,rfl,q,a⟩:=hrel;have P:=jH q;have E:=jH a;clear q a;by_cases F:j < l.length
   ·have hr:=fD F;obtain⟨y,Q⟩:∃y,y=l[j]:=⟨_,rfl⟩;rw[<- Q]at hr;have HY:=jH hr;have HK:Hid (okS y=true):=by
     show _=_;have h:=List.any_eq_false.1 J.out y (kW hr)
     cases hd:okS y
     ·rw[hd]at h;simp at h
     ·rfl
    clear Q;obtain⟨g,o,rfl,a⟩:=I.out j y hr;have a:=a.dO E.out (V.out g o rfl);have c0:=a.c0;have c1:=a.c1;have c2:=a.c2;have c3:=a.c3;have c4:=a.c4;have c5:=a.c5;have c6:=a.c6;have c7:=a.c7;have c8:=a.c8;have c9:=a.c9;clear hr a;go_wp2_with fail;refine jM (take_any b life _ y _ (P.out.below (aB _ _)) HK.out) fun w4 ⟨s,u⟩=>?_;have M4:Hid (lH w4 b life (mZ U (l.take (j+1)))):=by
     show lH _ _ _ _;rw[DX U l j y HY.out];exact s
    have C4:Hid (aC b w w4):=(E.out.then (aB _ _)).trans u;clear s u c0 c1 c2 c3 c4 c5 c6 c7 c8 c9;go_wp2_with fail;go_roundw
    case rel=>exact⟨j+1,by omega,by go_num,M4.out,C4.out⟩
    case measure=>simp[intOf];omega
   ·obtain rfl:j=l.length:=by omega
    go_wp2_with fail;go_ret;refine⟨rfl,?_,E.out⟩;have:=P.out;rw[xH]at this;exact this
theorem YM (b:Nat) (life a:Int) (T:Tb) (l:List Tc) (p:Option Addr) (cap:Nat) (s:Nat->Addr) (w:World) (S:Se2 w s) (M:lH w b a T) (R:vJ w p l) (y:∀g o,p=some ⟨g,o,none⟩->g≠b) (z:l.length<=100000) :
  Calls prog 227 #[.pointer (some (b,0)),life,.slice p l.length cap] w fun e w'=>e=.returned (aO s (fP a life l))/\lH w' b (bG a life l) (fH a life T l)/\aC b w w':=by
 by_cases f:life < 1\/8 < l.length\/(l.any fun x=>!okS x)=true
 ·have i:fP a life l=2:=by unfold fP;rw[aj f]
  refine jM (YJ b life l p cap s w S R z f) fun w' j=>?_;unfold bG fH;rw[i];exact⟨rfl,M.below j,aC.of j⟩
 ·have m:¬life < 1:=fun h=>f (.inl h);have q:¬8 < l.length:=fun h=>f (.inr (.inl h));have u:(l.any fun x=>!okS x)=false:=by
   cases h:l.any fun x=>!okS x
   ·rfl
   ·exact(f (.inr (.inr h))).elim
  by_cases k:life < a
  ·have i:fP a life l=10:=by unfold fP;rw[ak f,aj k]
   refine jM (YK b life a T l p cap s w S M R m q u k) fun w' j=>?_;unfold bG fH;rw[i];exact⟨rfl,M.below j,aC.of j⟩
  ·have i:fP a life l=0:=by unfold fP;rw[ak f,ak k]
   refine jM (acX b life a T l p cap w M R y m q u k) fun w' ⟨A,B⟩=>?_;unfold bG fH;rw[i];exact⟨rfl,A,B⟩
section
variable {w w0:World} {s:Nat->Addr} {k:Bk} {m n Q:Nat} {cv:Value}
structure Nf where
 fr:Int
 li:Int
 ep:Int
 cl:Bool
 cs:List Tc
def OkT (l:List Tc):Prop:=∀x ∈ l,iR x.c.pr/\iR x.c.st
theorem qy.take {T:Tb} (h:qy T) {x:Tc} (a:iR x.c.pr/\iR x.c.st):qy (tq T x):=by
 unfold tq;split
 ·exact h.upd _ _ a.1 a.2
 ·exact h
theorem qy.takes:∀(l:List Tc) {T:Tb},qy T->OkT l->qy (mZ T l)
 | [],_,h,_=>h
 | x::l,_,h,hl=>qy.takes l (h.take (hl x sM)) (fun y a=>hl y (by simp[a]))
theorem qy.tell {T:Tb} (h:qy T) (a life:Int) {l:List Tc} (e:OkT l):qy (fH a life T l):=by
 unfold fH;split
 ·split
  ·exact qy.takes l qy.new e
  ·exact qy.takes l h e
 ·exact h
def No.IZ (x:No) (t:Nf):Nat:=if t.fr=1 - x.id/\0<=t.ep/\t.ep<=1073741824 then (if t.cl then 3 else fP x.ml t.li t.cs) else 2
def No.hrd (x:No) (t:Nf):No:=if x.IZ t=0 then {x with ml:=bG x.ml t.li t.cs,mt:=fH x.ml t.li x.mt t.cs,ro:=x.ro.hear t.ep} else x
theorem jm.s2 (S:jm w s):Se2 w s:=⟨S.c1,S.c9⟩
theorem YN {x:No} (S:jm w0 s) (h:Nd w0 w k x m n) (li:Int) (l:List Tc) (p:Option Addr) (cap:Nat) (R:vJ w p l) (a:∀g o,p=some ⟨g,o,none⟩->g≠k.mi) (f:l.length<=100000) (i:OkT l) :
  Calls prog 227 #[.pointer (some (k.mi,0)),li,.slice p l.length cap] w fun e w'=>e=.returned (aO s (fP x.ml li l))/\Nd w0 w' k {x with ml:=bG x.ml li l,mt:=fH x.ml li x.mt l} m n/\ay k.all w w':=by
 refine(YM k.mi li x.ml x.mt l p cap s w (S.below h.bl).s2 h.mi R a f).mono ?_;rintro e w' ⟨rfl,t,c⟩;exact⟨rfl,h.ae0 t (h.wm.tell _ _ i) c,ay.one c k.FC⟩
theorem YO {x:No} (h:Nd w0 w k x m n) (e:Int) :
  Calls prog 228 #[.pointer (some (k.ro,0)),e] w fun r w'=>(∃v,r=.returned v)/\Nd w0 w' k {x with ro:=x.ro.hear e} m n/\ay k.all w w':=by
 refine(Xh k.ro x.ro e w h.ro).mono ?_;rintro r w' ⟨rfl,t,c⟩;exact⟨⟨_,rfl⟩,h.Pg t (h.rk.hear _) c,ay.one c k.vI⟩
def Ac (w:World) (Q:Nat) (t:Nf) (cv:Value):Prop:=w.heap[Q]? = some (.cells #[t.fr,t.li,t.ep,.bool t.cl,cv] 216 (0,0))
theorem Ac.lt {t:Nf} (h:Ac w Q t cv):Q < w.heap.size:=by
 rcases dX Q w with a | a
 ·exact a
 ·unfold Ac at h;rw[eP a]at h;cases h
theorem Ac.below {w':World} {t:Nf} (h:Ac w Q t cv) (a:Below w w w'):Ac w' Q t cv:=by unfold Ac;rw[a.block Q h.lt];exact h
theorem Ac.gU {w':World} {t:Nf} {l:List Nat} (h:Ac w Q t cv) (a:ay l w w') (e:¬Q ∈ l):Ac w' Q t cv:=by unfold Ac;rw[a.block Q h.lt e];exact h
theorem Ac.c {t:Nf} (h:Ac w Q t cv) (i:Nat):w.cell? (Q,i)=(#[t.fr,t.li,t.ep,.bool t.cl,cv]:Array Value)[i]? := aP w _ _ _ _ _ h
theorem Ac.new (w:World) (t:Nf) (cv:Value):Ac (w.alloc (.cells #[t.fr,t.li,t.ep,.bool t.cl,cv] 216)) w t cv:=dh w _
structure NfB (w:World) (Q:Nat) (t:Nf) (cv:Value):Prop where
 c0:w.cell? (Q,0)=t.fr
 c1:w.cell? (Q,1)=t.li
 c2:w.cell? (Q,2)=t.ep
 c3:w.cell? (Q,3)=some (.bool t.cl)
 c4:w.cell? (Q,4)=some cv
theorem Ac.b {t:Nf} (h:Ac w Q t cv):NfB w Q t cv:=⟨h.c 0,h.c 1,h.c 2,h.c 3,h.c 4⟩
theorem acY {x:No} (S:jm w0 s) (h:Nd w0 w k x m n) (t:Nf) (p:Option Addr) (cap:Nat) (R:vJ w p t.cs) (hp:∀g o,p=some ⟨g,o,none⟩->g≠k.mi) (hl:t.cs.length<=100000) (ho:OkT t.cs) :
  Calls prog 185 #[.pointer (some (k.nd,0)),.agg #[t.fr,t.li,t.ep,.bool t.cl,.slice p t.cs.length cap]] w fun e w'=>e=.returned (aO s (x.IZ t))/\Nd w0 w' k (x.hrd t) m n/\ay k.all w w':=by
 have W:Hid (jm w0 s):=S;have X:Hid (Nd w0 w k x m n):=h;have HR:Hid (vJ w p t.cs):=R;have Y:Hid ((∀g o,p=some ⟨g,o,none⟩->g≠k.mi)/\t.cs.length<=100000/\OkT t.cs):=⟨hp,hl,ho⟩;have Z:=h.id;have hw:IntKind.i64.wrap (1 - x.id)=1 - x.id:=by rw[iI];omega
 clear S h R hp hl ho Z;go_enter func185,ntmps185;go_upto_region 1 with fail
 have L:Hid (Below w w (w.alloc (.cells #[t.fr,t.li,t.ep,.bool t.cl,.slice p t.cs.length cap] 216))):=aB _ _;have M:Hid (Ac (w.alloc (.cells #[t.fr,t.li,t.ep,.bool t.cl,.slice p t.cs.length cap] 216)) w t (.slice p t.cs.length cap)):=Ac.new w t _;generalize w.alloc (.cells #[t.fr,t.li,t.ep,.bool t.cl,.slice p t.cs.length cap] 216)=w1 at *;have LQ:Hid (w.heap.size<=w.heap.size):=bJ _;generalize Zg:w.heap.size=Q at M LQ ⊢;have i:Hid (¬Q ∈ k.all):=fun hm=>by have:=X.lt _ hm;omega
 have N:Hid (Nd w0 w1 k x m n):=X.below L;have S1:Hid (jm w1 s):=W.below N.bl;clear Zg LQ;obtain⟨z0,O,z2,C,P⟩:=M.b;have n1:=N.c1;by_cases T:t.fr=1 - x.id/\0<=t.ep/\t.ep<=1073741824
 ·obtain⟨y,D,e2⟩:=T;have HB:Hid (t.fr=1 - x.id/\0<=t.ep/\t.ep<=1073741824):=⟨y,D,e2⟩;have b0:(t.fr != 1 - x.id)=false:=by rw[y];simp
  have b1:¬t.ep < 0:=by omega
  have b2:¬1073741824 < t.ep:=by omega
  clear y D e2;go_quiet (fail)
  have D2:Hid (Below w1 w1 (w1.drewN nq)):=⟨rfl,rfl,rfl,bJ _,fun _ _=>rfl⟩;generalize w1.drewN nq=w2 at *;have E:Hid (Below w w w2):=t2 L D2;have Z2:Hid (Ac w2 Q t (.slice p t.cs.length cap)):=M.below D2;have F:Hid (Nd w0 w2 k x m n):=X.below E;have S2:Hid (jm w2 s):=W.below F.bl;have R2:Hid (vJ w2 p t.cs):=HR.below E;clear z0 O z2 C P n1 D2 L M N S1 b0 b1 b2 hw;obtain⟨z0,O,z2,C,P⟩:=Z2.b
  cases a:t.cl
  ·have f:Hid (x.IZ t=fP x.ml t.li t.cs):=by show _=_;unfold No.IZ;rw[aj HB.out,a];rfl
   rw[a]at C;clear a;have n7:=F.c7;go_upto_region 5 with fail
   go_wp2_with fail;have G:Hid (∀u,Below w2 w2 u->Calls prog 227 #[.pointer (some (k.mi,0)),t.li,.slice p t.cs.length cap] u fun e w'=>e=.returned (aO s (fP x.ml t.li t.cs))/\Nd w0 w' k {x with ml:=bG x.ml t.li t.cs,mt:=fH x.ml t.li x.mt t.cs} m n/\ay k.all u w'):=fun u U=>YN W (F.below U) t.li t.cs p cap (R2.below U) Y.1 Y.2.1 Y.2.2;have A:w2.drew.cell? (k.nd,7)=some (.pointer (some (k.mi,0)))/\w2.drew.cell? (Q,1)=t.li/\w2.drew.cell? (Q,4)=some (.slice p t.cs.length cap):=⟨n7,O,P⟩;clear z0 O z2 C P n7;go_region_held3 (fun w'=>w'.cell? (k.nd,7)=some (.pointer (some (k.mi,0)))/\w'.cell? (Q,1)=t.li/\w'.cell? (Q,4)=some (.slice p t.cs.length cap))
    (first | assumption | exact⟨V.c7,H.keeps i A.2.1,H.keeps i A.2.2⟩)
    (first | (go_at_call 227;refine(G _ bD).mono ?_;rintro e j ⟨rfl,n3,k3⟩;have V:Hid (Nd w0 j k {x with ml:=bG x.ml t.li t.cs,mt:=fH x.ml t.li x.mt t.cs} m n):=n3;have H:Hid (ay k.all w2.drew j):=k3;clear n3 k3))
   have Z3:Hid (Ac j Q t (.slice p t.cs.length cap)):=(Z2.below bD).gU H i;have X3:Hid (ay k.all w j):=(ay.of (t2 E bD)).trans H;clear A H Z2 F S2 E R2 G;by_cases z:fP x.ml t.li t.cs=0
   ·have I:Hid (x.IZ t=0):=by show _=_;rw[f.out,z]
    have l:Hid (x.hrd t={x with ml:=bG x.ml t.li t.cs,mt:=fH x.ml t.li x.mt t.cs,ro:=x.ro.hear t.ep}):=by show _=_;unfold No.hrd;rw[aj I.out]
    rw[z];clear z;simp only[aO];go_upto_region 8 with fail
    go_wp2_with fail;have J:Hid (∀u,Below j j u->Calls prog 228 #[.pointer (some (k.ro,0)),t.ep] u fun r w'=>(∃v,r=.returned v)/\Nd w0 w' k {x with ml:=bG x.ml t.li t.cs,mt:=fH x.ml t.li x.mt t.cs,ro:=x.ro.hear t.ep} m n/\ay k.all u w'):=fun u U=>YO (V.below U) t.ep;have A:j.drew.cell? (k.nd,0)=some (.pointer (some (k.ro,0)))/\j.drew.cell? (Q,2)=t.ep:=⟨V.c0,Z3.b.c2⟩;go_region_held3 (fun w'=>w'.cell? (k.nd,0)=some (.pointer (some (k.ro,0)))/\w'.cell? (Q,2)=t.ep)
     (first | assumption | exact⟨N4.c0,K4.keeps i A.2⟩)
     (first | (go_at_call 228;refine(J _ bD).mono ?_;rintro e w4 ⟨⟨v4,rfl⟩,n4,k4⟩;have N4:Hid (Nd w0 w4 k {x with ml:=bG x.ml t.li t.cs,mt:=fH x.ml t.li x.mt t.cs,ro:=x.ro.hear t.ep} m n):=n4;have K4:Hid (ay k.all j.drew w4):=k4;clear n4 k4))
    have X4:Hid (ay k.all w w4):=(X3.trans (ay.of bD)).trans K4;clear A K4 X3 J;go_wp2_with fail;go_ret;exact⟨by rw[I.out];rfl,by rw[l.out];exact N4,X4⟩
   ·obtain⟨D,K⟩:∃D,fP x.ml t.li t.cs=D+1:=⟨fP x.ml t.li t.cs - 1,by omega⟩;have l:Hid (x.hrd t={x with ml:=bG x.ml t.li t.cs,mt:=fH x.ml t.li x.mt t.cs}):=by
     show _=_;unfold No.hrd bG fH;rw[ak (by rw[f.out];exact z),ak z,ak z]
    rw[K]at f ⊢;clear z K;simp only[aO];go_wp2_with fail;go_ret;exact⟨by rw[f.out];rfl,by rw[l.out];exact V,X3⟩
  ·have f:Hid (x.IZ t=3):=by show _=_;unfold No.IZ;rw[aj HB.out,a];rfl
   have l:Hid (x.hrd t=x):=by show _=_;unfold No.hrd;rw[ak (by rw[f.out];decide)]
   rw[a]at C;clear a;have s2:=S2.c2;go_wp2_with fail;go_ret;exact⟨by rw[f.out];rfl,by rw[l.out];exact F,ay.of E.out⟩
 ·have f:Hid (x.IZ t=2):=by show _=_;unfold No.IZ;rw[ak T]
  have l:Hid (x.hrd t=x):=by show _=_;unfold No.hrd;rw[ak (by rw[f.out];decide)]
  have s1:=S1.c1;have B:Hid (∀q,Nd w0 (w1.drewN q) k x m n/\ay k.all w (w1.drewN q)):=fun q=>⟨N.below ⟨rfl,rfl,rfl,bJ _,fun _ _=>rfl⟩,ay.of (t2 L ⟨rfl,rfl,rfl,bJ _,fun _ _=>rfl⟩)⟩;by_cases y:t.fr=1 - x.id
  ·have b0:(t.fr != 1 - x.id)=false:=by rw[y];simp
   have HQ:Hid (t.ep < 0\/1073741824 < t.ep):=(by omega:t.ep < 0\/1073741824 < t.ep);clear y T;by_cases b1:t.ep < 0
   ·go_quiet (fail)
    go_wp2_with fail;go_ret;exact⟨by rw[f.out];rfl,by rw[l.out];exact(B _).1,(B _).2⟩
   ·have b2:1073741824 < t.ep:=by have:=HQ.out;omega
    go_quiet (fail)
    go_wp2_with fail;go_ret;exact⟨by rw[f.out];rfl,by rw[l.out];exact(B _).1,(B _).2⟩
  ·have b0:(t.fr != 1 - x.id)=true:=by simp[y]
   clear y T;go_quiet (fail)
   go_wp2_with fail;go_ret;exact⟨by rw[f.out];rfl,by rw[l.out];exact(B _).1,(B _).2⟩
end
structure Wo where
 nd:Nat->Option No
 yb:Nat->By
 ru:List Rl
 hn:Int
 he:Int
 fl:List Nf
 ev:List (Int×Int)
def aQ {α:Type} (f:Nat->α) (i:Nat) (a:α):Nat->α:=fun j=>if j=i then a else f j
theorem aG {α:Type} (f:Nat->α) (i:Nat) (a:α):aQ f i a i=a:=by simp[aQ]
theorem aI {α:Type} (f:Nat->α) {i j:Nat} (a:α) (h:j≠i):aQ f i a j=f j:=by simp[aQ,h]
def No.fly (x:No) (t:Nt):Nf:=⟨x.id,x.life,x.ro.ep,t.cl,t.L.map fun (j:Nat)=>(⟨(j:Int),x.T j⟩:Tc)⟩
def By.pG (y:By):By:={y with on:=false}
def By.fF (y:By):By:={y with on:=true,cut:=false}
def Wo.jW (W:Wo) (n:Int):Nat:=if 0<=n/\n < 2 then (if (W.nd n.toNat).isSome then 0 else 7) else 2
def Wo.bQ (W:Wo) (i:Nat) (y:By):Wo:={W with nd:=aQ W.nd i none,yb:=aQ W.yb i y.pG}
def Wo.sent (W:Wo) (l:List Nf):Wo:={W with fl:=W.fl++l.take (200 - W.fl.length)}
def Wo.noted (W:Wo) (e:Int×Int):Wo:={W with ev:=if W.ev.length < 1000 then W.ev++[e] else W.ev}
def Wo.au (W:Wo) (i:Nat) (x:No):Wo :=
 if x.lg=0 then
  ((if !x.ro.ac && x.tick.ro.ac then {W with nd:=aQ W.nd i (some x.tick)}.noted ((i:Int),x.tick.ro.ep) else {W with nd:=aQ W.nd i (some x.tick)}).sent (x.dN.map x.tk1.fly))
 else if x.lg=7 then W.bQ i x.tick.y else {W with nd:=aQ W.nd i (some x.tick)}
def Wo.heard (W:Wo) (t:Nf):Wo:=if W.he < t.ep then {W with hn:=t.fr,he:=t.ep} else W
def Wo.handed (W:Wo) (t:Nf):Wo :=
 match W.nd (1 - t.fr).toNat with
 | some x=>{W with nd:=aQ W.nd (1 - t.fr).toNat (some (x.hrd t))}
 | none=>W
def Wo.aT (W:Wo) (k:Nat):Wo:={W with fl:=W.fl.eraseIdx k}
def Wo.delivered (W:Wo) (k:Nat) (t:Nf):Wo:=if t.cl then (W.aT k).heard t else (W.aT k).handed t
def Wo.vK (W:Wo) (i:Nat):Wo:={W with nd:=aQ W.nd i (some (No.new i (W.yb i).fF W.ru))}
theorem YP (p:Pk):p.err<=3:=by
 unfold Pk.err dB;repeat' split
 all_goals omega
theorem YQ (x:No) (p:Pk):x.chk p<=11:=by
 have:=YP p;unfold No.chk;repeat' split
 all_goals omega
theorem acZ (T:Tb) (low a e f h i st un:Int):(iC T low a e f h i st un).2.1<=11:=by
 unfold iC;repeat' split
 all_goals simp
theorem ac0 (a e:Int):kX a e<=11:=by
 unfold kX;repeat' split
 all_goals omega
theorem ae6 (x:No) (p:Pk):x.oh p<=11:=by
 have a:=YQ x p;have e:=ac0 p.pr p.fl;have f:(x.iE p).2.1<=11:=acZ _ _ _ _ _ _ _ _ _;unfold No.oh No.Lh No.zh;repeat' split
 all_goals omega
theorem ae7 (x:No) (p:Pk):x.nR p<=11:=by
 have a:=YQ x p;unfold No.nR;repeat' split
 all_goals omega
theorem ac1 (y:By) (n:Int):o8 y n<=11:=by
 unfold o8;repeat' split
 all_goals omega
theorem ac2 (off:Bool) (y:By) (e l:Int):(bn off y e l).1<=11:=by
 unfold bn;repeat' split
 all_goals simp
theorem ae8 (x:No):x.lg<=11:=by
 unfold No.lg No.mM No.cp;repeat' split
 all_goals first | exact ac2 _ _ _ _ | omega
end Go.Proofs.YtnogmjekhjldcaaGreatDoor
