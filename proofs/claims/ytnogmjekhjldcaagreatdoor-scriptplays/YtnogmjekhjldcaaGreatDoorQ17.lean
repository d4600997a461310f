/-
  What the claimed theorem reaches, part Q17.
-/
import Derived.Test.YtnogmjekhjldcaaGreatDoorQ15
import Derived.Test.YtnogmjekhjldcaaGreatDoorQ16
namespace Go.Proofs.YtnogmjekhjldcaaGreatDoor
open Go.RowKit Go.Proofs.Tryz
set_option maxRecDepth 100000
set_option maxHeartbeats 8000000
section
variable {w0 w w':World} {t:Nat}
def WK.Sj (K:WK) (a b:Nat):WK:={K with tag:=fun g=>if g < a then K.tag g else if g < b then 5 else 9}
theorem Wd.agw {K:WK} {x:Wo} {t' i:Nat} (h:Wd w0 w K x t) (s:i < 2) {k:Bk} {y l:No} {m' u:Nat} (z:K.nk i=some k) (G:x.nd i=some y) (nd:Nd w0 w' k l m' u) (c:ay k.all w w') (H:t<=t') (A:m'<=33 * t') (B:u<=8 * t') (I:0<=l.now) (J:l.now<=t') (hr:l.ru=y.ru) (L:l.id=y.id) :
  Wd w0 w' (K.Sj w w') {x with nd:=aQ x.nd i (some l)} t':=by
 obtain⟨k2,R,S,F,C,D,_,_,_,_,M,N,O,o⟩:=h.up s G;rw[z]at F
 cases F
 have f:∀g,g < w.heap.size->(K.Sj w w').tag g=K.tag g:=fun g P=>aj P;have p:=h.wb.kept (c.block _ h.wb.lt (fun A=>by have:=o _ A;rw[h.Ls.1]at this;omega));have E:=p;have m:yM w0 w' (K.Sj w w') {x with nd:=aQ x.nd i (some l)} t' i:=.inl ⟨k,l,m',u,z,aG _ _ _,nd,D,A,B,I,J,by rw[hr];exact M,by rw[L];exact N,by
  rw[hr];intro B a Q;have q:=O B a Q;rw[f _ (h.lt om)];exact q⟩
 have j:∀b ∈ (K.Sj w w').part (i+1),(K.Sj w w').tag b=i+1/\w0.heap.size<=b:=fun b e=>by
  rw[kJ s (K:=K.Sj w w') (k:=k) z]at e;exact⟨by rw[f b (C.lt b e)];exact o b e,nd.g0 b e⟩
 refine h.make k.all c (fun b e=>⟨nd.g0 b e,by have:=o b e;omega⟩) H f (fun b e=>?_) rfl E ?_ ?_ (.inr ⟨rfl,rfl,rfl⟩) (.inr ⟨rfl,rfl,rfl,fun b e=>by have:=o b e;omega⟩) (.inr ⟨rfl,rfl,fun b e=>by have:=o b e;omega⟩)
 ·show(if b < w.heap.size then K.tag b else if b < w'.heap.size then 5 else 9)=9;rw[ak (by have:=c.size;omega),ak om]
 ·rcases dS s with rfl | rfl
  ·exact .inl ⟨m,j⟩
  ·exact .inr ⟨rfl,rfl,rfl,rfl,fun b e=>by have:=o b e;omega⟩
 ·rcases dS s with rfl | rfl
  ·exact .inr ⟨rfl,rfl,rfl,rfl,fun b e=>by have:=o b e;omega⟩
  ·exact .inl ⟨m,j⟩
theorem dF.ahd {Z:Nat} {T:Tb} {L:List Nat} (h:dF w Z T L):vJ w (some (Z,0)) (L.map fun (j:Nat)=>(⟨(j:Int),T j⟩:Tc)):=fun i x e=>by
 rw[kK]at e;obtain⟨s,a,rfl⟩:=Option.map_eq_some_iff.1 e;refine⟨Z,0,rfl,?_⟩;rw[fE];exact⟨h.at' (k:=0) a om,h.at' (k:=1) a om,h.at' (k:=2) a om,h.at' (k:=3) a om,h.at' (k:=4) a om,h.at' (k:=5) a om,h.at' (k:=6) a om,h.at' (k:=7) a om,h.at' (k:=8) a om,h.at' (k:=9) a om⟩
theorem pU.mv {K K':WK} {x:Wo} {n:Nf} {v:Value} (h:pU w K n v) (W:Wd w0 w K x t) (m:Mv K K' w w'):pU w' K' n v:=by
 obtain⟨⟨p,cap,e,R,l⟩,r⟩:=h;refine⟨⟨p,cap,e,fun i y s=>?_,fun g o f=>?_⟩,r⟩
 ·obtain⟨b,o,f,q⟩:=R i y s;have k:=l b o f;have z:=m.block b (W.lt om) (.inr k);have kp:∀{j:Nat} {u:Value},w.cell? (b,j)=some u->w'.cell? (b,j)=some u:=fun {j u} A=>by rw[dV (w:=w) (a:=⟨b,j,none⟩) z];exact A
  exact⟨b,o,f,⟨kp q.c0,kp q.c1,kp q.c2,kp q.c3,kp q.c4,kp q.c5,kp q.c6,kp q.c7,kp q.c8,kp q.c9⟩⟩
 ·have k:=l g o f;rw[m.tag g (W.lt om)];exact k
structure Rdy (w:World) (K:WK) (l:List Nf) (cvs:List Value) (p:Option Addr) (cap:Nat):Prop where
 len:cvs.length=l.length
 le:l.length<=8
 room:l.length<=cap
 nil:l=[]->p=none/\cap=0
 ok:∀(i:Nat) tt v,l[i]? = some tt->cvs[i]? = some v->pU w K tt v/\∃g,p=some ⟨g,0,none⟩/\K.tag g=5/\∀(j:Nat) u,(oU tt v)[j]? = some u->w.cell? ⟨g,i * 5+j,none⟩=some u
theorem Rdy.mv {K K':WK} {x:Wo} {l:List Nf} {e:List Value} {p:Option Addr} {cap:Nat} (h:Rdy w K l e p cap) (W:Wd w0 w K x t) (m:Mv K K' w w'):Rdy w' K' l e p cap:=by
 refine⟨h.len,h.le,h.room,h.nil,fun i k v o q=>?_⟩;obtain⟨s,g,y,f,z⟩:=h.ok i k v o q;have A:=m.block g (W.lt om) (.inr f);refine⟨s.mv W m,g,y,by rw[m.tag g (W.lt om)];exact f,fun j u B=>?_⟩;rw[dV (w:=w) (a:=⟨g,i * 5+j,none⟩) A];exact z j u B
theorem Ec {K:WK} {x:Wo} (h:Wd w0 w K x t) {l:List Nf} {a:List Value} {p:Option Addr} {cap:Nat} (r:Rdy w K l a p cap) :
  Calls prog 183 #[.pointer (some (K.wb,0)),.slice p l.length cap] w fun e w'=>e=.returned (.tuple #[])/\∃K',Wd w0 w' K' (x.sent l) t/\Mw K K' w w' :=
 ac8 h l a p cap r.len r.le r.room r.nil (fun i f v j k=>by obtain⟨m,g,o,_,q⟩:=r.ok i f v j k;exact⟨m,g,o,q⟩)
theorem Ed (y:No):y.dN.length<=2/\∀t ∈ y.dN,∀j ∈ t.L,j < 32:=by
 unfold No.dN;split
 ·unfold No.notes;split
  ·refine⟨?_,?_⟩
   ·rw[jw];have a:(if (!y.ro.ac) || y.tk1.due then [(⟨true,[]⟩:Nt)] else []).length<=1:=by split <;> simp
    have b:(if y.tk1.due then [(⟨false,Fz y.tk1.T y.tk1.D y.tk1.cu⟩:Nt)] else []).length<=1:=by split <;> simp
    omega
   ·intro t e;rcases lU.1 e with h | h
    ·split at h
     ·simp at h;subst h;simp
     ·simp at h
    ·split at h
     ·simp at h;subst h;exact fun j f=>(uM y.tk1.T y.tk1.D y.tk1.cu).lt j f
     ·simp at h
  ·simp
 ·simp
theorem afd {K:WK} {k:Bk} {y:No} {m n:Nat} {v:Value} {Y:Wo} {S:Nat} (V:tV w' w y.tk1 y.dN v) (nd:Nd w0 w' k y.tick m n) (hT:y.tick.T=y.tk1.T) (z:y.tk1.id=0\/y.tk1.id=1) (_W:Wd w0 w' (K.Sj w w') Y S) :
  ∃E p cap,v=.slice p (y.dN.map y.tk1.fly).length cap/\Rdy w' (K.Sj w w') (y.dN.map y.tk1.fly) E p cap:=by
 obtain⟨p,cap,hv,⟨Zg,F⟩,hh⟩:=V;have hq:∀i:Nat,∃C,∀t,y.dN[i]? = some t->∃g,p=some ⟨g,0,none⟩/\w.heap.size<=g/\Yy w' w y.tk1.T t.L C/\∀(j:Nat) u,(kH y.tk1 t.cl C)[j]? = some u->w'.cell? ⟨g,i * 5+j,none⟩=some u:=fun i=>by
  cases hi:y.dN[i]? with
  | none=>exact⟨.nilIface,fun t h=>by cases h⟩
  | some t =>
   obtain⟨g,C,G,H,I,D⟩:=hh i t hi;exact⟨C,fun S h'=>by cases h';exact⟨g,G,H,I,D⟩⟩
 obtain⟨f,hf⟩:=Classical.axiomOfChoice hq;have q:∀g,w.heap.size<=g->g < w'.heap.size->(K.Sj w w').tag g=5:=fun g a b=>by
  show(if g < w.heap.size then K.tag g else if g < w'.heap.size then 5 else 9)=5;rw[ak om,aj b]
 have A:(y.dN.map y.tk1.fly).length=y.dN.length:=vC ..;refine⟨(List.range y.dN.length).map f,p,cap,by rw[A];exact hv,by simp,by have:=(Ed y).1;omega,by omega,fun e=>F (List.map_eq_nil_iff.1 e),fun i tt u U W=>?_⟩;rw[kK]at U W;obtain⟨t,J,rfl⟩:=Option.map_eq_some_iff.1 U;obtain⟨X,B,rfl⟩:=Option.map_eq_some_iff.1 W;have M:=(List.getElem?_eq_some_iff.1 J).1;have:X=i:=by rw[yN M]at B;cases B;rfl
 subst this;obtain⟨g,G,H,I,D⟩:=hf X t J;have N:=D 0 _ rfl;have O:=eF N;refine⟨?_,g,G,q g H O,D⟩;rcases I with⟨e1,e2⟩ | ⟨Z,e1,e2,e3,e4⟩
 ·have l:(y.tk1.fly t).cs=[]:=by show t.L.map _=[];rw[e1];rfl
  refine⟨⟨none,0,by rw[l];exact e2,fun i x s=>by rw[l]at s;simp at s,fun g o e=>by cases e⟩,by rw[l];simp,fun x s=>by rw[l]at s;simp at s,z⟩
 ·have P:(y.tk1.fly t).cs.length=8:=by show(t.L.map _).length=8;rw[vC];exact e4
  refine⟨⟨some (Z,0),8,by rw[P];exact e1,e3.ahd,fun g o e=>by cases e;exact q _ e2 e3.lt⟩,by omega,fun x s=>?_,z⟩;have Q:=s;obtain⟨j,hj,rfl⟩:=List.mem_map.1 Q;have R:=(Ed y).2 t (kW J) j hj;have:=nd.wt j R;rw[hT]at this;exact this
theorem PO {α:Type} (f:Nat->α) (i:Nat) (a b:α):aQ (aQ f i a) i b=aQ f i b:=by
 funext j
 unfold aQ;split <;> rfl
theorem zl (y:No):y.tick.ru=y.ru/\y.tick.id=y.id/\y.tick.now=y.now+1/\y.tick.T=y.tk1.T/\y.tk1.id=y.id/\y.tick.ro=y.tk1.ro:=by
 unfold No.tick No.tk1 No.noted No.rP;repeat' split
 all_goals exact⟨rfl,rfl,rfl,rfl,rfl,rfl⟩
def Wo.Ee (W:Wo) (n:Int):Nat:=if W.jW n=0 then (match W.nd n.toNat with | some y=>y.lg | none=>0) else W.jW n
def Wo.rU (W:Wo) (n:Int):Wo:=if W.jW n=0 then (match W.nd n.toNat with | some y=>W.au n.toNat y | none=>W) else W
theorem agx {K:WK} {i j:Nat} {b:Bk} (e:(K.dn i).nk j=some b):K.nk j=some b:=by
 have a:aQ K.nk i none j=some b:=e;by_cases q:j=i
 ·subst q;rw[aG]at a;cases a
 ·rw[aI _ _ q]at a;exact a
theorem ac9 {K:WK} {x:Wo} {s:Nat->Addr} (S:jm w0 s) (h:Wd w0 w K x t) (ht:t<=200000) (n:Int) (hE:∀(i:Nat) y,n=i->x.nd i=some y->y.lg=0\/y.lg=7) :
  Calls prog 140 #[.pointer (some (K.wb,0)),n] w fun e w'=>e=.returned (aO s (x.Ee n))/\∃K',Wd w0 w' K' (x.rU n) (t+1)/\Mw K K' w w':=by
 have HS:=jH S;have HW:=jH h;have HT:=jH ht;have Zh:=jH hE;clear S h ht hE;go_enter func140,ntmps140;go_wp2_with fail;refine jM (DY HS HW n) fun R O=>?_;have B1:=O;have T:=jH (HW.below O);clear O;rcases yh s x K.wb n with⟨i,y,hn,hi,hy,he,hv⟩ | ⟨e,he,hv⟩
 ·rw[hv];subst hn;have B:Hid (x.Ee (i:Int)=y.lg/\x.rU (i:Int)=x.au i y):=⟨by unfold Wo.Ee;rw[aj he,fJ,hy],by unfold Wo.rU;rw[aj he,fJ,hy]⟩;have L:Hid (i < 2/\x.nd i=some y):=⟨hi,hy⟩;obtain⟨k,m',n',hk,nd,Zi,q1,q2,q3,q4,q5,q6,q7,q8⟩:=T.up hi hy;have C:Hid (K.nk i=some k/\m'<=33 * t/\n'<=8 * t/\0<=y.now/\y.now<=t):=⟨hk,q1,q2,q3,q4⟩;have HN:=jH nd;have Zq:=jH q6;have cn:=T.wb.cn hi;rw[hk]at cn;simp only[FH,nX]at cn;have n0:=nd.c0;clear hv hi hy he hk nd Zi q1 q2 q3 q4 q5 q6 q7 q8;go_wp2_with fail;refine jM (dR k.ro y.ro R HN.ro) fun w2 o=>?_;obtain rfl:=o.symm;clear o;go_wp2_with fail;refine(acR HS.n HN C.2.2.2.1 (by have:=C.out;have:=HT.out;omega) (by have:=C.out;have:=HT.out;omega) (by have:=C.out;have:=HT.out;omega)).mono ?_;rintro e D ⟨⟨v,rfl,U⟩,⟨n2,Zj,z⟩,c3⟩;have G:=zl y;have M:Hid (Wd w0 D (K.Sj R D) {x with nd:=aQ x.nd i (some y.tick)} (t+1)):=T.agw L.1 C.1 L.2 z c3 om (by have:=C.out;omega) (by have:=C.out;omega) (by rw[G.2.2.1];have:=C.out;omega) (by rw[G.2.2.1];have:=C.out;omega) G.1 G.2.1;have V:∀b ∈ k.all,K.tag b=i+1:=fun b hb=>(T.tg (i+1) (by have:=L.1;omega) b (by rw[kJ L.1 C.1];exact hb)).1;have M3:Hid (Mw K (K.Sj R D) w D):=⟨(Mv.of B1.out).trans (Mv.list T c3 (fun b hb=>by have:=V b hb;have:=L.1;omega) (fun g hg=>aj hg) rfl rfl),fun _ _ e=>e⟩;have N3:=jH z;have W:=afd U z G.2.2.2.1 (by rw[G.2.2.2.2.1];exact z.id.elim (fun e=>.inl (by rw[<- G.2.1];exact e)) (fun e=>.inr (by rw[<- G.2.1];exact e))) M;obtain⟨Zr,p,cap,rfl,X⟩:=W;have R3:=jH X;have E:(K.Sj R D).wb=K.wb:=rfl;have Zk:Hid ((K.Sj R D).nk i=some k):=C.1;have P:=M.wb.cn L.1;rw[Zk.out]at P;simp only[FH,nX,E]at P;have Zl:=z.c0;have s6:=(HS.below M.bl).c6;have Zm:Hid (({x with nd:=aQ x.nd i (some y.tick)}:Wo).nd i=some y.tick):=aG _ _ _;have SM:=jH G.2.2.2.2.2;clear U z c3 V X G n0 cn Zj;have q:=jH E;clear E;generalize K.Sj R D.heap.size=K3 at *;rcases Zh.out i y rfl L.2 with e0 | e7
  ·have A:=jH e0;rw[e0];clear e0;simp only[aO];go_wp2_with fail;refine jM (is_nil (s 6) D) fun w4 o=>?_;obtain rfl:=o.symm;clear o
   cases I:y.ro.ac
   ·have Zn:=jH I;clear I;go_wp2_with fail;refine jM (dR k.ro y.tick.ro D N3.ro) fun w4 o=>?_;obtain rfl:=o.symm;clear o
    cases u:y.tick.ro.ac
    ·have Q:Hid (x.au i y=({x with nd:=aQ x.nd i (some y.tick)}:Wo).sent (y.dN.map y.tk1.fly)):=by show _=_;unfold Wo.au;rw[aj A.out,u,Bool.and_false];rfl
     clear u;go_wp2_with fail;have a:=Ec M R3;rw[q.out,vC]at a;refine a.mono ?_;clear a;rintro e J ⟨rfl,N,l,f⟩;have H:Hid (Wd w0 J N (({x with nd:=aQ x.nd i (some y.tick)}:Wo).sent (y.dN.map y.tk1.fly)) (t+1)/\Mw K N w J):=⟨l,M3.trans f⟩;clear l f;go_wp2_with fail;go_ret;exact⟨by rw[B.1,A.out];rfl,N,by rw[B.2,Q.out];exact H.1,H.2⟩
    ·have Q:Hid (x.au i y=(({x with nd:=aQ x.nd i (some y.tick)}:Wo).noted ((i:Int),y.tick.ro.ep)).sent (y.dN.map y.tk1.fly)):=by show _=_;unfold Wo.au;rw[aj A.out,Zn.out,u];rfl
     clear u;go_wp2_with fail;refine jM (wB k.ro y.tick.ro D N3.ro) fun w4 o=>?_;obtain rfl:=o.symm;clear o;go_wp2_with fail;have F:=U0 M (i:Int) y.tick.ro.ep;rw[q.out]at F;refine F.mono ?_;clear F;rintro e J ⟨rfl,N,l,f⟩;have H:=jH l;have M5:=jH (M3.trans f);have R5:=jH (R3.mv M f.toMv);have Y:=jH M5.wb;clear l f P Zl;go_wp2_with fail;have a:=Ec H R5;rw[Y.out,vC]at a;refine a.mono ?_;clear a;rintro e w6 ⟨rfl,K6,Z,Zg⟩;have W6:Hid (Wd w0 w6 K6 ((({x with nd:=aQ x.nd i (some y.tick)}:Wo).noted ((i:Int),y.tick.ro.ep)).sent (y.dN.map y.tk1.fly)) (t+1)/\Mw K K6 w w6):=⟨Z,M5.trans Zg⟩;clear Z Zg;go_wp2_with fail;go_ret;exact⟨by rw[B.1,A.out];rfl,K6,by rw[B.2,Q.out];exact W6.1,W6.2⟩
   ·have Q:Hid (x.au i y=({x with nd:=aQ x.nd i (some y.tick)}:Wo).sent (y.dN.map y.tk1.fly)):=by show _=_;unfold Wo.au;rw[aj A.out,I];rfl
    clear I;go_wp2_with fail;have a:=Ec M R3;rw[q.out,vC]at a;refine a.mono ?_;clear a;rintro e J ⟨rfl,N,l,f⟩;have H:Hid (Wd w0 J N (({x with nd:=aQ x.nd i (some y.tick)}:Wo).sent (y.dN.map y.tk1.fly)) (t+1)/\Mw K N w J):=⟨l,M3.trans f⟩;clear l f;go_wp2_with fail;go_ret;exact⟨by rw[B.1,A.out];rfl,N,by rw[B.2,Q.out];exact H.1,H.2⟩
  ·have Zp:=jH e7;have Q:Hid (x.au i y=({x with nd:=aQ x.nd i (some y.tick)}:Wo).bQ i y.tick.y):=by
    show _=_;unfold Wo.au;rw[ak om,aj e7];unfold Wo.bQ;simp only[PO]
   rw[e7];clear e7;simp only[aO];go_wp2_with fail;refine jM (is_same (s 6) D) fun w4 o=>?_;obtain rfl:=o.symm;clear o;go_wp2_with fail;have m:=RY M L.1 Zm;rw[q.out]at m;refine m.mono ?_;clear m;rintro e J ⟨rfl,l,f⟩;have H:Hid (Wd w0 J (K3.dn i) (({x with nd:=aQ x.nd i (some y.tick)}:Wo).bQ i y.tick.y) (t+1)/\Mw K (K3.dn i) w J):=⟨l,M3.trans ⟨f,fun j b e=>agx e⟩⟩;clear l f;go_wp2_with fail;go_ret;exact⟨by rw[B.1,Zp.out];rfl,_,by rw[B.2,Q.out];exact H.1,H.2⟩
 ·rw[hv];have B:Hid (x.Ee n=e+1/\x.rU n=x):=⟨by unfold Wo.Ee;rw[ak om,he],by unfold Wo.rU;rw[ak om]⟩;clear hv he;go_wp2_with fail;go_ret;exact⟨by rw[B.1];rfl,K,by rw[B.2];exact T.mono om,Mw.of B1.out⟩
theorem ada {K:WK} {x:Wo} {s:Nat->Addr} (S:jm w0 s) (h:Wd w0 w K x t) (a:t<=200000) (n:Int) (f:∀(i:Nat) y,n=i->x.nd i=some y->y.lg=0\/y.lg=7) :
  Calls prog 140 #[.pointer (some (K.wb,0)),n] w fun e w'=>e=.returned (aO s (x.Ee n))/\∃K',Wd w0 w' K' (x.rU n) (t+1)/\Mv K K' w w' :=
 (ac9 S h a n f).mono fun _ _ ⟨e,K',j,m⟩=>⟨e,K',j,m.toMv⟩
end
section
variable {w0 w w':World} {v:Value} {l:List Rl}
def Wo.dD (W:Wo) (l:List Rl) (j:Nat):Wo:={W with ru:=l,nd:=fun i=>if i < j then (W.nd i).map (fun y=>{y with ru:=l}) else W.nd i}
def Wo.ruled (W:Wo) (l:List Rl):Wo:={W with ru:=l,nd:=fun i=>(W.nd i).map (fun y=>{y with ru:=l})}
structure Far (w0 w:World) (K:WK) (v:Value) (l:List Rl):Prop where
 sl:Sl w v l
 far:∀a n c,v=.slice (some a) n c->a.block < w0.heap.size
theorem Far.bl {K K':WK} (h:Far w0 w K v l) (b:Below w0 w0 w) (f:Below w0 w0 w'):Far w0 w' K' v l :=
 ⟨h.sl.gZ (fun a n c e=>by rw[f.block _ (h.far a n c e),b.block _ (h.far a n c e)]),h.far⟩
structure PS (w0 w:World) (K:WK) (v:Value) (l:List Rl):Prop where
 sl:Sl w v l
 far:∀a n c,v=.slice (some a) n c->a.block < w0.heap.size\/(a.block < w.heap.size/\K.tag a.block=9)
theorem Far.t {K K':WK} (h:Far w0 w K v l):PS w0 w K' v l:=⟨h.sl,fun a n c e=>.inl (h.far a n c e)⟩
theorem PS.mv {K K':WK} (h:PS w0 w K v l) (b:Below w0 w0 w) (j:Below w0 w0 w') (m:Mv K K' w w'):PS w0 w' K' v l:=by
 refine⟨h.sl.gZ (fun a n c e=>?_),fun a n c e=>?_⟩
 ·rcases h.far a n c e with q | ⟨f,i⟩
  ·rw[j.block _ q,b.block _ q]
  ·exact m.block _ f (.inl i)
 ·rcases h.far a n c e with q | ⟨f,i⟩
  ·exact .inl q
  ·exact .inr ⟨ji f m.size,by rw[m.tag _ f];exact i⟩
def WK.ruW (K:WK) (p:Option Addr) (c a b:Nat):WK:={K with rp:=p,rc:=c,tag:=fun g=>if g < a then K.tag g else if g < b then 5 else 9}
theorem kD.ruW {K:WK} {x:Wo} (h:kD w K x) (p:Option Addr) (c a b:Nat) (l:List Rl):kD (w.setCell (K.wb,4) (.slice p l.length c)) (K.ruW p c a b) (x.dD l 0):=by
 unfold kD;show(w.setCell (K.wb,4) (.slice p l.length c)).heap[K.wb]? = _;rw[bV w _ _ _ _ _ h];rfl
theorem Wd.agy {f:World} {K:WK} {x:Wo} {t:Nat} {p:Option Addr} {c:Nat} (h:Wd w0 w K x t) (b1:Below w w f) (R:Sl f (.slice p l.length c) l) (s:∀a,p=some a->w.heap.size<=a.block/\a.block < f.heap.size) (ok:aF l) :
  Wd w0 (f.setCell (K.wb,4) (.slice p l.length c)) (K.ruW p c w f) (x.dD l 0) t/\Mv K (K.ruW p c w f) w (f.setCell (K.wb,4) (.slice p l.length c)):=by
 have m:=h.Ls;have k:∀q ∈ [K.wb],w0.heap.size<=q/\K.tag q=0:=fun q i=>by
  simp only[dI,eY,fA]at i;subst i;exact⟨m.2,m.1⟩
 have u:aC K.wb f (f.setCell (K.wb,4) (.slice p l.length c)):=aC.set _ _ _ _;have o:=(h.wb.kept (b1.block _ h.wb.lt)).ruW p c w f l;have z:(f.setCell (K.wb,4) (.slice p l.length c)).heap.size=f.heap.size:=by simp[go_sem]
 have A:Sl (f.setCell (K.wb,4) (.slice p l.length c)) (.slice p l.length c) l:=R.gZ (fun a n c' e=>by
  have:=(s a (Fe e).1);exact u.block _ this.2 (by have:=h.wb.lt;omega))
 generalize f.setCell (K.wb,4) (.slice p l.length c)=w2 at *;have y:ay [K.wb] w w2:=(ay.of b1).trans (ay.one u sM);have j:∀g,g < w.heap.size->(K.ruW p c w f).tag g=K.tag g:=fun g B=>aj B;refine⟨h.make [K.wb] y (fun q i=>⟨(k q i).1,by have:=(k q i).2;omega⟩) nL j (fun b D=>?_) rfl o (.inr ⟨rfl,rfl,rfl,rfl,fun q i=>by have:=(k q i).2;omega⟩) (.inr ⟨rfl,rfl,rfl,rfl,fun q i=>by have:=(k q i).2;omega⟩) (.inl ⟨A,ok,fun a C=>?_⟩) (.inr ⟨rfl,rfl,rfl,fun q i=>by have:=(k q i).2;omega⟩) (.inr ⟨rfl,rfl,fun q i=>by have:=(k q i).2;omega⟩),Mv.list h y (fun q i=>by have:=(k q i).2;omega) j rfl rfl⟩
 ·show(if b < w.heap.size then K.tag b else if b < f.heap.size then 5 else 9)=9;rw[ak (by have:=b1.size;omega),ak om]
 ·have:=s a C;show(if a.block < w.heap.size then K.tag a.block else if a.block < f.heap.size then 5 else 9)=5;rw[ak om,aj this.2]
def WK.Wy (K:WK) (i:Nat) (k:Bk) (a b:Nat):WK:={K with nk:=aQ K.nk i (some k),tag:=fun g=>if g < a then K.tag g else if g < b then 5 else 9}
theorem Wd.agz {K:WK} {x:Wo} {t i m n c:Nat} {k:Bk} {y:No} {p:Option Addr} (h:Wd w0 w K (x.dD l i) t) (F:i < 2) (N:K.nk i=some k) (O:x.nd i=some y) (nd:Nd w0 w' (k.iU p c) {y with ru:=l} m n) (G:m<=33 * t) (S:n<=8 * t) (T:l≠[]->∀a,p=some a->w.heap.size<=a.block) (C:ay k.all w w') (ok:aF l) :
  Wd w0 w' (K.Wy i (k.iU p c) w.heap.size w'.heap.size) (x.dD l (i+1)) t/\Mv K (K.Wy i (k.iU p c) w.heap.size w'.heap.size) w w':=by
 have H:(x.dD l i).nd i=some y:=by show(if i < i then _ else x.nd i)=_;rw[ak om];exact O
 obtain⟨k2,m2,n2,P,I,J,_,_,U,V,r5,W,r7,z⟩:=h.up F H;rw[N]at P
 cases P
 have q:∀g,g < w.heap.size->(K.Wy i (k.iU p c) w.heap.size w'.heap.size).tag g=K.tag g:=fun g X=>aj X;have A:kD w' K (x.dD l i):=h.wb.kept (C.block _ h.wb.lt (fun G=>by have:=z _ G;rw[h.Ls.1]at this;omega));have L:kD w' (K.Wy i (k.iU p c) w.heap.size w'.heap.size) (x.dD l (i+1)):=by
  have e:∀j,FH ((K.Wy i (k.iU p c) w.heap.size w'.heap.size).nk j)=FH (K.nk j):=fun j=>by
   show FH (aQ K.nk i (some (k.iU p c)) j)=_;by_cases D:j=i
   ·subst D;rw[aG,N];rfl
   ·rw[aI _ _ D]
  unfold kD at A ⊢;rw[e 0,e 1];exact A
 have B:yM w0 w' (K.Wy i (k.iU p c) w.heap.size w'.heap.size) (x.dD l (i+1)) t i:=.inl ⟨k.iU p c,_,m,n,aG _ _ _,by show(if i < i+1 then (x.nd i).map _ else _)=_;rw[aj om,O];rfl,nd,J,G,S,U,V,ok,W,fun E a Q=>by
  have Y:w.heap.size<=a.block:=T E a Q;obtain⟨r,M⟩:=JC _ E;obtain⟨j,D⟩:=Aq M;obtain⟨g,o,Z,q0,_⟩:=nd.ru j r D;have e3:some a=some ⟨g,o,none⟩:=Q.symm.trans Z
  cases e3
  have q2:g < w'.heap.size:=eF q0;show(if g < w.heap.size then K.tag g else if g < w'.heap.size then 5 else 9)=5;rw[ak (by have:=Y;simp only at this;omega),aj q2]⟩
 have s:∀b ∈ (K.Wy i (k.iU p c) w.heap.size w'.heap.size).part (i+1),(K.Wy i (k.iU p c) w.heap.size w'.heap.size).tag b=i+1/\w0.heap.size<=b:=fun b f=>by
  rw[kJ F (K:=K.Wy i (k.iU p c) w.heap.size w'.heap.size) (k:=k.iU p c) (aG _ _ _)]at f;exact⟨by rw[q b (I.lt b f)];exact z b f,nd.g0 b f⟩
 have u:∀j,j≠i->(K.Wy i (k.iU p c) w.heap.size w'.heap.size).nk j=K.nk j/\(x.dD l (i+1)).nd j=(x.dD l i).nd j:=fun j D=>by
  refine⟨aI _ _ D,?_⟩;show(if j < i+1 then _ else _)=(if j < i then _ else _);by_cases R:j < i
  ·rw[aj R,aj om]
  ·rw[ak R,ak om]
 refine⟨h.make k.all C (fun b f=>⟨nd.g0 b f,by have:=z b f;omega⟩) nL q (fun b f=>?_) rfl L ?_ ?_ (.inr ⟨rfl,rfl,rfl⟩) (.inr ⟨rfl,rfl,rfl,fun b f=>by have:=z b f;omega⟩) (.inr ⟨rfl,rfl,fun b f=>by have:=z b f;omega⟩),Mv.list h C (fun b f=>by have:=z b f;omega) q rfl rfl⟩
 ·show(if b < w.heap.size then K.tag b else if b < w'.heap.size then 5 else 9)=9;rw[ak (by have:=C.size;omega),ak om]
 ·rcases dS F with rfl | rfl
  ·exact .inl ⟨B,s⟩
  ·exact .inr ⟨(u 0 om).1,rfl,(u 0 om).2,rfl,fun b f=>by have:=z b f;omega⟩
 ·rcases dS F with rfl | rfl
  ·exact .inr ⟨(u 1 om).1,rfl,(u 1 om).2,rfl,fun b f=>by have:=z b f;omega⟩
  ·exact .inl ⟨B,s⟩
theorem Jb {x:Wo} (l:List Rl) {j:Nat} (h:x.nd j=none):x.dD l (j+1)=x.dD l j:=by
 have e:(fun i=>if i < j+1 then (x.nd i).map (fun y=>({y with ru:=l}:No)) else x.nd i)=fun i=>if i < j then (x.nd i).map (fun y=>({y with ru:=l}:No)) else x.nd i:=by
  funext i
  by_cases a:i < j
  ·rw[aj a,aj om]
  ·rw[ak a];by_cases f:i=j
   ·subst f;rw[aj om,h];rfl
   ·rw[ak om]
 unfold Wo.dD;rw[e]
theorem Za {K:WK} {x:Wo} {t:Nat} {s:Nat->Addr} (S:jm w0 s) (h:Wd w0 w K x t) (v:Value) (l:List Rl) (R:PS w0 w K v l) (hl:l.length<=1000) :
  Calls prog 79 #[.pointer (some (K.wb,0)),v] w fun e w'=>(aF l/\e=.returned .nilIface/\∃K',Wd w0 w' K' (x.dD l 2) t/\Mv K K' w w')\/(¬aF l/\(∃v',e=.returned v'/\Dx s w' l v')/\Wd w0 w' K x t/\Mv K K w w'):=by
 obtain⟨O,c0,hv,u⟩:=R.sl.open;subst hv;have HS:Hid (jm w0 s):=S;have P:Hid (Wd w0 w K x t):=h;have HR:Hid (PS w0 w K (.slice O l.length c0) l):=R;have V:Hid (l.length<=1000):=hl;have W:Hid (oQ w O l):=u;clear S h R hl u;go_enter func79,ntmps79;go_wp2_with fail;refine(rO O l c0 s w (HS.below P.bl).n.sn W V).mono ?_;rintro e z ⟨⟨ev,rfl,J⟩,o⟩;have Q:Hid (Dx s z l ev):=J;have B1:Hid (Below w w z):=o;have T:Hid (Wd w0 z K x t):=P.below o;have R1:Hid (PS w0 z K (.slice O l.length c0) l):=HR.mv P.bl T.bl (Mv.of o);clear J o;by_cases f:aF l
 ·obtain rfl:=Pq f Q;have m:Hid (aF l):=f;clear f Q;go_wp2_with fail;refine(La _ l z R1.sl V).mono ?_;rintro e w2 ⟨⟨p,c,rfl,L,M⟩,X⟩;have A:=T.agy X L M m;have Q2:Hid (Wd w0 (w2.setCell (K.wb,4) (.slice p l.length c)) (K.ruW p c z w2) (x.dD l 0) t/\Mv K (K.ruW p c z w2) w (w2.setCell (K.wb,4) (.slice p l.length c))):=⟨A.1,(Mv.of B1.out).trans A.2⟩;have B:Hid (kD w2 K x):=(T.below X).wb;have f4:=B.fr 4;have c4:w2.cell? (K.wb,4)=some (.slice K.rp x.ru.length K.rc):=B.c 4;clear L M X A;go_wp2_with fail;generalize w2.setCell (K.wb,4) (.slice p l.length c)=w3 at *;clear f4 c4 B;go_loopw [6,7,18] (fun _ _ Y wr=>∃j:Nat,j<=2/\Y=.int .i64 j/\∃K',Wd w0 wr K' (x.dD l j) t/\Mv K K' w wr) (fun _ _ Y _=>2 - (intOf Y).toNat)
  case atStart=>exact⟨0,by omega,rfl,_,Q2.1,Q2.2⟩
  case round =>
   obtain⟨j,hj,rfl,K',wd,mv⟩:=hrel;have q:Hid (Wd w0 wr K' (x.dD l j) t):=wd;have H:Hid (Mv K K' w wr):=mv;clear wd mv;by_cases Z:j < 2
   ·have I:Hid (j < 2):=Z;have j0:(0:Int)<=(j:Int):=by omega
    have j1:(j:Int) < 2:=by omega
    go_wp2_with fail;have C:=x9 q.wb I;rw[H.wb]at C;refine C.mono ?_;clear C;rintro e w4 ⟨rfl,hw⟩;obtain rfl:=hw.symm;clear hw;have D:Hid ((x.dD l j).nd j=x.nd j):=by show(if j < j then _ else x.nd j)=x.nd j;rw[ak om]
    cases E:x.nd j with
    | none =>
     have N:(K'.nk j).isSome=false:=by rw[(q.sd I).iff,D.out,E];rfl
     have HX:Hid (x.dD l (j+1)=x.dD l j):=Jb l E;rw[N];clear N E;go_wp2_with fail;exact⟨⟨j+1,by omega,by go_num,K',by rw[HX.out];exact q,H⟩,by simp[intOf];omega⟩
    | some y =>
     have N:(K'.nk j).isSome=true:=by rw[(q.sd I).iff,D.out,E];rfl
     obtain⟨k,m',n',F,nd,Zg,q1,q2,q3,q4,q5,q6,q7,q8⟩:=q.up I (D.trans E);have HK:Hid (K'.nk j=some k/\m'<=33 * t/\n'<=8 * t):=⟨F,q1,q2⟩;have HN:Hid (Nd w0 wr k y m' n'):=nd;have HY:Hid (x.nd j=some y):=E;have cn:=q.wb.cn I;rw[F,H.wb]at cn;simp only[FH,nX]at cn;rw[N];clear N E F nd Zg q1 q2 q3 q4 q5 q6 q7 q8;go_wp2_with fail;refine(Yx HS HN _ l (HR.mv P.bl q.bl H).sl V).mono ?_;rintro e U ⟨G,c5⟩;rcases G with⟨_,rfl,p',c',nd5,hp5⟩ | ⟨hno,_⟩
     ·have A:=q.agz I HK.1 HY nd5 HK.2.1 HK.2.2 hp5 c5 m;have Q5:Hid (Wd w0 U (K'.Wy j (k.iU p' c') wr U) (x.dD l (j+1)) t/\Mv K (K'.Wy j (k.iU p' c') wr U) w U):=⟨A.1,H.trans A.2⟩;clear nd5 hp5 c5 A cn;go_wp2_with fail;exact⟨⟨j+1,by omega,by go_num,_,Q5.1,Q5.2⟩,by simp[intOf];omega⟩
     ·exact absurd m hno
   ·obtain rfl:j=2:=by omega
    go_wp2_with fail;go_ret;exact .inl ⟨m,rfl,K',q,H⟩
 ·have HX:Hid (∃e1 e2,ev=.iface e1 e2):=by
   rcases Q.out with⟨_,a⟩ | ⟨a,b,_⟩ | ⟨_,i,g,_,a,_⟩
   ·exact⟨_,_,a⟩
   ·exact absurd ⟨a,b⟩ f
   ·exact⟨_,_,a⟩
  have m:Hid (¬aF l):=f;clear f;obtain⟨e1,e2,rfl⟩:=HX.out;go_wp2_with fail;go_ret;exact .inr ⟨m,⟨_,rfl,Q⟩,T,Mv.of B1.out⟩
end
section
variable {y:By} {id:Nat}
structure Qy (y:By):Prop where
 on:y.on=true
 cut:y.cut=false
 len:y.B.length=64
 lf:y.left<=9223372036854775807
theorem Qy.new:Qy iO:=⟨rfl,rfl,rfl,by show(0:Nat)<=_;omega⟩
theorem afe (h:Qy y) {ep li:Nat} (p:(newest y.B).e<=ep) (q:ep<=1073741824) (u:(newest y.B).l<=li) (w:li<=1073741824) (z:(newest y.B).n < 4294967295) :
  (bn false y ep li).1=0/\Qy (bn false y ep li).2.1/\newest (bn false y ep li).2.1.B=⟨(newest y.B).n+1,ep,li⟩:=by
 have f:=XB h.on h.cut (aY y ep li);have e:bn false y ep li=(0,(dw y (aY y ep li)).1,false):=by
  unfold bn;have b1:lX ep li=false:=by
   unfold lX nN;rw[gG (by omega:(0:Int)<=ep),gG (by omega:(ep:Int)<=1073741824),gG (by omega:(0:Int)<=li),gG (by omega:(li:Int)<=1073741824)];rfl
  have m:mX y ep li=false:=by
   unfold mX;rw[gQ om,gQ om];rfl
  have o:¬(newest y.B).n=4294967295:=by omega
  simp only[b1,m,f,ak o,ab6,Ik,mV]
 have a:aY y ep li=⟨(newest y.B).n+1,ep,li⟩:=by unfold aY;simp
 have i:=(sW (s:=y) (x:=aY y ep li) h.len (by rw[a]) (by rw[a];show _+1 < _;omega) (by rw[a];show ep < _;omega) (by rw[a];show li < _;omega)).1 f;have hcut:(dw y (aY y ep li)).1.cut=false:=by
  unfold dw;rw[wF,aj ⟨h.on,.inl h.cut⟩];exact h.cut
 have j:=yV false y ep li;have k:=J6 false y ep li;rw[e]at j k ⊢;exact⟨rfl,⟨i.2,hcut,k.trans h.len,dL j h.lf⟩,i.1.trans a⟩
theorem Zb (a:Int) (n:Nat):jF newT a n=newT:=by
 funext j
 unfold jF;rw[ak];rintro⟨_,h⟩;simp[ni,newT,vG]at h
theorem Sm:∀n,jy newT n=[]
 | 0=>rfl
 | n+1=>by rw[jy,if_pos (show(newT n).pr=0 from rfl),Sm n]
def roQ (id:Nat) (ep j:Nat):Ro:=if j<=9 then ⟨id,ep,j,false⟩ else ⟨id,(Ro.new id ep).nx,10,true⟩
def yQ (id ep life:Nat) (y:By) (j:Nat):By:=if j<=9 then y else (bn false y (Ro.new id ep).nx life).2.1
structure Qn (id ep life:Nat) (y:By) (j:Nat) (x:No):Prop where
 ro:x.ro=roQ id ep j
 ii:x.id=id
 li:x.life=life
 now:x.now=j
 T:x.T=newT
 mt:x.mt=newT
 off:x.off=false
 yy:x.y=yQ id ep life y j
theorem Qn.noted {ep life:Nat} {j:Nat} {x:No} (h:Qn id ep life y j x):Qn id ep life y j x.noted:=by
 unfold No.noted;split
 ·exact⟨h.ro,h.ii,h.li,h.now,h.T,h.mt,h.off,h.yy⟩
 ·exact h
theorem Qn.new {l:List Rl} :
  Qn id (newest y.B).e ((newest y.B).l+1) (No.new id y l).y 0 (No.new id y l) :=
 ⟨rfl,rfl,rfl,rfl,rfl,rfl,rfl,rfl⟩
theorem Qn.tick {ep life:Nat} {j:Nat} {x:No} (h:Qn id ep life y j x) (B:ep+2<=1073741824) (w:(bn false y (Ro.new id ep).nx life).1=0) :
  x.lg=0/\Qn id ep life y (j+1) x.tick:=by
 have z:x.au.T=newT:=by show jF x.T _ 32=_;rw[h.T,Zb]
 have A:x.au.now=(j+1:Nat):=by show x.now+1=_;rw[h.now];omega
 by_cases u:j<=9
 ·have hr:x.ro=⟨id,ep,j,false⟩:=by rw[h.ro];unfold roQ;rw[aj u]
  have f:x.ro.tick=⟨id,ep,j+1,false⟩:=by
   rw[hr];show(⟨id,ep,if (j:Int)<=9 then (j:Int)+1 else j,false⟩:Ro)=_;rw[aj om]
  have l:x.ro.rings=decide (9 < (j:Int)+1):=by
   rw[hr];show decide (9 < (if (j:Int)<=9 then (j:Int)+1 else j))=_;rw[aj om]
  by_cases C:j=9
  ·subst C;have a:x.ro.rings=true:=by rw[l];decide
   have e:x.ro.tick.oM=0:=by
    rw[f];have:=(Ro.aeh (r:=⟨id,ep,(9:Nat)+1,false⟩));unfold Ro.oM;rw[ak];simp only at this;omega
   have m:x.ro.tick.jQ=(Ro.new id ep).nx:=by
    have D:¬1073741824 < x.ro.tick.nx:=by
     intro q;unfold Ro.oM at e;rw[aj q]at e;cases e
    unfold Ro.jQ;rw[ak D,f];rfl
   have i:x.au.cp=bn false y (Ro.new id ep).nx life:=by
    show bn x.off x.y x.ro.tick.jQ x.life=_;rw[h.off,h.yy,m,h.li];rfl
   have o:x.au.rP={x.au with y:=x.au.cp.2.1,off:=x.au.cp.2.2,T:=Aa x.au.now x.au.T (jy x.au.mt 32),ro:=x.au.ro.claim x.au.ro.jQ}:=by
    unfold No.rP;rw[aj (show x.au.ro.oM=0 from e),aj (by rw[i];exact w)]
   have p:x.au.mM=0:=by
    unfold No.mM;rw[aj (show x.au.ro.oM=0 from e),i];exact w
   have k:x.lg=0:=by unfold No.lg;rw[a];exact p
   refine⟨k,?_⟩;have s:x.tick=x.au.rP.noted:=by unfold No.tick No.tk1;rw[k,a];rfl
   rw[s];refine Qn.noted ?_;rw[o];refine⟨?_,h.ii,h.li,A,?_,h.mt,?_,?_⟩
   ·show x.ro.tick.claim x.ro.tick.jQ=_;have E:x.ro.tick.mM x.ro.tick.jQ=0:=Ro.IW (by rw[f]) e;unfold Ro.claim;rw[aj E,m,f];rfl
   ·show Aa _ x.au.T (jy x.mt 32)=_;rw[h.mt,Sm];exact z
   ·show x.au.cp.2.2=_;rw[i];exact DT w
   ·show x.au.cp.2.1=_;rw[i];rfl
  ·have a:x.ro.rings=false:=by rw[l];exact gQ om
   have k:x.lg=0:=by unfold No.lg;rw[a];rfl
   refine⟨k,?_⟩;have s:x.tick=x.au.noted:=by unfold No.tick No.tk1;rw[k,a];rfl
   rw[s];refine Qn.noted ⟨?_,h.ii,h.li,A,z,h.mt,h.off,?_⟩
   ·show x.ro.tick=_;rw[f];unfold roQ;rw[aj om];simp
   ·show x.y=_;rw[h.yy];unfold yQ;rw[aj u,aj om]
 ·have hr:x.ro=⟨id,(Ro.new id ep).nx,10,true⟩:=by rw[h.ro];unfold roQ;rw[ak u]
  have f:x.ro.tick=x.ro:=by rw[hr];rfl
  have a:x.ro.rings=false:=by rw[hr];rfl
  have k:x.lg=0:=by unfold No.lg;rw[a];rfl
  refine⟨k,?_⟩;have s:x.tick=x.au.noted:=by unfold No.tick No.tk1;rw[k,a];rfl
  rw[s];refine Qn.noted ⟨?_,h.ii,h.li,A,z,h.mt,h.off,?_⟩
  ·show x.ro.tick=_;rw[f,hr];unfold roQ;rw[ak om]
  ·show x.y=_;rw[h.yy];unfold yQ;rw[ak u,ak om]
end
def nxN (a ep:Nat):Nat:=if (ep+1) % 2=a then ep+1 else ep+2
structure Beg (y:By) (n e l:Nat):Prop where
 q:Qy y
 nw:newest y.B=⟨n,e,l⟩
 hn:n<=1000
 he:e<=1000
 hl:l<=1000
def aff (y:By):By:=(bn false y (newest y.B).e ((newest y.B).l+1)).2.1
theorem Beg.put {y:By} {n e l:Nat} (h:Beg y n e l) {ep:Nat} (a:e<=ep) (i:ep<=10000) {li:Nat} (f:l<=li) (j:li<=10000):(bn false y ep li).1=0/\Qy (bn false y ep li).2.1/\newest (bn false y ep li).2.1.B=⟨n+1,ep,li⟩:=by
 have hn:=h.hn;have:=afe h.q (ep:=ep) (li:=li) (by rw[h.nw];exact a) om (by rw[h.nw];exact f) om (by rw[h.nw];show n < _;omega);rw[h.nw]at this;exact this
theorem Beg.new {y:By} {n e l:Nat} (h:Beg y n e l):(bn false y (newest y.B).e ((newest y.B).l+1)).1=0/\Qy (aff y)/\newest (aff y).B=⟨n+1,e,l+1⟩:=by
 have:=h.put (ep:=e) (li:=l+1) nL (by have:=h.he;omega) om (by have:=h.hl;omega);unfold aff;rw[h.nw];exact this
theorem Beg.zero:Beg iO 0 0 0:=⟨Qy.new,J7,by omega,by omega,by omega⟩
theorem aF.nil:aF []:=⟨by simp,rfl⟩
theorem Sl.nil (w:World):Sl w (.slice none 0 0) []:=Or.inl ⟨rfl,rfl⟩
def Wo.iV (l:List Rl) (j:Nat):Wo:=⟨fun i=>if i < j then some (No.new i iO.fF l) else none,fun _=>iO,l,0,0,[],[]⟩
def Wo.born (l:List Rl):Wo:=Wo.iV l 2
theorem Jc (l:List Rl) (j:Nat):(Wo.iV l j).vK j=Wo.iV l (j+1):=by
 have e:aQ (fun i=>if i < j then some (No.new i iO.fF l) else none) j (some (No.new j iO.fF l))=fun i=>if i < j+1 then some (No.new i iO.fF l) else none:=by
  funext i
  unfold aQ;by_cases a:i=j
  ·subst a;rw[aj rfl,aj om]
  ·rw[ak a];by_cases f:i < j
   ·simp only[aj f,aj (show i < j+1 by omega)]
   ·simp only[ak f,ak (show ¬i < j+1 by omega)]
 unfold Wo.vK;show(⟨aQ (fun i=>if i < j then some (No.new i iO.fF l) else none) j (some (No.new j iO.fF l)),_,_,_,_,_,_⟩:Wo)=_;rw[e];rfl
theorem uf (l:List Rl) (j:Nat):(Wo.iV l j).nd j=none:=by show(if j < j then _ else none)=none;rw[ak om]
theorem Jd (l:List Rl):(Wo.iV [] 0).dD l 2=Wo.iV l 0:=by
 have e:(fun i=>if i < 2 then ((Wo.iV [] 0).nd i).map (fun y=>({y with ru:=l}:No)) else (Wo.iV [] 0).nd i)=fun i=>if i < 0 then some (No.new i iO.fF l) else none:=by
  funext i
  have a:(Wo.iV [] 0).nd i=none:=by show(if i < 0 then some (No.new i iO.fF []) else none)=none;rw[ak om]
  rw[a,ak (by omega:¬i < 0)];split <;> rfl
 unfold Wo.dD;rw[e];rfl
def K0 (b:Nat):WK:=⟨b,fun _=>none,fun _=>none,none,0,none,none,[],fun g=>if g=b then 0 else 9⟩
theorem adb (w:World):Wd w (w.alloc (.cells #[.pointer none,.pointer none,.pointer none,.pointer none,.slice none 0 0,.int .i64 0,.int .i64 0,.slice none 0 0,.slice none 0 0] 169)) (K0 w) (Wo.iV [] 0) 0:={
 wb:=dh w _
 s0:=.inr (.inr ⟨rfl,rfl,rfl⟩)
 s1:=.inr (.inr ⟨rfl,rfl,rfl⟩)
 ru:=.inl ⟨rfl,rfl⟩
 ro:=aF.nil
 rt:=fun a e=>by cases e
 fl:=⟨rfl,by show(0:Nat)<=200;omega,fun i t v h=>by have j:([]:List Nf)[i]? = some t:=h;simp at j,.inl ⟨rfl,rfl⟩⟩
 ev:=⟨by show(0:Nat)<=1000;omega,.inl ⟨rfl,rfl⟩⟩
 tg:=fun i l b f=>by
  have:i=0\/i=1\/i=2\/i=3\/i=4:=by omega
  rcases this with rfl | rfl | rfl | rfl | rfl
  ·have e:b=w.heap.size:=by simpa [WK.part,K0] using f
   subst e;exact⟨aj rfl,bJ _⟩
  all_goals simp[WK.part,K0]at f
 al:=fun b f=>by
  have k:(w.alloc (.cells #[.pointer none,.pointer none,.pointer none,.pointer none,.slice none 0 0,.int .i64 0,.int .i64 0,.slice none 0 0,.slice none 0 0] 169)).heap.size=w.heap.size+1:=by simp[go_sem]
  rw[k]at f;exact ak om
 bl:=aB _ _}
def WK.U1 (K:WK) (i b a:Nat):WK:={K with yk:=aQ K.yk i (some b),tag:=fun g=>if g < a then K.tag g else if g=b then i+1 else 9}
theorem kD.U1 {w:World} {K:WK} {x:Wo} (h:kD w K x) {i:Nat} (e:i < 2) (b a:Nat):kD (w.setCell (K.wb,i * 2+1) (.pointer (some (b,0)))) (K.U1 i b a) x:=by
 unfold kD;show(w.setCell (K.wb,i * 2+1) (.pointer (some (b,0)))).heap[K.wb]? = _;rw[bV w _ _ _ _ _ h];rcases dS e with rfl | rfl <;> rfl
theorem Wd.agA {w0 w j:World} {K:WK} {x:Wo} {t i:Nat} (h:Wd w0 w K x t) (p:i < 2) (z:K.nk i=none) (B:x.nd i=none) (J:K.yk i=none) (b1:Below w w j) (Y:fK j w (x.yb i)) (C:(x.yb i).left<=9223372036854775807) :
  Wd w0 (j.setCell (K.wb,i * 2+1) (.pointer (some (w.heap.size,0)))) (K.U1 i w w) x t:=by
 have l:=h.Ls;have s:=h.wb.lt;have a:∀q ∈ [K.wb],w0.heap.size<=q/\K.tag q=0:=fun q e=>by
  simp only[dI,eY,fA]at e;subst e;exact⟨l.2,l.1⟩
 have A:aC K.wb j (j.setCell (K.wb,i * 2+1) (.pointer (some (w.heap.size,0)))):=aC.set _ _ _ _;have u:=(h.wb.kept (b1.block _ s)).U1 p w w.heap.size;have D:(j.setCell (K.wb,i * 2+1) (.pointer (some (w.heap.size,0)))).heap.size=j.heap.size:=by simp[go_sem]
 have E:fK (j.setCell (K.wb,i * 2+1) (.pointer (some (w.heap.size,0)))) w (x.yb i):=Y.kept (A.block _ Y.lt om);have F:=Y.lt;generalize j.setCell (K.wb,i * 2+1) (.pointer (some (w.heap.size,0)))=w2 at *;have G:ay [K.wb] w w2:=(ay.of b1).trans (ay.one A sM);have m:∀g,g < w.heap.size->(K.U1 i w w).tag g=K.tag g:=fun g o=>aj o;have y:(K.U1 i w w).tag w.heap.size=i+1:=by
  show(if w.heap.size < w.heap.size then _ else if w.heap.size=w.heap.size then i+1 else 9)=i+1;rw[ak om,aj rfl]
 have k:yM w0 w2 (K.U1 i w w) x t i:=.inr (.inl ⟨w.heap.size,z,B,aG _ _ _,E,C⟩);have f:∀g ∈ (K.U1 i w w).part (i+1),(K.U1 i w w).tag g=i+1/\w0.heap.size<=g:=fun g o=>by
  have H:(K.U1 i w w).nk i=none:=z;have I:(K.U1 i w w).yk i=some w.heap.size:=aG _ _ _;have:g=w.heap.size:=by
   rcases dS p with rfl | rfl <;> (simp only[WK.part,H,I,Option.toList,dI,eY,fA]at o;exact o)
  subst this;exact⟨y,h.bl.size⟩
 refine h.make [K.wb] G (fun q e=>⟨(a q e).1,by have:=(a q e).2;omega⟩) nL m (fun g o=>?_) rfl u ?_ ?_ (.inr ⟨rfl,rfl,rfl⟩) (.inr ⟨rfl,rfl,rfl,fun q e=>by have:=(a q e).2;omega⟩) (.inr ⟨rfl,rfl,fun q e=>by have:=(a q e).2;omega⟩)
 ·show(if g < w.heap.size then K.tag g else if g=w.heap.size then i+1 else 9)=9;rw[ak (by have:=b1.size;omega),ak om]
 ·rcases dS p with rfl | rfl
  ·exact .inl ⟨k,f⟩
  ·exact .inr ⟨rfl,rfl,rfl,rfl,fun q e=>by have:=(a q e).2;omega⟩
 ·rcases dS p with rfl | rfl
  ·exact .inr ⟨rfl,rfl,rfl,rfl,fun q e=>by have:=(a q e).2;omega⟩
  ·exact .inl ⟨k,f⟩
theorem PV {l:List Rl} (h:aF l) {i:Nat} (a:i < 2):sD i iO.fF l:=⟨a,h,rfl,by show(newest iO.B).e<=_;rw[Beg.zero.nw];show(0:Nat)<=_;omega,Beg.zero.new.1⟩
theorem ade {w:World} {s:Nat->Addr} (S:jm w s) (v:Value) (l:List Rl) (R:Sl w v l) (hv:∀a n c,v=.slice (some a) n c->a.block < w.heap.size) (hl:l.length<=1000) :
  Calls prog 56 #[v] w fun e w'=>(aF l/\∃K,e=.returned (.tuple #[.pointer (some ⟨K.wb,0,none⟩),.nilIface])/\Wd w w' K (Wo.born l) 0/\(∀i,i < 2->∃b,K.yk i=some b)/\∀b,b < w.heap.size->K.tag b=9)\/(¬aF l/\(∃v',e=.returned (.tuple #[.pointer none,v'])/\Dx s w' l v')/\Below w w w'):=by
 have HS:Hid (jm w s):=S;have HF:Hid (Far w w (K0 0) v l):=⟨R,hv⟩;have HL:Hid (l.length<=1000):=hl;clear S R hv hl;go_enter func56,ntmps56;go_wp2_with fail;have X:Hid (Wd w (w.alloc (.cells #[.pointer none,.pointer none,.pointer none,.pointer none,.slice none 0 0,.int .i64 0,.int .i64 0,.slice none 0 0,.slice none 0 0] 169)) (K0 w) (Wo.iV [] 0) 0):=adb w;generalize w.alloc (.cells #[.pointer none,.pointer none,.pointer none,.pointer none,.slice none 0 0,.int .i64 0,.int .i64 0,.slice none 0 0,.slice none 0 0] 169)=w1 at *;have m:=Za HS X v l (HF.bl (K':=K0 0) bR X.bl).t HL;refine m.mono ?_;clear m;rintro e w2 A;rcases A with⟨hok,rfl,K2,wd2,mv2⟩ | ⟨hno,⟨v',rfl,hc⟩,wd2,mv2⟩
 ·rw[Jd]at wd2;have G:Hid (aF l):=hok;have H:Hid (Wd w w2 K2 (Wo.iV l 0) 0/\K2.wb=w.heap.size/\(∀i,K2.yk i=none)/\∀b,b < w.heap.size->K2.tag b=9):=⟨wd2,mv2.wb,fun i=>by rw[mv2.yk];rfl,fun b p=>(mv2.tag b (ji p X.bl.size)).trans (ak om)⟩;clear hok wd2 mv2 X;go_wp2_with fail;go_loopw [6,7,16] (fun _ _ Z wr=>∃j:Nat,j<=2/\Z=.int .i64 j/\∃K',Wd w wr K' (Wo.iV l j) 0/\K'.wb=w.heap.size/\(∀i,i < j->∃b,K'.yk i=some b)/\(∀i,j<=i->K'.yk i=none)/\∀b,b < w.heap.size->K'.tag b=9) (fun _ _ Z _=>2 - (intOf Z).toNat)
  case atStart=>exact⟨0,by omega,rfl,K2,H.1,H.2.1,fun i D=>by omega,fun i _=>H.2.2.1 i,H.2.2.2⟩
  case round =>
   obtain⟨j,hj,rfl,K',wd,I,J,L,M⟩:=hrel;have E:Hid (Wd w wr K' (Wo.iV l j) 0):=wd;have h:Hid (K'.wb=w.heap.size):=I;have N:Hid ((∀i,i < j->∃b,K'.yk i=some b)/\(∀i,j<=i->K'.yk i=none)):=⟨J,L⟩;have HT:Hid (∀b,b < w.heap.size->K'.tag b=9):=M;clear wd I J L H M;by_cases O:j < 2
   ·have HJ:Hid (j < 2):=O;have j0:(0:Int)<=(j:Int):=by omega
    have j1:(j:Int) < 2:=by omega
    have P:K'.nk j=none:=by
     have:=(E.sd O).iff;rw[uf]at this
     cases hq:K'.nk j with
     | none=>rfl
     | some k=>rw[hq]at this;cases this
    have Q:Hid (∀u,Below wr wr u->u.heap.size=wr.heap.size->Calls prog 80 #[] u fun e w'=>e=.returned (.pointer (some (wr.heap.size,0)))/\fK w' wr iO/\Below wr wr w'):=fun u hu hs =>
     (Iz u).mono fun e w' ⟨⟨T,y⟩,b⟩=>by rw[hs]at T y;exact⟨T,y,t2 hu b⟩
    have Zg:Hid (K'.nk j=none):=P;clear P;have Zh:Hid (w.heap.size < wr.heap.size):=by have:=E.wb.lt;rw[h.out]at this;exact this
    have Zi:Hid (∀u,Below wr wr u->u.cell? (w.heap.size,j * 2+1)=some (.pointer none)/\u.frozen? (w.heap.size,j * 2+1)=false):=fun u hu=>by
     have p:=E.wb.kept (hu.block _ E.wb.lt);have c:=p.cy HJ;rw[N.2 j nL,h.out]at c;have f:=p.fr (j * 2+1);rw[h.out]at f;exact⟨c,f⟩
    go_wp2_with fail;go_region_with (first
     | (go_at_call 80;refine(Q _ (by first | exact aH _ _ | exact bD | exact(aH _ _).drew.drew) (by first | rfl | simp[go_sem])).mono ?_;rintro e U ⟨rfl,V,B⟩;have Y3:Hid (fK U wr iO):=V;have B3:Hid (Below wr wr U):=B;have Zj:=Zi.out U B;obtain⟨Zk,Zl⟩:=Zj;clear V B))
    all_goals
     have W3:Hid (Wd w (U.setCell (w.heap.size,j * 2+1) (.pointer (some (wr.heap.size,0)))) (K'.U1 j wr wr) (Wo.iV l j) 0):=by
      have:=E.agA HJ Zg (uf l j) (N.2 j nL) B3 Y3 (by show(0:Nat)<=_;omega);rw[h.out]at this;exact this
     go_wp2_with fail;clear Zk Zl;generalize U.setCell (w.heap.size,j * 2+1) (.pointer (some (wr.heap.size,0)))=w4 at *;have q:=YV HS W3 (j:Int) (fun i e D _=>by
      have Y:j=i:=by omega
      subst Y;exact⟨_,aG _ _ _,PV G D⟩)
     have x:(K'.U1 j wr wr).wb=w.heap.size:=h.out;rw[x]at q;have C:(Wo.iV l j).vM (j:Int)=0:=by unfold Wo.vM;rw[aj om,fJ,uf];rfl
     have z:(Wo.iV l j).iL (j:Int)=Wo.iV l (j+1):=by unfold Wo.iL;rw[aj C,fJ,Jc]
     rw[C,z]at q;refine q.mono ?_;clear q C z x;rintro e w5 ⟨rfl,F,W,o⟩;have W5:Hid (Wd w w5 F (Wo.iV l (j+1)) 0/\F.wb=w.heap.size/\(∀i,i < j+1->∃b,F.yk i=some b)/\(∀i,j+1<=i->F.yk i=none)/\∀b,b < w.heap.size->F.tag b=9):=by
      refine⟨W,o.wb.trans h,fun i D=>?_,fun i D=>?_,fun b p=>(o.tag b (ji p W3.bl.size)).trans ((aj (Nat.lt_trans p Zh)).trans (HT b p))⟩
      ·rw[o.yk];by_cases T:i=j
       ·subst T;exact⟨_,aG _ _ _⟩
       ·obtain⟨b,p⟩:=N.1 i om;exact⟨b,(aI _ _ T).trans p⟩
      ·rw[o.yk];exact(aI _ _ om).trans (N.2 i om)
     clear W o W3;simp only[aO];go_wp2_with fail;exact⟨⟨j+1,by omega,by go_num,F,W5.1,W5.2⟩,by simp[intOf];omega⟩
   ·obtain rfl:j=2:=by omega
    go_wp2_with fail;go_ret2;exact .inl ⟨G,K',by rw[h.out];rfl,E,fun i D=>N.1 i D,HT⟩
 ·have HX:Hid (∃e1 Y,v'=.iface e1 Y):=by
   rcases hc with⟨_,a⟩ | ⟨a,b,_⟩ | ⟨_,i,g,_,a,_⟩
   ·exact⟨_,_,a⟩
   ·exact absurd ⟨a,b⟩ hno
   ·exact⟨_,_,a⟩
  have Q:Hid (Dx s w2 l v'/\¬aF l/\Below w w w2):=⟨hc,hno,wd2.bl⟩;clear hc hno wd2 mv2;obtain⟨e1,Y,rfl⟩:=HX.out;go_wp2_with fail;go_ret2;exact .inr ⟨Q.2.1,⟨_,rfl,Q.1⟩,Q.2.2⟩
theorem Je {w:World} {base:Nat} (e:TypeId) (size:Nat) (a:base<=w.heap.size):(w.alloc (.cells #[] e)).ownsRow base e size (.slice (some (w.heap.size,0)) 0 0) 0 [] :=
 ⟨by simp,.inr ⟨w.heap.size,0,#[],rfl,a,dh w _,bJ _,by unfold maxLen;omega,by simp,by simp⟩⟩
theorem Zc (p:Option Addr) (n cap:Nat) (xs:List Value) (w:World) (i:xs.length=n * 2) (k:p=none->n=0) (l:∀a,p=some a->∀j u,xs[j]? = some u->w.cell? (a.add j)=some u) (m:∀u ∈ xs,u.oneCell'=true) (o:n<=1000) :
  Calls prog 198 #[.slice p n cap] w fun e w'=>(∃v',e=.returned v'/\w'.ownsRow w 165 2 v' n xs)/\Below w w w':=by
 cases p with
 | none =>
  obtain rfl:=k rfl;have F:xs=[]:=List.length_eq_zero_iff.1 om;subst F;have G:=abZ (P := prog) w 167 165 none 0 cap 0 0 Tryz.underlying167;clear i k l m o;go_enter func198,ntmps198;go_wp2_with fail;go_ret;exact⟨⟨_,rfl,⟨rfl,.inl ⟨rfl,rfl⟩⟩⟩,aH _ _⟩
 | some a =>
  obtain⟨H,I,q,s,x⟩:=lu Tryz.YX;have G:=abZ (P := prog) w 167 165 (some a) n cap 0 0 Tryz.underlying167;have J:Hid (xs.length=n * 2):=i;have K:Hid (∀j u,xs[j]? = some u->w.cell? (a.add j)=some u):=l a rfl;have L:Hid (∀u ∈ xs,u.oneCell'=true):=m;have A:Hid (n<=1000):=o;clear i k l m o;go_enter func198,ntmps198;go_wp2_with (at_builtin;refine vw _ rfl _ _ 167 rfl w 165 H _ 2 16 Tryz.underlying167 I q s x rfl dC (.slice (some ⟨w.heap.size,0,none⟩) 0 0) 0 [] rfl ?g0 a n cap xs rfl J ?g1 L (by have:=A.out;unfold maxLen;omega) (by have:=A.out;omega) ?g2 ?g3)
  case g0=>exact Je 165 2 nL
  case g1=>exact fun j u y=>tk (aB _ _) (K j u y)
  case g2=>simp
  intro v' z h f _;have B:z.ownsRow w 165 2 v' n xs:=by simpa using h
  have C:Hid (z.ownsRow w 165 2 v' n xs):=B;clear B;have M:Hid (Below w w z):=((aH _ _).alloc nL _).grown f sM (fun j y=>by simp[Value.ownBlock]at y;omega);clear h f;obtain⟨D,E,vc,N⟩:∃D E vc,v'=.slice D E vc:=by
   rcases aJ C with⟨e,_⟩ | ⟨g',c',e,_⟩
   ·exact⟨_,_,_,e⟩
   ·exact⟨_,_,_,e⟩
  subst N;go_wp2_with fail;go_ret;exact⟨⟨_,rfl,C⟩,M⟩
theorem adf (l:List (Int×Int)):(yt l).length=l.length * 2:=by
 induction l with
 | nil=>rfl
 | cons e l ih=>rw[show yt (e::l)=[.int .i64 e.1,.int .i64 e.2]++yt l by simp[yt],jw,ih];simp;omega
theorem adg (l:List (Int×Int)):∀u ∈ yt l,u.oneCell'=true:=fun u f=>by
 obtain⟨e,_,a⟩:=List.mem_flatMap.1 f;simp only[dI,eY,fA]at a;rcases a with rfl | rfl <;> rfl
theorem U3 {w0 w:World} {K:WK} {x:Wo} {t:Nat} (h:Wd w0 w K x t) :
  Calls prog 160 #[.pointer (some (K.wb,0))] w fun e w'=>(∃v',e=.returned v'/\w'.ownsRow w 165 2 v' x.ev.length (yt x.ev))/\Below w w w':=by
 obtain⟨p,c,k,f,i⟩:=h.evo;have D:w.cell? (K.wb,8)=some (.slice p x.ev.length c):=by have:=h.wb.c 8;rw[<- k];exact this
 have y:Hid (Calls prog 198 #[.slice p x.ev.length c] w fun e w'=>(∃v',e=.returned v'/\w'.ownsRow w 165 2 v' x.ev.length (yt x.ev))/\Below w w w'):=by
  refine Zc p x.ev.length c (yt x.ev) w (adf _) (fun e=>?_) (fun a l j u z=>?_) (adg _) h.ev.le
  ·rcases aJ f with⟨q,q2⟩ | ⟨g,cc,q,_⟩
   ·exact q2
   ·rw[e]at q;cases (Fe q).1
  ·rcases aJ f with⟨q,q2⟩ | ⟨g,cc,q,_⟩
   ·rw[l]at q;cases (Fe q).1
   ·subst l;have A:a=(g,0):=sS (Fe q).1;subst A;exact f.cells (g:=g) rfl j u z
 clear h k f i;go_enter func160,ntmps160;go_wp2_with fail;refine y.mono ?_;rintro e m ⟨⟨v',rfl,o⟩,s⟩;have B:Hid (m.ownsRow w 165 2 v' x.ev.length (yt x.ev)):=o;have C:Hid (Below w w m):=s;clear o s;go_wp2_with fail;go_ret;exact⟨⟨_,rfl,B⟩,C⟩
theorem yw:∀(l:List (Int×Int)) (i:Nat) (e:Int×Int),l[i]? = some e->(yt l)[i * 2]? = some (.int .i64 e.1)/\(yt l)[i * 2+1]? = some (.int .i64 e.2)
 | [],_,_,h=>by simp at h
 | a::l,0,e,h=>by
  have:a=e:=by simpa using h
  subst this;exact⟨rfl,rfl⟩
 | a::l,i+1,e,h=>by
  have f:=yw l i e (by simpa using h);have j:yt (a::l)=.int .i64 a.1::.int .i64 a.2::yt l:=by simp[yt]
  rw[j,show(i+1) * 2=i * 2+2 by omega,show i * 2+2+1=i * 2+1+2 by omega];exact f
theorem adh {w:World} {B:Nat} {v:Value} {L:List (Int×Int)} (h:w.ownsRow B 165 2 v L.length (yt L)):∃(p:Option Addr) (cap:Nat),v=.slice p L.length cap/\∀(j:Nat) x,L[j]? = some x->∃g,p=some ⟨g,0,none⟩/\B<=g/\w.cell? ⟨g,j * 2,none⟩=some (.int .i64 x.1)/\w.cell? ⟨g,j * 2+1,none⟩=some (.int .i64 x.2):=by
 rcases h.2 with⟨h1,h2⟩ | ⟨g,cap,cur,h1,h2,h3,h4,h5,h6,h7⟩
 ·refine⟨none,0,by rw[h1,h2],fun j x a=>?_⟩;rw[List.length_eq_zero_iff.1 h2]at a;simp at a
 ·refine⟨some (g,0),cap,h1,fun j x a=>⟨g,rfl,h2,?_⟩⟩;have e:∀k u,(yt L)[k]? = some u->w.cell? ⟨g,k,none⟩=some u:=fun k u f=>by
   rw[<- h7,kG]at f;split at f
   ·have i:cur[k]? = some u:=by simpa using f
    simp[World.cell?,h3,i]
   ·cases f
  exact⟨e _ _ (yw L j x a).1,e _ _ (yw L j x a).2⟩
def RdE (w:World) (p:Option Addr) (a:List (Int×Int)):Prop:=∀(j:Nat) x,a[j]? = some x->∃g,p=some ⟨g,0,none⟩/\w.cell? ⟨g,j * 2,none⟩=some (.int .i64 x.1)/\w.cell? ⟨g,j * 2+1,none⟩=some (.int .i64 x.2)
theorem RdE.below {w w':World} {p:Option Addr} {xs:List (Int×Int)} (h:RdE w p xs) (a:Below w w w'):RdE w' p xs:=fun j x f=>by
 obtain⟨g,e,c,d⟩:=h j x f;exact⟨g,e,tk a c,tk a d⟩
theorem adi (w:World) (a b:Int) (q:Nat) (u:Value) (e:([a,b]:List Value)[q]? = some u):(w.alloc (.cells #[a,b] 113)).cell? (Addr.add (w.heap.size,0) q)=some u:=by
 rw[qo,fE,nw];simpa using e
theorem Tryz.afg:(prog.info? 113).map (fun i=>(i.zero,i.size,i.bytes))=some (some (.agg #[.int .i64 0,.int .i64 0]),2,16):=by kernel_rfl
theorem Sr {w:World} {K:WK} {x:Wo} (a:kD w K x) (f:Oa w K x) :
  Calls prog 99 #[.pointer (some (K.wb,0))] w fun e w'=>e=.returned x.fl.length/\w'=w:=by
 have c7:w.cell? (K.wb,7)=some (GK K.fg x.fl.length):=a.c 7;obtain⟨p,c,e⟩:=f.sl;rw[e]at c7;clear e a f;go_enter func99,ntmps99;go_wp2_with fail;go_ret;exact⟨rfl,rfl⟩
theorem Sv {w0 w:World} {K:WK} {x:Wo} {t:Nat} {s:Nat->Addr} (S:jm w0 s) (h:Wd w0 w K x t) (n:Int) :
  Calls prog 105 #[.pointer (some (K.wb,0)),n] w fun e w'=>((∃i y k,n=((i:Nat):Int)/\i < 2/\x.nd i=some y/\K.nk i=some k/\e=.returned (.tuple #[.pointer (some ⟨k.nd,0,none⟩),.nilIface]))\/(∃l,x.jW n=l+1/\e=.returned (.tuple #[.pointer none,.iface 359 (.pointer (some (s l)))])))/\Below w w w':=by
 have u:Hid (jm w0 s):=S;have m:Hid (Wd w0 w K x t):=h;clear S h;go_enter func105,ntmps105;go_wp2_with fail;refine(DY u m n).mono ?_;rintro e o ⟨rfl,a⟩;have p:Hid (Below w w o):=a;have q:Hid (Wd w0 o K x t):=m.below a;clear a;rcases yh s x K.wb n with⟨i,y,hn,hi,hy,he,hv⟩ | ⟨e,he,hv⟩
 ·rw[hv];obtain⟨k,m',z,j,_⟩:=q.up hi hy;have f:Hid (n=((i:Nat):Int)/\i < 2/\x.nd i=some y/\K.nk i=some k):=⟨hn,hi,hy,j⟩;have cn:=q.wb.cn hi;rw[j]at cn;simp only[FH,nX]at cn;clear hv hn hi hy he j;go_wp2_with fail;go_ret2;exact⟨.inl ⟨i,y,k,f.1,f.2.1,f.2.2.1,f.2.2.2,rfl⟩,p⟩
 ·rw[hv];have f:Hid (x.jW n=e+1):=he;clear hv he;go_wp2_with fail;go_ret2;exact⟨.inr ⟨e,f,rfl⟩,p⟩
end Go.Proofs.YtnogmjekhjldcaaGreatDoor
