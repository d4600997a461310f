/-
  What the claimed theorem reaches, part Q18.
-/
import Derived.Test.YtnogmjekhjldcaaGreatDoorQ17
namespace Go.Proofs.YtnogmjekhjldcaaGreatDoor
open Go.RowKit Go.Proofs.Tryz
set_option maxRecDepth 100000
set_option maxHeartbeats 8000000
theorem adk (x:No) (p:Pk):(x.ins p).ru=x.ru/\(x.ins p).id=x.id/\(x.ins p).now=x.now:=by
 unfold No.ins No.ou No.mP No.bg;repeat' split
 all_goals exact⟨rfl,rfl,rfl⟩
theorem adl (x:No) (p:Pk):(x.jd p).ru=x.ru/\(x.jd p).id=x.id/\(x.jd p).now=x.now:=by
 unfold No.jd No.mP;repeat' split
 all_goals exact⟨rfl,rfl,rfl⟩
def Wo.oh (W:Wo) (p:Pk):Nat:=match W.I7 with | some (_,x)=>x.oh p | none=>W.RX
def Wo.eU (W:Wo) (p:Pk):Pk:=match W.I7 with | some (_,x)=>x.eU p | none=>aU
def Wo.ins (W:Wo) (p:Pk):Wo:=match W.I7 with | some (i,x)=>{W with nd:=aQ W.nd i (some (x.ins p))} | none=>W
theorem U4 {w0 w:World} {K:WK} {x:Wo} {t:Nat} {s:Nat->Addr} (S:jm w0 s) (h:Wd w0 w K x t) (ht:t<=200000) (p:Pk) (E:iR p.pr) :
  Calls prog 92 #[.pointer (some (K.wb,0)),p.v] w fun e w'=>e=.returned (.tuple #[(x.eU p).v,aO s (x.oh p)])/\Wd w0 w' K (x.ins p) (t+1)/\Mv K K w w':=by
 have HS:=jH S;have o:=jH h;have HT:=jH ht;have Y:=jH E;clear E;clear S h ht;go_enter func92,ntmps92;go_wp2_with fail;have Z:Hid (dU ((w.alloc (.cells #[p.pr,p.a1,p.p1,p.a2,p.p2,p.fl] 35)).alloc (.cells #[.int .i64 0,.int .i64 0,.int .i64 0,.int .i64 0,.int .i64 0,.int .i64 0] 35)) w p):=(dU.new w p).below (aB _ _);have B1:Hid (Below w w ((w.alloc (.cells #[p.pr,p.a1,p.p1,p.a2,p.p2,p.fl] 35)).alloc (.cells #[.int .i64 0,.int .i64 0,.int .i64 0,.int .i64 0,.int .i64 0,.int .i64 0] 35))):=t2 (aB _ _) (aB _ _);have V:Hid (dU ((w.alloc (.cells #[p.pr,p.a1,p.p1,p.a2,p.p2,p.fl] 35)).alloc (.cells #[.int .i64 0,.int .i64 0,.int .i64 0,.int .i64 0,.int .i64 0,.int .i64 0] 35)) (w.heap.size+1) aU):=by
  have:=dU.zero (w.alloc (.cells #[p.pr,p.a1,p.p1,p.a2,p.p2,p.fl] 35));show dU _ _ _;simpa using this
 generalize (w.alloc (.cells #[p.pr,p.a1,p.p1,p.a2,p.p2,p.fl] 35)).alloc (.cells #[.int .i64 0,.int .i64 0,.int .i64 0,.int .i64 0,.int .i64 0,.int .i64 0] 35)=w1 at *;have LP:Hid (w.heap.size<=w.heap.size/\K.tag w.heap.size=9/\K.wb≠w.heap.size):=⟨bJ _,o.al _ nL,by have:=o.wb.lt;omega⟩;have F:Hid (w.heap.size<=w.heap.size+1/\K.tag (w.heap.size+1)=9/\K.wb≠w.heap.size+1):=⟨wz _,o.al _ (wz _),by have:=o.wb.lt;omega⟩;generalize Zg:w.heap.size=P at Z V LP F ⊢;generalize Zh:P+1=Q at V F ⊢;have Zi:=jH ((by omega:P≠Q));have W1:=jH (o.below B1);refine jM (D6 HS W1) fun w2 a=>?_;have B2:=jH (t2 B1 a);have G:=jH (W1.below a);have P2:=jH (Z.below a);have Z2:=jH (V.below a);have H:Hid (w0.heap.size<=Q/\w0.heap.size<=w.heap.size):=⟨by have:=o.bl.size;omega,o.bl.size⟩;have I:=jH ((by omega:w.heap.size<=Q));clear a B1 W1 Z V Zg Zh;rcases hch:x.I7 with _ | ⟨i,y⟩
 ·obtain⟨e1,J,L⟩:=yg hch;have A:Hid (x.oh p=e1+1/\x.eU p=aU/\x.ins p=x):=by unfold Wo.oh Wo.eU Wo.ins;rw[hch];exact⟨J,rfl,rfl⟩
  rw[L];clear L J hch;simp only[aO];obtain⟨w9,l,M,B⟩:=bZ Z2 aU;have N:=l;have W9:=jH (G.fresh F.2.1 H.1 B);have M9:Hid (Mv K K w w9):=(Mv.of B2.out).loc B I;have Z9:=jH M;clear M B l;go_wp2_with (refine aA rfl 35 _ _ rfl _ _ _ rfl rfl N ?_)
  clear N;have q:=Z9.b;go_wp2_with fail;exact bf (v:=.tuple #[Pk.v aU,.iface 359 (.pointer (some (s e1)))]) (by simp[results,results92,go_sem,q.c0,q.c1,q.c2,q.c3,q.c4,q.c5,Pk.v]) rfl ⟨by rw[A.1,A.2.1];rfl,by rw[A.2.2];exact W9.mono om,M9⟩
 ·obtain⟨D,O,L⟩:=je hch;have A:Hid (x.oh p=y.oh p/\x.eU p=y.eU p/\x.ins p={x with nd:=aQ x.nd i (some (y.ins p))}):=by unfold Wo.oh Wo.eU Wo.ins;rw[hch];exact⟨rfl,rfl,rfl⟩
  rw[L];have C:=G.sd D;rcases C with⟨k,y',m,n,hk,hy',nd,hyk,hm,hn,h0,h1,hr,hd,_⟩ | ⟨_,_,C,_⟩ | ⟨_,C,_⟩;rotate_left
  ·rw[O]at C;cases C
  ·rw[O]at C;cases C
  obtain rfl:y'=y:=by rw[O]at hy';cases hy';rfl
  have R:Hid (¬Q ∈ k.all):=fun hm=>by have:=(G.tg (i+1) om Q (by rw[kJ D hk];exact hm)).1;have:=F.2.1;omega
  have HC:Hid (∀u,Below w2 w2 u->Calls prog 154 #[.pointer (some (k.nd,0)),p.v] u fun e w'=>e=.returned (.tuple #[(y'.eU p).v,aO s (y'.oh p)])/\Wd w0 w' K (x.ins p) (t+1)/\Mv K K w w'/\dU w' Q aU):=fun u W =>
   (UY HS (nd.below W) (by have:=HT.out;omega) h0 (by have:=HT.out;omega) hr p Y).mono fun e w' ⟨he,n2,c2⟩=>by
    have X:=G.below W;refine⟨he,?_,?_,(Z2.below W).gU c2 R⟩
    ·rw[A.2.2];have q:=adk y' p;exact X.Lr D hk O n2 c2 om om om (by rw[q.2.2];exact h0) (by rw[q.2.2];omega) q.1 q.2.1
    ·exact((Mv.of B2.out).then W).trans (Mv.one X (i:=i+1) om c2 (by rw[kJ D hk];exact fun _ h=>h))
  have cn:=G.wb.cn D;rw[hk]at cn;simp only[FH,nX]at cn;have pb:=P2.b;obtain⟨p0,p1,p2,p3,p4,p5⟩:=pb;clear L hch hk O hy' nd hyk hm hn h0 h1 hr hd D R;simp only[Pk.v]at HC;go_wp2_with fail;go_region_with (first
   | (go_at_call 154;refine jM (HC _ (by first | exact aH _ _ | exact bD | exact(aH _ _).drew.drew)) fun w3 ⟨T,U,j⟩=>?_;have X:=jH T;have M3:=jH U;have Z3:=jH j;clear T U;have z:=j.b;have f:=j.fr;obtain⟨z0,z1,z2,z3,z4,z5⟩:=z;clear j))
  all_goals go_wp2_with fail
  all_goals
   have qz:=(yc Z3 (y'.eU p)).b;obtain⟨q0,q1,q2,q3,q4,q5⟩:=qz;have W6:=jH (X.fresh F.2.1 H.1 (kT w3 Q (.int .i64 (y'.eU p).pr) (.int .i64 (y'.eU p).a1) (.int .i64 (y'.eU p).p1) (.int .i64 (y'.eU p).a2) (.int .i64 (y'.eU p).p2) (.int .i64 (y'.eU p).fl)));have M6:=jH (M3.loc (kT w3 Q (.int .i64 (y'.eU p).pr) (.int .i64 (y'.eU p).a1) (.int .i64 (y'.eU p).p1) (.int .i64 (y'.eU p).a2) (.int .i64 (y'.eU p).p2) (.int .i64 (y'.eU p).fl)) I);clear z0 z1 z2 z3 z4 z5 f Z3;generalize ((((((w3.setCell (Q,0) (.int .i64 (y'.eU p).pr)).setCell (Q,1) (.int .i64 (y'.eU p).a1)).setCell (Q,2) (.int .i64 (y'.eU p).p1)).setCell (Q,3) (.int .i64 (y'.eU p).a2)).setCell (Q,4) (.int .i64 (y'.eU p).p2)).setCell (Q,5) (.int .i64 (y'.eU p).fl))=w6 at *;exact bf (v:=.tuple #[(y'.eU p).v,aO s (y'.oh p)]) (by simp[results,results92,go_sem,q0,q1,q2,q3,q4,q5,Pk.v]) rfl ⟨by rw[A.1,A.2.1],W6,M6⟩
def Wo.nR (W:Wo) (p:Pk):Nat:=match W.I7 with | some (_,x)=>x.nR p | none=>W.RX
def Wo.fB (W:Wo) (p:Pk):Pk:=match W.I7 with | some (_,x)=>x.fB p | none=>aU
def Wo.jd (W:Wo) (p:Pk):Wo:=match W.I7 with | some (i,x)=>{W with nd:=aQ W.nd i (some (x.jd p))} | none=>W
theorem PW {w0 w:World} {K:WK} {x:Wo} {t:Nat} {s:Nat->Addr} (S:jm w0 s) (h:Wd w0 w K x t) (ht:t<=200000) (p:Pk) :
  Calls prog 93 #[.pointer (some (K.wb,0)),p.v] w fun e w'=>e=.returned (.tuple #[(x.fB p).v,aO s (x.nR p)])/\Wd w0 w' K (x.jd p) (t+1)/\Mv K K w w':=by
 have HS:=jH S;have o:=jH h;have HT:=jH ht;clear S h ht;go_enter func93,ntmps93;go_wp2_with fail;have X:Hid (dU ((w.alloc (.cells #[p.pr,p.a1,p.p1,p.a2,p.p2,p.fl] 35)).alloc (.cells #[.int .i64 0,.int .i64 0,.int .i64 0,.int .i64 0,.int .i64 0,.int .i64 0] 35)) w p):=(dU.new w p).below (aB _ _);have Y:Hid (Below w w ((w.alloc (.cells #[p.pr,p.a1,p.p1,p.a2,p.p2,p.fl] 35)).alloc (.cells #[.int .i64 0,.int .i64 0,.int .i64 0,.int .i64 0,.int .i64 0,.int .i64 0] 35))):=t2 (aB _ _) (aB _ _);have U:Hid (dU ((w.alloc (.cells #[p.pr,p.a1,p.p1,p.a2,p.p2,p.fl] 35)).alloc (.cells #[.int .i64 0,.int .i64 0,.int .i64 0,.int .i64 0,.int .i64 0,.int .i64 0] 35)) (w.heap.size+1) aU):=by
  have:=dU.zero (w.alloc (.cells #[p.pr,p.a1,p.p1,p.a2,p.p2,p.fl] 35));show dU _ _ _;simpa using this
 generalize (w.alloc (.cells #[p.pr,p.a1,p.p1,p.a2,p.p2,p.fl] 35)).alloc (.cells #[.int .i64 0,.int .i64 0,.int .i64 0,.int .i64 0,.int .i64 0,.int .i64 0] 35)=w1 at *;have LP:Hid (w.heap.size<=w.heap.size/\K.tag w.heap.size=9/\K.wb≠w.heap.size):=⟨bJ _,o.al _ nL,by have:=o.wb.lt;omega⟩;have E:Hid (w.heap.size<=w.heap.size+1/\K.tag (w.heap.size+1)=9/\K.wb≠w.heap.size+1):=⟨wz _,o.al _ (wz _),by have:=o.wb.lt;omega⟩;generalize Z:w.heap.size=P at X U LP E ⊢;generalize Zg:P+1=Q at U E ⊢;have Zh:=jH ((by omega:P≠Q));have W1:=jH (o.below Y);refine jM (D6 HS W1) fun w2 a=>?_;have B2:=jH (t2 Y a);have F:=jH (W1.below a);have P2:=jH (X.below a);have Z2:=jH (U.below a);have G:Hid (w0.heap.size<=Q/\w0.heap.size<=w.heap.size):=⟨by have:=o.bl.size;omega,o.bl.size⟩;have H:=jH ((by omega:w.heap.size<=Q));clear a Y W1 X U Z Zg;rcases hch:x.I7 with _ | ⟨i,y⟩
 ·obtain⟨e1,I,J⟩:=yg hch;have A:Hid (x.nR p=e1+1/\x.fB p=aU/\x.jd p=x):=by unfold Wo.nR Wo.fB Wo.jd;rw[hch];exact⟨I,rfl,rfl⟩
  rw[J];clear J I hch;simp only[aO];obtain⟨w9,l,L,B⟩:=bZ Z2 aU;have M:=l;have W9:=jH (F.fresh E.2.1 G.1 B);have M9:Hid (Mv K K w w9):=(Mv.of B2.out).loc B H;have Z9:=jH L;clear L B l;go_wp2_with (refine aA rfl 35 _ _ rfl _ _ _ rfl rfl M ?_)
  clear M;have q:=Z9.b;go_wp2_with fail;exact bf (v:=.tuple #[Pk.v aU,.iface 359 (.pointer (some (s e1)))]) (by simp[results,results93,go_sem,q.c0,q.c1,q.c2,q.c3,q.c4,q.c5,Pk.v]) rfl ⟨by rw[A.1,A.2.1];rfl,by rw[A.2.2];exact W9.mono om,M9⟩
 ·obtain⟨D,N,J⟩:=je hch;have A:Hid (x.nR p=y.nR p/\x.fB p=y.fB p/\x.jd p={x with nd:=aQ x.nd i (some (y.jd p))}):=by unfold Wo.nR Wo.fB Wo.jd;rw[hch];exact⟨rfl,rfl,rfl⟩
  rw[J];have C:=F.sd D;rcases C with⟨k,y',m,n,hk,hy',nd,hyk,hm,hn,h0,h1,hr,hd,_⟩ | ⟨_,_,C,_⟩ | ⟨_,C,_⟩;rotate_left
  ·rw[N]at C;cases C
  ·rw[N]at C;cases C
  obtain rfl:y'=y:=by rw[N]at hy';cases hy';rfl
  have O:Hid (¬Q ∈ k.all):=fun hm=>by have:=(F.tg (i+1) om Q (by rw[kJ D hk];exact hm)).1;have:=E.2.1;omega
  have HC:Hid (∀u,Below w2 w2 u->Calls prog 155 #[.pointer (some (k.nd,0)),p.v] u fun e w'=>e=.returned (.tuple #[(y'.fB p).v,aO s (y'.nR p)])/\Wd w0 w' K (x.jd p) (t+1)/\Mv K K w w'/\dU w' Q aU):=fun u V =>
   (Pz HS (nd.below V) (by have:=HT.out;omega) h0 (by have:=HT.out;omega) p).mono fun e w' ⟨he,n2,c2⟩=>by
    have W:=F.below V;refine⟨he,?_,?_,(Z2.below V).gU c2 O⟩
    ·rw[A.2.2];have q:=adl y' p;exact W.Lr D hk N n2 c2 om om om (by rw[q.2.2];exact h0) (by rw[q.2.2];omega) q.1 q.2.1
    ·exact((Mv.of B2.out).then V).trans (Mv.one W (i:=i+1) om c2 (by rw[kJ D hk];exact fun _ h=>h))
  have cn:=F.wb.cn D;rw[hk]at cn;simp only[FH,nX]at cn;have pb:=P2.b;obtain⟨p0,p1,p2,p3,p4,p5⟩:=pb;clear J hch hk N hy' nd hyk hm hn h0 h1 hr hd D O;simp only[Pk.v]at HC;go_wp2_with fail;go_region_with (first
   | (go_at_call 155;refine jM (HC _ (by first | exact aH _ _ | exact bD | exact(aH _ _).drew.drew)) fun w3 ⟨R,T,j⟩=>?_;have W:=jH R;have M3:=jH T;have Z3:=jH j;clear R T;have z:=j.b;have f:=j.fr;obtain⟨z0,z1,z2,z3,z4,z5⟩:=z;clear j))
  all_goals go_wp2_with fail
  all_goals
   have qz:=(yc Z3 (y'.fB p)).b;obtain⟨q0,q1,q2,q3,q4,q5⟩:=qz;have W6:=jH (W.fresh E.2.1 G.1 (kT w3 Q (.int .i64 (y'.fB p).pr) (.int .i64 (y'.fB p).a1) (.int .i64 (y'.fB p).p1) (.int .i64 (y'.fB p).a2) (.int .i64 (y'.fB p).p2) (.int .i64 (y'.fB p).fl)));have M6:=jH (M3.loc (kT w3 Q (.int .i64 (y'.fB p).pr) (.int .i64 (y'.fB p).a1) (.int .i64 (y'.fB p).p1) (.int .i64 (y'.fB p).a2) (.int .i64 (y'.fB p).p2) (.int .i64 (y'.fB p).fl)) H);clear z0 z1 z2 z3 z4 z5 f Z3;generalize ((((((w3.setCell (Q,0) (.int .i64 (y'.fB p).pr)).setCell (Q,1) (.int .i64 (y'.fB p).a1)).setCell (Q,2) (.int .i64 (y'.fB p).p1)).setCell (Q,3) (.int .i64 (y'.fB p).a2)).setCell (Q,4) (.int .i64 (y'.fB p).p2)).setCell (Q,5) (.int .i64 (y'.fB p).fl))=w6 at *;exact bf (v:=.tuple #[(y'.fB p).v,aO s (y'.nR p)]) (by simp[results,results93,go_sem,q0,q1,q2,q3,q4,q5,Pk.v]) rfl ⟨by rw[A.1,A.2.1],W6,M6⟩
section
variable {q:Nat} {y:By}
structure YI (q:Nat) (y:By):Prop where
 len:y.B.length=64
 n:(newest y.B).n<=q
 e:(newest y.B).e<=2 * q
 l:(newest y.B).l<=q
theorem YI.mono {q':Nat} (h:YI q y) (a:q<=q'):YI q' y:=⟨h.len,by have:=h.n;omega,by have:=h.e;omega,by have:=h.l;omega⟩
structure XI (q:Nat) (x:No):Prop where
 y:YI q x.y
 li:x.life=((newest x.y.B).l:Int)
 ep:((newest x.y.B).e:Int)<=x.ro.ep
 eq:x.ro.ep<=2 * (q:Int)
theorem XI.mono {q':Nat} {x:No} (h:XI q x) (a:q<=q'):XI q' x:=⟨h.y.mono a,h.li,h.ep,by have:=h.eq;omega⟩
theorem PX (off:Bool) (y:By) (ep li:Int):((bn off y ep li).1≠0/\(bn off y ep li).2.1=y)\/((dw y (aY y ep li)).2=true/\bn off y ep li=(0,(dw y (aY y ep li)).1,false))\/((dw y (aY y ep li)).2=false/\bn off y ep li=(7,(dw y (aY y ep li)).1,true)):=by
 unfold bn;by_cases a:off=true
 ·rw[aj a];exact .inl ⟨(by intro e;cases e),rfl⟩
 rw[ak a];by_cases f:lX ep li=true
 ·rw[aj f];exact .inl ⟨(by intro e;cases e),rfl⟩
 rw[ak f];by_cases h:mX y ep li=true
 ·rw[aj h];exact .inl ⟨(by intro e;cases e),rfl⟩
 rw[ak h];by_cases i:(newest y.B).n=4294967295
 ·rw[aj i];exact .inl ⟨(by intro e;cases e),rfl⟩
 rw[ak i]
 cases j:(dw y (aY y ep li)).2
 ·exact .inr (.inr ⟨rfl,rfl⟩)
 ·exact .inr (.inl ⟨rfl,rfl⟩)
theorem GN {off:Bool} {ep li:Int} (h:YI q y) (l:q<=1000000) (m:ep<=1073741824) (o:li<=1073741824) :
  (bn off y ep li).2.1.B.length=64/\(newest (bn off y ep li).2.1.B=newest y.B\/((bn off y ep li).1=0/\newest (bn off y ep li).2.1.B=⟨(newest y.B).n+1,ep.toNat,li.toNat⟩))/\((bn off y ep li).1=0->newest (bn off y ep li).2.1.B=⟨(newest y.B).n+1,ep.toNat,li.toNat⟩):=by
 have p:=h.n;have f:=sW (s:=y) (x:=aY y ep li) h.len rfl (by show(newest y.B).n+1 < _;omega) (by show ep.toNat < _;omega) (by show li.toNat < _;omega);have k:=J6 off y ep li;refine⟨k.trans h.len,?_⟩;rcases PX off y ep li with⟨a,b⟩ | ⟨a,b⟩ | ⟨a,b⟩
 ·exact⟨.inl (by rw[b]),fun e=>absurd e a⟩
 ·have e:=(f.1 a).1;have i:newest (bn off y ep li).2.1.B=⟨(newest y.B).n+1,ep.toNat,li.toNat⟩:=by rw[b];exact e
  exact⟨.inr ⟨by rw[b],i⟩,fun _=>i⟩
 ·have e:=(f.2 a).1;exact⟨.inl (by rw[b];exact e),fun j=>by rw[b]at j;cases j⟩
theorem XI.lg {x:No} (h:XI q x) (w:q<=300000):x.lg=0\/x.lg=7:=by
 unfold No.lg;split
 ·unfold No.mM;split
  ·rename_i j;show(bn x.off x.y x.ro.tick.jQ x.life).1=0\/(bn x.off x.y x.ro.tick.jQ x.life).1=7;have e:x.ro.tick.ep=x.ro.ep:=by unfold Ro.tick;split <;> rfl
   have k:=h.ep;have m:=h.eq;have o:=h.li;have z:=h.y.l;have A:=h.y.n;have a:x.ro.tick.ep < x.ro.tick.nx/\x.ro.tick.nx<=x.ro.tick.ep+2:=by unfold Ro.nx;split <;> omega
   have p:x.ro.tick.jQ=x.ro.tick.nx:=by unfold Ro.jQ;rw[ak om]
   rw[p];rw[e]at a;have b1:lX x.ro.tick.nx x.life=false:=by
    unfold lX nN;rw[gG (by omega:(0:Int)<=x.ro.tick.nx),gG (by omega:x.ro.tick.nx<=1073741824),gG (by omega:(0:Int)<=x.life),gG (by omega:x.life<=1073741824)];rfl
   have s:mX x.y x.ro.tick.nx x.life=false:=by
    unfold mX;rw[gQ om,gQ om];rfl
   have u:¬(newest x.y.B).n=4294967295:=by omega
   generalize x.ro.tick.nx=ep at *;unfold bn;by_cases f:x.off=true
   ·rw[aj f];exact .inr rfl
   rw[ak f,ak (by rw[b1];decide),ak (by rw[s];decide),ak u];by_cases i:(dw x.y (aY x.y ep x.life)).2=true
   ·rw[aj i];exact .inl rfl
   ·rw[ak i];exact .inr rfl
  ·exact .inl rfl
 ·exact .inl rfl
theorem YI.GR {i:Nat} {l:List Rl} (h:YI q y) (m:q<=300000) (a:i < 2) (hr:aF l):sD i y.fF l:=by
 have o:=h.n;have p:=h.e;have u:=h.l;refine⟨a,hr,rfl,by show(newest y.B).e<=_;omega,?_⟩;show(bn false y.fF (newest y.B).e ((newest y.B).l+1)).1=0;have f:=XB (s:=y.fF) rfl rfl (aY y.fF (newest y.B).e ((newest y.B).l+1));unfold bn;have b1:lX ((newest y.B).e:Int) (((newest y.B).l:Int)+1)=false:=by
  unfold lX nN;rw[gG (by omega:(0:Int)<=((newest y.B).e:Int)),gG (by omega:((newest y.B).e:Int)<=1073741824),gG (by omega:(0:Int)<=((newest y.B).l:Int)+1),gG (by omega:((newest y.B).l:Int)+1<=1073741824)];rfl
 have j:mX y.fF ((newest y.B).e:Int) (((newest y.B).l:Int)+1)=false:=by
  unfold mX;show(decide (((newest y.B).e:Int) < ((newest y.B).e:Int)) || decide (((newest y.B).l:Int)+1 < ((newest y.B).l:Int)))=false;rw[gQ om,gQ om];rfl
 have k:¬(newest y.fF.B).n=4294967295:=by show ¬(newest y.B).n=4294967295;omega
 rw[b1,j];simp only[ak k,f,ab6,Ik,mV]
theorem YI.new {i:Nat} {l:List Rl} (h:YI q y) (k:q<=300000) (m:i < 2) (hr:aF l):XI (q+1) (No.new i y.fF l):=by
 have ok:=h.GR k m hr;have s:=h.n;have u:=h.e;have w:=h.l;have j:YI q y.fF:=⟨h.len,h.n,h.e,h.l⟩;obtain⟨o,_,p⟩:=GN (off:=false) (ep:=((newest y.fF.B).e:Int)) (li:=((newest y.fF.B).l:Int)+1) j om (by have:=j.e;omega) (by have:=j.l;omega);have e:=p ok.pu;have a:newest y.fF.B=newest y.B:=rfl;have f:(No.new i y.fF l).y=(bn false y.fF ((newest y.fF.B).e:Int) (((newest y.fF.B).l:Int)+1)).2.1:=rfl;refine⟨⟨by rw[f];exact o,?_,?_,?_⟩,?_,?_,?_⟩
 ·rw[f,e,a];show(newest y.B).n+1<=_;omega
 ·rw[f,e,a];simp only;omega
 ·rw[f,e,a];simp only;omega
 ·rw[f,e,a];show(((newest y.B).l:Int)+1)=((Int.toNat (((newest y.B).l:Int)+1):Nat):Int);omega
 ·rw[f,e,a];show((Int.toNat ((newest y.B).e:Int):Nat):Int)<=((newest y.B).e:Int);omega
 ·show((newest y.fF.B).e:Int)<=_;rw[a];omega
end
section
variable {q:Nat} {x:No} {W:Wo}
theorem XI.same {x':No} (h:XI q x) (a:x'.y=x.y) (e:x'.life=x.life) (hr:x'.ro=x.ro):XI q x':=⟨by rw[a];exact h.y,by rw[a,e];exact h.li,by rw[a,hr];exact h.ep,by rw[hr];exact h.eq⟩
theorem Bl (r:Ro):r.tick.ep=r.ep:=by unfold Ro.tick;split <;> rfl
theorem LZ (r:Ro):r.ep < r.nx/\r.nx<=r.ep+2:=by unfold Ro.nx;split <;> omega
theorem XI.au (h:XI q x):XI q x.au:=⟨h.y,h.li,by show _<=x.ro.tick.ep;rw[Bl];exact h.ep,by show x.ro.tick.ep<=_;rw[Bl];exact h.eq⟩
theorem XI.rP (h:XI q x) (D:q<=300000) (p:x.ro.ac=false):XI (q+1) x.rP:=by
 have s:=h.ep;have u:=h.eq;have w:=h.li;have E:=h.y.l;have F:=h.y.n;have G:=h.y.e;have H:=LZ x.ro;unfold No.rP;split
 ·rename_i i;have f:x.ro.jQ=x.ro.nx:=by unfold Ro.jQ;rw[ak om]
  obtain⟨m,A,C⟩:=GN (off:=x.off) (ep:=x.ro.jQ) (li:=x.life) h.y om (by rw[f];omega) om;split
  ·rename_i j;have k:(bn x.off x.y x.ro.jQ x.life).1=0:=j;have e:=C k;have o:x.ro.claim x.ro.jQ=⟨x.ro.nd,x.ro.nx,x.ro.si,true⟩:=by
    unfold Ro.claim;rw[aj (Ro.IW p i),f]
   have a:({x with y:=x.cp.2.1,off:=x.cp.2.2,T:=Aa x.now x.T (jy x.mt 32),ro:=x.ro.claim x.ro.jQ}:No).y=(bn x.off x.y x.ro.jQ x.life).2.1:=rfl;refine⟨⟨by rw[a];exact m,?_,?_,?_⟩,?_,?_,?_⟩
   ·rw[a,e];simp only;omega
   ·rw[a,e,f];simp only;omega
   ·rw[a,e];simp only;omega
   ·rw[a,e];show x.life=_;simp only;omega
   ·rw[a,e];show((x.ro.jQ.toNat:Nat):Int)<=(x.ro.claim x.ro.jQ).ep;rw[o,f];simp only;omega
   ·show(x.ro.claim x.ro.jQ).ep<=_;rw[o];simp only;omega
  ·rename_i j;have a:({x with y:=x.cp.2.1,off:=x.cp.2.2}:No).y=(bn x.off x.y x.ro.jQ x.life).2.1:=rfl;have e:newest (bn x.off x.y x.ro.jQ x.life).2.1.B=newest x.y.B:=by
    rcases A with e | ⟨z,_⟩
    ·exact e
    ·exact absurd z j
   refine⟨⟨by rw[a];exact m,by rw[a,e];omega,by rw[a,e];omega,by rw[a,e];omega⟩,by rw[a,e];exact h.li,by rw[a,e];exact h.ep,by show x.ro.ep<=_;omega⟩
 ·exact h.mono om
theorem XI.noted (h:XI q x):XI q x.noted:=by
 unfold No.noted;split
 ·exact⟨h.y,h.li,h.ep,h.eq⟩
 ·exact h
theorem XI.tk1 (h:XI q x) (a:q<=300000):XI (q+1) x.tk1:=by
 unfold No.tk1;split
 ·rename_i hr;exact h.au.rP a (by have:=(DU hr).1;exact this)
 ·exact h.au.mono om
theorem XI.tick (h:XI q x) (a:q<=300000):XI (q+1) x.tick:=by
 unfold No.tick;split
 ·exact(h.tk1 a).noted
 ·exact h.tk1 a
theorem XI.hrd (h:XI q x) {t:Nf} (f:t.ep<=2 * (q:Int)):XI q (x.hrd t):=by
 unfold No.hrd;split
 ·refine⟨h.y,h.li,?_,?_⟩
  ·show _<=(x.ro.hear t.ep).ep;unfold Ro.hear;split
   ·rename_i a;have i:=h.ep;unfold Ro.heard at a;simp only[JG,Bool.not_eq_true',WT]at a;show((newest x.y.B).e:Int)<=t.ep;omega
   ·exact h.ep
  ·show(x.ro.hear t.ep).ep<=_;unfold Ro.hear;split
   ·exact f
   ·exact h.eq
 ·exact h
structure In (q:Nat) (W:Wo):Prop where
 up:∀i x,W.nd i=some x->XI q x
 dn:∀i,i < 2->W.nd i=none->YI q (W.yb i)
 fl:∀t ∈ W.fl,t.ep<=2 * (q:Int)
theorem In.mono {q':Nat} (h:In q W) (a:q<=q'):In q' W:=⟨fun i x e=>(h.up i x e).mono a,fun i f j=>(h.dn i f j).mono a,fun t k=>by have:=h.fl t k;omega⟩
theorem YI.zero:YI 0 iO:=by
 have e:newest iO.B=⟨0,0,0⟩:=Beg.zero.nw;exact⟨Qy.new.len,by rw[e];exact bJ _,by rw[e];exact bJ _,by rw[e];exact bJ _⟩
theorem In.born {l:List Rl} (hr:aF l):In 1 (Wo.born l):=by
 refine⟨fun i x h=>?_,fun i f j=>?_,fun t k=>by have m:t ∈ ([]:List Nf):=k;simp at m⟩
 ·have a:(if i < 2 then some (No.new i iO.fF l) else none)=some x:=h;split at a
  ·rename_i f
   cases a
   exact YI.zero.new om f hr
  ·cases a
 ·have e:(if i < 2 then some (No.new i iO.fF l) else none)=none:=j;rw[aj f]at e
  cases e
theorem In.nJ (h:In q W) {i:Nat} {x:No} (k:XI q x):In q {W with nd:=aQ W.nd i (some x)}:=by
 refine⟨fun j y l=>?_,fun j m o=>?_,h.fl⟩
 ·have a:aQ W.nd i (some x) j=some y:=l;by_cases e:j=i
  ·subst e;rw[aG]at a;cases a;exact k
  ·rw[aI _ _ e]at a;exact h.up j y a
 ·have f:aQ W.nd i (some x) j=none:=o;by_cases e:j=i
  ·subst e;rw[aG]at f;cases f
  ·rw[aI _ _ e]at f;exact h.dn j m f
theorem In.bQ (h:In q W) {i:Nat} {y:By} (k:YI q y):In q (W.bQ i y):=by
 refine⟨fun j x m=>?_,fun j o p=>?_,h.fl⟩
 ·have a:aQ W.nd i none j=some x:=m;by_cases e:j=i
  ·subst e;rw[aG]at a;cases a
  ·rw[aI _ _ e]at a;exact h.up j x a
 ·show YI q (aQ W.yb i y.pG j);by_cases e:j=i
  ·subst e;rw[aG];exact⟨k.len,k.n,k.e,k.l⟩
  ·rw[aI _ _ e];have f:aQ W.nd i none j=none:=p;rw[aI _ _ e]at f;exact h.dn j o f
theorem In.sent (h:In q W) {l:List Nf} (f:∀t ∈ l,t.ep<=2 * (q:Int)):In q (W.sent l):=⟨h.up,h.dn,fun t i=>by
 have e:t ∈ W.fl++l.take (200 - W.fl.length):=i;rcases lU.1 e with a | a
 ·exact h.fl t a
 ·exact f t (BU a)⟩
theorem In.tick (h:In q W) (e:q<=300000) (n:Int):In (q+1) (W.rU n):=by
 unfold Wo.rU;split
 ·cases l:W.nd n.toNat with
  | none=>exact h.mono om
  | some x =>
   have f:=h.up _ x l;have j:=h.mono (q':=q+1) om;have a:∀t ∈ x.dN.map x.tk1.fly,t.ep<=2 * ((q+1:Nat):Int):=fun t m=>by
    obtain⟨u,_,rfl⟩:=List.mem_map.1 m;exact(f.tk1 e).eq
   show In (q+1) (W.au n.toNat x);unfold Wo.au;split
   ·split
    ·have k:=j.nJ (i:=n.toNat) (f.tick e);have o:In (q+1) (({W with nd:=aQ W.nd n.toNat (some x.tick)}:Wo).noted (((n.toNat:Nat):Int),x.tick.ro.ep)):=⟨k.up,k.dn,k.fl⟩;exact o.sent a
    ·exact(j.nJ (f.tick e)).sent a
   ·split
    ·exact j.bQ (f.tick e).y
    ·exact j.nJ (f.tick e)
 ·exact h.mono om
theorem In.down (h:In q W) (n:Int):In q (W.fU n):=by
 unfold Wo.fU;split
 ·cases a:W.nd n.toNat with
  | none=>exact h
  | some x=>exact h.bQ (h.up _ x a).y
 ·exact h
theorem In.upN (h:In q W) (i:q<=300000) (hr:aF W.ru) (n:Int):In (q+1) (W.iL n):=by
 unfold Wo.iL;split
 ·rename_i e;unfold Wo.vM at e;split at e
  ·rename_i k;split at e
   ·omega
   ·rename_i f;have j:W.nd n.toNat=none:=by cases a:W.nd n.toNat with | none=>rfl | some y=>rw[a]at f;simp at f
    exact(h.mono (q':=q+1) om).nJ ((h.dn _ om j).new i om hr)
  ·omega
 ·exact h.mono om
theorem In.cut (h:In q W) (n m:Int):In q (W.fV n m):=by
 unfold Wo.fV;split
 ·cases i:W.nd n.toNat with
  | none=>exact h
  | some x =>
   have a:=h.up _ x i;have f:(x.y.bF m).B=x.y.B:=by unfold By.bF;split <;> rfl
   exact h.nJ ⟨⟨by show(x.y.bF m).B.length=64;rw[f];exact a.y.len,by show(newest (x.y.bF m).B).n<=_;rw[f];exact a.y.n,by show(newest (x.y.bF m).B).e<=_;rw[f];exact a.y.e,by show(newest (x.y.bF m).B).l<=_;rw[f];exact a.y.l⟩,by show x.life=((newest (x.y.bF m).B).l:Int);rw[f];exact a.li,by show((newest (x.y.bF m).B).e:Int)<=_;rw[f];exact a.ep,a.eq⟩
 ·exact h
theorem U5 (x:No) (p:Pk):(x.ins p).y=x.y/\(x.ins p).life=x.life/\(x.ins p).ro=x.ro:=by
 unfold No.ins No.ou No.mP No.bg;repeat' split
 all_goals exact⟨rfl,rfl,rfl⟩
theorem U6 (x:No) (p:Pk):(x.jd p).y=x.y/\(x.jd p).life=x.life/\(x.jd p).ro=x.ro:=by
 unfold No.jd No.mP;repeat' split
 all_goals exact⟨rfl,rfl,rfl⟩
theorem In.inside (h:In q W) (p:Pk):In q (W.ins p):=by
 unfold Wo.ins;split
 ·rename_i i x a;have s:=U5 x p;exact h.nJ ((h.up i x (je a).2.1).same s.1 s.2.1 s.2.2)
 ·exact h
theorem In.outside (h:In q W) (p:Pk):In q (W.jd p):=by
 unfold Wo.jd;split
 ·rename_i i x a;have s:=U6 x p;exact h.nJ ((h.up i x (je a).2.1).same s.1 s.2.1 s.2.2)
 ·exact h
theorem In.aT (h:In q W) (k:Nat):In q (W.aT k):=⟨h.up,h.dn,fun t a=>h.fl t (WS a)⟩
theorem In.drop (h:In q W) (n:Int):In q (W.dropped n):=by
 unfold Wo.dropped;split
 ·exact h.aT _
 ·exact h
theorem In.nI (h:In q W) (n:Int):In q (W.nI n):=by
 unfold Wo.nI;split
 ·cases e:W.fl[n.toNat]? with
  | none=>exact h
  | some t =>
   have a:=h.fl t (kW e);show In q (W.delivered n.toNat t);unfold Wo.delivered;split
   ·unfold Wo.heard;split
    ·exact⟨(h.aT n.toNat).up,(h.aT n.toNat).dn,(h.aT n.toNat).fl⟩
    ·exact h.aT _
   ·unfold Wo.handed;split
    ·rename_i x f;exact(h.aT n.toNat).nJ ((h.up _ x f).hrd a)
    ·exact h.aT _
 ·exact h
theorem In.rules (h:In q W) (l:List Rl) (j:Nat):In q (W.dD l j):=by
 refine⟨fun i x f=>?_,fun i k m=>h.dn i k ?_,h.fl⟩
 ·have a:(if i < j then (W.nd i).map (fun y=>({y with ru:=l}:No)) else W.nd i)=some x:=f;split at a
  ·obtain⟨y,o,rfl⟩:=Option.map_eq_some_iff.1 a;exact(h.up i y o).same rfl rfl rfl
  ·exact h.up i x a
 ·have e:(if i < j then (W.nd i).map (fun y=>({y with ru:=l}:No)) else W.nd i)=none:=m;split at e
  ·exact Option.map_eq_none_iff.1 e
  ·exact e
end
inductive Stp:Wo->Wo->Prop
 | tick (W:Wo) (n:Int):Stp W (W.rU n)
 | down (W:Wo) (n:Int):Stp W (W.fU n)
 | up (W:Wo) (n:Int):Stp W (W.iL n)
 | cut (W:Wo) (n m:Int):Stp W (W.fV n m)
 | ins (W:Wo) (p:Pk):Stp W (W.ins p)
 | jd (W:Wo) (p:Pk):Stp W (W.jd p)
 | drop (W:Wo) (n:Int):Stp W (W.dropped n)
 | twice (W:Wo) (n:Int):Stp W (W.bT n)
 | rules (W:Wo) (l:List Rl) (h:aF l):Stp W (W.dD l 2)
 | nI (W:Wo) (n:Int):Stp W (W.nI n)
 | stay (W:Wo):Stp W W
theorem In.twice {q:Nat} {W:Wo} (h:In q W) (n:Int):In q (W.bT n):=by
 have s:=W.jJ n;refine⟨fun i x a=>h.up i x (by rw[<- s.1];exact a),fun i e f=>?_,fun t j=>h.fl t (Wo.pI t j)⟩;rw[s.2.1];exact h.dn i e (by rw[<- s.1];exact f)
theorem In.mP {q:Nat} {W W':Wo} (h:In q W) (a:q<=100000) (hr:aF W.ru) (s:Stp W W'):In (q+1) W':=by
 cases s with
 | tick n=>exact h.tick om n
 | down n=>exact(h.down n).mono om
 | up n=>exact h.upN om hr n
 | cut n m=>exact(h.cut n m).mono om
 | ins p=>exact(h.inside p).mono om
 | jd p=>exact(h.outside p).mono om
 | drop n=>exact(h.drop n).mono om
 | twice n=>exact(h.twice n).mono om
 | rules l hl=>exact(h.rules l 2).mono om
 | nI n=>exact(h.nI n).mono om
 | stay=>exact h.mono om
def CK (c:Ce):Prop:=c.pr=0\/(jc c.ia c.ip/\jc 1 c.po)
def TK (T:Tb):Prop:=∀j,CK (T j)
theorem TK.new:TK newT:=fun _=>.inl rfl
section
variable {T:Tb}
theorem TK.upd (h:TK T) (k:Nat) {c:Ce} (a:CK c):TK (upd T k c):=fun j=>by
 unfold Go.Proofs.YtnogmjekhjldcaaGreatDoor.upd;split
 ·exact a
 ·exact h j
theorem TK.exp (h:TK T) (a:Int) (n:Nat):TK (jF T a n):=fun j=>by
 unfold jF;split
 ·exact .inl rfl
 ·exact h j
theorem TK.set (h:TK T) (k st un:Int):TK (nO T k st un):=by
 unfold nO;split
 ·exact h.upd _ (h k.toNat)
 ·exact h
theorem TK.drop (h:TK T) (k:Int):TK (iZ T k):=by
 unfold iZ;split
 ·exact h.upd _ (.inl rfl)
 ·exact h
theorem TK.put (h:TK T) {c:Ce} (a:CK c) (st un:Int):TK (ku T c.pr c.ia c.ip c.fa c.fp c.po st un).2.2:=by
 unfold ku;repeat' split
 all_goals first | exact h | exact h.upd _ a
theorem TK.add (h:TK T) {low f a e:Int} (i j st un:Int) (l:jc a e) (o:2000<=low/\low<=2024):TK (iC T low f a e i j st un).2.2:=by
 unfold iC;repeat' split
 all_goals try exact h
 rename_i k _ p m;have:=(rD.1 m).1;refine h.upd _ (.inr ⟨l,?_⟩);show jc 1 (low+p);unfold jc;omega
theorem TK.ad (a:Int):∀(l:List Ce) {T:Tb},TK T->(∀c ∈ l,CK c)->TK (Aa a T l)
 | [],_,h,_=>h
 | c::l,_,h,hl=>TK.ad a l (h.put (hl c sM) _ _) (fun d e=>hl d (by simp[e]))
theorem TK.take:∀(l:List Tc) {T:Tb},TK T->(∀x ∈ l,CK x.c)->TK (mZ T l)
 | [],_,h,_=>h
 | x::l,T,h,hl=>by
  show TK (mZ (tq T x) l);refine TK.take l ?_ (fun y a=>hl y (by simp[a]));unfold tq;split
  ·exact h.upd _ (hl x sM)
  ·exact h
theorem TK.tell (h:TK T) (a life:Int) {l:List Tc} (e:∀x ∈ l,CK x.c):TK (fH a life T l):=by
 unfold fH;repeat' split
 ·exact TK.new.take l e
 ·exact h.take l e
 ·exact h
end
structure EN (x:No):Prop where
 id:x.id=0\/x.id=1
 t:TK x.T
 m:TK x.mt
section
variable {x:No}
theorem EN.au (h:EN x):EN x.au:=⟨h.id,h.t.exp _ _,h.m⟩
theorem EN.rP (h:EN x):EN x.rP:=by
 unfold No.rP;repeat' split
 ·exact⟨h.id,h.t.ad _ _ (fun c a=>by obtain⟨j,_,rfl⟩:=Bh a;exact h.m j),h.m⟩
 ·exact⟨h.id,h.t,h.m⟩
 ·exact h
theorem EN.tk1 (h:EN x):EN x.tk1:=by
 unfold No.tk1;split
 ·exact h.au.rP
 ·exact h.au
theorem EN.noted (h:EN x):EN x.noted:=by
 unfold No.noted;split
 ·exact⟨h.id,h.t,h.m⟩
 ·exact h
theorem EN.tick (h:EN x):EN x.tick:=by
 unfold No.tick;split
 ·exact h.tk1.noted
 ·exact h.tk1
theorem EN.mP (h:EN x) (j:Nat) (a:Int) (ou:Bool):EN (x.mP j a ou):=by
 unfold No.mP;split
 ·exact⟨h.id,h.t.drop _,h.m⟩
 ·exact⟨h.id,h.t.set _ _ _,h.m⟩
theorem EN.low (h:EN x):2000<=x.low/\x.low<=2024:=by
 have:=h.id;unfold No.low;omega
theorem PY {p:Pk} (h:x.chk p=0):sK p.pr p.a1 p.p1 p.a2 p.p2 p.fl:=by
 unfold No.chk at h;split at h
 ·rename_i e;exact jI.1 e
 ·rename_i e;exact absurd h e
theorem EN.ins (h:EN x) (p:Pk):EN (x.ins p):=by
 unfold No.ins;split
 ·rename_i a;unfold No.ou;split
  ·exact h.mP _ _ _
  ·unfold No.bg;split
   ·exact⟨h.id,h.t.add _ _ _ _ (PY a).src h.low,h.m⟩
   ·exact h
 ·exact h
theorem EN.jd (h:EN x) (p:Pk):EN (x.jd p):=by
 unfold No.jd;split
 ·exact h.mP _ _ _
 ·exact h
theorem EN.hrd (h:EN x) {t:Nf} (a:∀c ∈ t.cs,CK c.c):EN (x.hrd t):=by
 unfold No.hrd;split
 ·exact⟨h.id,h.t,h.m.tell _ _ a⟩
 ·exact h
theorem EN.new {i:Nat} (a:i < 2) (y:By) (l:List Rl):EN (No.new i y l):=⟨by show(i:Int)=0\/(i:Int)=1;omega,TK.new,TK.new⟩
theorem EN.eU (h:EN x) {p:Pk} (a:x.oh p=0):sK (x.eU p).pr (x.eU p).a1 (x.eU p).p1 (x.eU p).a2 (x.eU p).p2 (x.eU p).fl:=by
 have s:x.eU p=⟨p.pr,1,(x.Px p).po,p.a2,p.p2,p.fl⟩:=by unfold No.eU;rw[aj a]
 unfold No.oh at a;split at a
 ·rename_i f;have ok:=PY f;have i:jc 1 (x.Px p).po:=by
   unfold No.Lh at a;unfold No.Px;split at a
   ·rename_i j m;unfold No.fnd at m;have l:=(lG.1 m).2.1;unfold iQ at l;simp only[JG,qY]at l;rcases h.t j with e | ⟨_,e⟩
    ·exact absurd e l.1
    ·exact e
   ·rename_i w;unfold No.NZ;rw[aj a];unfold No.zh at a;split at a
    ·split at a
     ·unfold No.iE iC at a ⊢;split at a
      ·cases a
      split at a
      ·cases a
      split at a
      ·cases a
      ·rename_i o k y q u;have:=(rD.1 u).1;have:=h.low;simp only[wJ,upd_same];unfold jc;omega
     ·rename_i o;exact absurd a o
    ·cases a
  rw[s];exact⟨ok.proto,i,ok.dst,ok.lo,ok.hi⟩
 ·rename_i f;exact absurd a f
theorem EN.fB (h:EN x) {p:Pk} (a:x.nR p=0):sK (x.fB p).pr (x.fB p).a1 (x.fB p).p1 (x.fB p).a2 (x.fB p).p2 (x.fB p).fl:=by
 unfold No.nR at a;split at a
 ·rename_i f;have ok:=PY f;split at a
  ·rename_i l;split at a
   ·rename_i j i;have m:x.fB p=⟨p.pr,p.a1,p.p1,(x.T j).ia,(x.T j).ip,p.fl⟩:=by
     unfold No.fB No.IY;rw[aj f,aj l,i]
    unfold No.bck at i;have k:=(lG.1 i).2.1;unfold eH at k;simp only[JG,qY]at k;rw[m];refine⟨ok.proto,ok.src,?_,ok.lo,ok.hi⟩;rcases h.t j with e | ⟨e,_⟩
    ·exact absurd e k.1
    ·exact e
   ·cases a
  ·cases a
 ·rename_i f;exact absurd a f
end
structure EW (W:Wo):Prop where
 n:∀i x,W.nd i=some x->EN x
 f:∀t ∈ W.fl,∀c ∈ t.cs,CK c.c
section
variable {W W':Wo}
theorem EW.born (l:List Rl):EW (Wo.born l):=by
 refine⟨fun i x e=>?_,fun t f=>?_⟩
 ·have a:(if i < 2 then some (No.new i iO.fF l) else none)=some x:=e;split at a
  ·rename_i h;cases a;exact EN.new h _ _
  ·cases a
 ·have j:t ∈ ([]:List Nf):=f;simp at j
theorem GU {f:Nat->Option No} {i j:Nat} {a:Option No} {P:No->Prop} (h:∀j y,f j=some y->P y) (l:∀y,a=some y->P y):∀y,aQ f i a j=some y->P y:=fun y k=>by
 by_cases e:j=i
 ·rw[e,aG]at k;exact l y k
 ·rw[aI _ _ e]at k;exact h j y k
theorem EW.nd (h:EW W) {i:Nat} {x:No} (a:EN x):EW {W with nd:=aQ W.nd i (some x)}:=⟨fun _=>GU h.n (fun y e=>by cases e;exact a),h.f⟩
theorem EW.bQ (h:EW W) (i:Nat) (y:By):EW (W.bQ i y):=⟨fun _=>GU h.n (fun y e=>by cases e),h.f⟩
theorem EW.aT (h:EW W) (k:Nat):EW (W.aT k):=⟨h.n,fun t a=>h.f t (WS a)⟩
theorem EW.mP (h:EW W) (s:Stp W W'):EW W':=by
 cases s with
 | tick n =>
  unfold Wo.rU;split
  ·cases k:W.nd n.toNat with
   | none=>exact h
   | some x =>
    have w:=h.n _ x k;have B:=h.nd (i:=n.toNat) w.tick;have z:∀t ∈ x.dN.map x.tk1.fly,∀c ∈ t.cs,CK c.c:=fun t o c A=>by
     obtain⟨u,_,rfl⟩:=List.mem_map.1 o;obtain⟨j,_,rfl⟩:=List.mem_map.1 A;exact w.tk1.t j
    have sent:∀{V:Wo},EW V->EW (V.sent (x.dN.map x.tk1.fly)):=fun {V} D=>⟨D.n,fun t o=>by
     have C:t ∈ V.fl++(x.dN.map x.tk1.fly).take (200 - V.fl.length):=o;rcases lU.1 C with a | a
     ·exact D.f t a
     ·exact z t (BU a)⟩
    show EW (W.au n.toNat x);unfold Wo.au;repeat' split
    ·exact sent ⟨B.n,B.f⟩
    ·exact sent B
    ·exact h.bQ _ _
    ·exact B
  ·exact h
 | down n =>
  unfold Wo.fU;split
  ·split
   ·exact h.bQ _ _
   ·exact h
  ·exact h
 | up n =>
  unfold Wo.iL;split
  ·rename_i e;unfold Wo.vM at e;split at e
   ·exact h.nd (EN.new om _ _)
   ·cases e
  ·exact h
 | cut n m =>
  unfold Wo.fV;split
  ·split
   ·rename_i x k;have w:=h.n _ x k;exact h.nd ⟨w.id,w.t,w.m⟩
   ·exact h
  ·exact h
 | ins p =>
  unfold Wo.ins;split
  ·rename_i i x A;exact h.nd ((h.n i x (je A).2.1).ins p)
  ·exact h
 | jd p =>
  unfold Wo.jd;split
  ·rename_i i x A;exact h.nd ((h.n i x (je A).2.1).jd p)
  ·exact h
 | drop n =>
  unfold Wo.dropped;split
  ·exact h.aT _
  ·exact h
 | twice n =>
  have s:=W.jJ n;exact⟨fun i x k=>h.n i x (by rw[<- s.1];exact k),fun t o=>h.f t (Wo.pI t o)⟩
 | rules l hl =>
  refine⟨fun i x k=>?_,h.f⟩;have q:(if i < 2 then (W.nd i).map (fun y=>({y with ru:=l}:No)) else W.nd i)=some x:=k;split at q
  ·obtain⟨y,E,rfl⟩:=Option.map_eq_some_iff.1 q;have:=h.n i y E;exact⟨this.id,this.t,this.m⟩
  ·exact h.n i x q
 | nI n =>
  unfold Wo.nI;split
  ·cases o:W.fl[n.toNat]? with
   | none=>exact h
   | some t =>
    have F:=h.f t (kW o);show EW (W.delivered n.toNat t);unfold Wo.delivered;split
    ·unfold Wo.heard;split
     ·exact⟨(h.aT n.toNat).n,(h.aT n.toNat).f⟩
     ·exact h.aT _
    ·unfold Wo.handed;split
     ·rename_i x k;exact(h.aT n.toNat).nd ((h.n _ x k).hrd F)
     ·exact h.aT _
  ·exact h
 | stay=>exact h
theorem EW.eU (h:EW W) {p:Pk} (f:W.oh p=0):sK (W.eU p).pr (W.eU p).a1 (W.eU p).p1 (W.eU p).a2 (W.eU p).p2 (W.eU p).fl:=by
 unfold Wo.oh at f;unfold Wo.eU
 cases i:W.I7 with
 | none=>rw[i]at f;obtain⟨e,j,_⟩:=yg i;simp only[j]at f;cases f
 | some a=>rw[i]at f;exact(h.n _ _ (je i).2.1).eU f
theorem EW.fB (h:EW W) {p:Pk} (f:W.nR p=0):sK (W.fB p).pr (W.fB p).a1 (W.fB p).p1 (W.fB p).a2 (W.fB p).p2 (W.fB p).fl:=by
 unfold Wo.nR at f;unfold Wo.fB
 cases i:W.I7 with
 | none=>rw[i]at f;obtain⟨e,j,_⟩:=yg i;simp only[j]at f;cases f
 | some a=>rw[i]at f;exact(h.n _ _ (je i).2.1).fB f
end
end Go.Proofs.YtnogmjekhjldcaaGreatDoor
