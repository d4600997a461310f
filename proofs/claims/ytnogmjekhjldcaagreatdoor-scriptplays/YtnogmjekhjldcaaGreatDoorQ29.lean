/-
  What the claimed theorem reaches, part Q29.
-/
import Derived.Test.YtnogmjekhjldcaaGreatDoorQ28
namespace Go.Proofs.YtnogmjekhjldcaaGreatDoor
open Go.RowKit Go.Proofs.Tryz
set_option maxRecDepth 100000
set_option maxHeartbeats 8000000
section
variable {w w0:World} {n u:Nat} {v:Value} {cs:List Value} {D:RK} {W:Wo}
theorem uV {w':World} {o:Option Nat} {a:World} (b:Below w w a) (g:a.grownBy w' o):ay o.toList w w' :=
 ⟨g.os.trans b.os,g.tape.trans b.tape,g.output.trans b.output,dL b.size g.size,fun k f h=>(g.block k (ji f b.size) (fun e=>h (by rw[<- e];simp))).trans (b.block k f)⟩
theorem Vw (t:Nf) (q:Option Addr) (a c:Nat) (y:w.ownsRow 0 106 5 v n cs) (C:n<=1000) :
  ∃v5 f,(Builtin.append_ #[54,54] 54 #[v,.slice (some (w.heap.size,0)) 1 1]).run prog (w.alloc (.cells #[t.fr,t.li,t.ep,.bool t.cl,.slice q a c] 106))=.ok v5 f/\f.ownsRow 0 106 5 v5 (n+1) (cs++oU t (.slice q a c))/\ay v.ownBlock.toList w f/\(∀g,v5.ownBlock=some g->v.ownBlock=some g\/w.heap.size<=g):=by
 obtain⟨z,A,h,i,j⟩:=lu Tryz.I8;have k:=aB w (.cells #[t.fr,t.li,t.ep,.bool t.cl,.slice q a c] 106);have B:∀x ∈ oU t (.slice q a c),x.oneCell'=true:=fun x s=>by
  simp only[oU,dI,eY,fA]at s;rcases s with rfl | rfl | rfl | rfl | rfl <;> rfl
 obtain⟨v5,f,hr,l,m,_,o⟩:=BX (P := prog) (w.alloc (.cells #[t.fr,t.li,t.ep,.bool t.cl,.slice q a c] 106)) 0 54 54 106 z _ 5 56 Tryz.underlying54 A h i j rfl dC v n cs (y.alloc _) ⟨w.heap.size,0,none⟩ 1 1 (oU t (.slice q a c)) rfl (D7 w t _) B (by unfold maxLen;omega) om (jY _);refine⟨v5,f,hr,l,uV k m,fun g p=>?_⟩;rcases o with e | e
 ·exact .inl (by rw[<- e];exact p)
 ·rw[e]at p
  cases p
  exact .inr k.size
theorem adx (a b:Int) (s:w.ownsRow 0 113 2 v n cs) (B:n<=1000) :
  ∃v5 f,(Builtin.append_ #[55,55] 55 #[v,.slice (some (w.heap.size,0)) 1 1]).run prog (w.alloc (.cells #[a,b] 113))=.ok v5 f/\f.ownsRow 0 113 2 v5 (n+1) (cs++[.int .i64 a,.int .i64 b])/\ay v.ownBlock.toList w f/\(∀g,v5.ownBlock=some g->v.ownBlock=some g\/w.heap.size<=g):=by
 obtain⟨y,z,h,i,j⟩:=lu Tryz.afg;have k:=aB w (.cells #[a,b] 113);have A:∀x ∈ ([a,b]:List Value),x.oneCell'=true:=fun x q=>by
  simp only[dI,eY,fA]at q;rcases q with rfl | rfl <;> rfl
 obtain⟨v5,f,hr,l,m,_,o⟩:=BX (P := prog) (w.alloc (.cells #[a,b] 113)) 0 55 55 113 y _ 2 16 Tryz.underlying55 z h i j rfl dC v n cs (s.alloc _) ⟨w.heap.size,0,none⟩ 1 1 [a,b] rfl (adi w a b) A (by unfold maxLen;omega) om (jY _);refine⟨v5,f,hr,l,uV k m,fun g p=>?_⟩;rcases o with e | e
 ·exact .inl (by rw[<- e];exact p)
 ·rw[e]at p
  cases p
  exact .inr k.size
theorem jO {base a:Nat} {e:TypeId} (h:w.ownsRow base e a v n cs):∃p cap,v=.slice p n cap:=by
 rcases aJ h with⟨e,e0⟩ | ⟨g',c',e,_⟩
 ·exact⟨none,0,by rw[e,e0]⟩
 ·exact⟨_,_,e⟩
theorem cZ.addN (h:cZ w0 w D W u) (t:Nf) (q:Option Addr) (c:Nat) (z:Oe w D t (.slice q t.cs.length c)) (F:W.fl.length < 200) :
  ∃k c5 a,(Builtin.append_ #[54,54] 54 #[D.lv,.slice (some (w.heap.size,0)) 1 1]).run prog (w.alloc (.cells #[t.fr,t.li,t.ep,.bool t.cl,.slice q t.cs.length c] 106))=.ok (.slice k (W.fl.length+1) c5) a/\ay D.lv.ownBlock.toList w a/\(a.cell? (D.wb,3)=some D.lv/\a.frozen? (D.wb,3)=false)/\∃p,cZ w0 (a.setCell (D.wb,3) (.slice k (W.fl.length+1) c5)) p {W with fl:=W.fl++[t]} u/\eX D p w (a.setCell (D.wb,3) (.slice k (W.fl.length+1) c5)):=by
 obtain⟨v5,a,hr,s,m,A⟩:=Vw t q t.cs.length c h.fl.own om;obtain⟨k,c5,rfl⟩:=jO s;have o:¬D.wb ∈ D.lv.ownBlock.toList:=fun B=>by have G:=h.tl _ (by simpa using B);have H:=h.tw.1;omega
 have e:=m.block _ h.wb.lt o;refine⟨k,c5,a,hr,m,⟨(dV e).trans ((h.wb.c 3).trans rfl),(sO e).trans (h.wb.fr 3)⟩,_,h.aaz m (fl':=W.fl++[t]) (cv':=D.cv++[.slice q t.cs.length c]) ?_ A ?_ ?_ ?_ rfl⟩
 ·have C:(gW (W.fl++[t]) (D.cv++[.slice q t.cs.length c])).flatten=(gW W.fl D.cv).flatten++oU t (.slice q t.cs.length c):=by
   unfold gW;rw[List.zipWith_append h.fl.len.symm];simp
  rw[C,jw];exact s
 ·rw[jw,jw,h.fl.len];rfl
 ·rw[jw];show W.fl.length+1<=200;omega
 ·intro i E v' f l;by_cases x:i < W.fl.length
  ·rw[qW x]at f;rw[qW (by rw[h.fl.len];exact x)]at l;exact h.fl.ok i E v' f l
  ·rw[xA om]at f;rw[xA (by rw[h.fl.len];omega),h.fl.len]at l
   cases y:i - W.fl.length with
   | zero =>
    rw[y]at f l
    cases f
    cases l
    exact z
   | succ j =>
    rw[y]at f
    cases f
theorem cZ.ahj (h:cZ w0 w D W u) (a b:Int) (s:W.ev.length < 1000) :
  ∃i c5 f,(Builtin.append_ #[55,55] 55 #[D.ev,.slice (some (w.heap.size,0)) 1 1]).run prog (w.alloc (.cells #[a,b] 113))=.ok (.slice i (W.ev.length+1) c5) f/\ay D.ev.ownBlock.toList w f/\(f.cell? (D.wb,6)=some D.ev/\f.frozen? (D.wb,6)=false)/\∃l,cZ w0 (f.setCell (D.wb,6) (.slice i (W.ev.length+1) c5)) l {W with ev:=W.ev++[(a,b)]} u/\eX D l w (f.setCell (D.wb,6) (.slice i (W.ev.length+1) c5)):=by
 obtain⟨v5,f,hr,m,j,o⟩:=adx a b h.ev.own om;obtain⟨i,c5,rfl⟩:=jO m;have k:¬D.wb ∈ D.ev.ownBlock.toList:=fun p=>by have x:=h.te _ (by simpa using p);have y:=h.tw.1;omega
 have e:=j.block _ h.wb.lt k;refine⟨i,c5,f,hr,j,⟨(dV e).trans ((h.wb.c 6).trans rfl),(sO e).trans (h.wb.fr 6)⟩,_,h.ahh j (ev':=W.ev++[(a,b)]) ?_ o ?_ rfl⟩
 ·have q:yt (W.ev++[(a,b)])=yt W.ev++[.int .i64 a,.int .i64 b]:=by simp[yt]
  rw[q,jw];exact m
 ·rw[jw];show W.ev.length+1<=1000;omega
structure NtD (w:World) (D:RK) (l:List Nf) (p:Option Addr) (us:List Value):Prop where
 t:RdT w p l us
 c:RdC w l us
 len:us.length=l.length
 p5:l≠[]->∀a,p=some a->D.tag a.block=5
 u5:∀(j:Nat) t q a c,l[j]? = some t->us[j]? = some (Value.slice q a c)->t.cs≠[]->∀b,q=some b->D.tag b.block=5
theorem NtD.mv {w':World} {F:RK} {l:List Nf} {p:Option Addr} {us:List Value} (h:NtD w D l p us) (d:cZ w0 w D W u) (m:eX D F w w'):NtD w' F l p us:=by
 have f:∀a v,D.tag a.block=5->w.cell? a=some v->w'.cell? a=some v:=fun a v x G=>(dV (m.block a.block (eF G) (.inr x))).trans G;refine⟨fun j t x=>?_,fun j t x=>?_,h.len,fun z a H=>?_,fun j t q a c A B z b I=>?_⟩
 ·obtain⟨g,q,c,e,A,c0,c1,c2,c3,c4⟩:=h.t j t x;have s:=h.p5 (fun C=>by rw[C]at x;simp at x) _ e;exact⟨g,q,c,e,A,f _ _ s c0,f _ _ s c1,f _ _ s c2,f _ _ s c3,f _ _ s c4⟩
 ·obtain⟨q,c,A,R,J⟩:=h.c j t x;refine⟨q,c,A,fun i y E=>?_,J⟩;obtain⟨b,o,B,k⟩:=R i y E;have s:=h.u5 j t _ _ _ x A (fun C=>by rw[C]at E;simp at E) _ B;exact⟨b,o,B,⟨f _ _ s k.c0,f _ _ s k.c1,f _ _ s k.c2,f _ _ s k.c3,f _ _ s k.c4,f _ _ s k.c5,f _ _ s k.c6,f _ _ s k.c7,f _ _ s k.c8,f _ _ s k.c9⟩⟩
 ·have q:=h.p5 z a H;rw[m.tag _ (d.lt om)];exact q
 ·have q:=h.u5 j t _ _ _ A B z b I;rw[m.tag _ (d.lt om)];exact q
theorem NtD.at' {l:List Nf} {p:Option Addr} {us:List Value} (h:NtD w D l p us) {j:Nat} {t:Nf} (a:l[j]? = some t) (m:t.fr=0\/t.fr=1):∃g q c,p=some ⟨g,0,none⟩/\(w.cell? ⟨g,j * 5,none⟩=t.fr/\w.cell? ⟨g,j * 5+1,none⟩=t.li/\w.cell? ⟨g,j * 5+2,none⟩=t.ep/\w.cell? ⟨g,j * 5+3,none⟩=some (.bool t.cl)/\w.cell? ⟨g,j * 5+4,none⟩=some (.slice q t.cs.length c))/\Oe w D t (.slice q t.cs.length c)/\D.tag g=5:=by
 obtain⟨g,q,c,e,i,c0,c1,c2,c3,c4⟩:=h.t j t a;obtain⟨q',c',k,R,s⟩:=h.c j t a;rw[i]at k
 cases k
 exact⟨g,q,c,e,⟨c0,c1,c2,c3,c4⟩,⟨⟨q,c,rfl,R,fun f z o x=>h.u5 j t _ _ _ a i f _ x⟩,s,m⟩,h.p5 (fun y=>by rw[y]at a;simp at a) _ e⟩
theorem um.d {x:No} (h:um w n x v) (s:∀b,n<=b->b < w.heap.size->D.tag b=5):∃p cap us,v=.slice p x.pO.length cap/\NtD w D x.pO p us:=by
 obtain⟨p,cap,us,e,z,A,H,I,J⟩:=h;refine⟨p,cap,us,e,z,A,H,fun f a B=>?_,fun j t q a c m C f b E=>?_⟩
 ·cases i:x.pO with
  | nil=>exact absurd i f
  | cons t l =>
   obtain⟨g,q,c,m,_,c0,_⟩:=z 0 t (by rw[i];rfl);rw[m]at B
   cases B
   exact s _ (I _ m) (eF c0)
 ·obtain⟨q',c',F,R,_⟩:=A j t m;rw[C]at F
  cases F
  cases i:t.cs with
  | nil=>exact absurd i f
  | cons y l =>
   obtain⟨K,o,G,k⟩:=R 0 y (by rw[i];rfl);rw[G]at E
   cases E
   exact s _ (J _ (kW C) _ _ _ rfl _ G) (eF k.c0)
theorem ady (x:No):x.pO=x.dN.map x.tk1.fly:=rfl
theorem afq {x:No} {i:Nat} (f:i < 2) (e:x.id=i):∀(j:Nat) t,x.pO[j]? = some t->t.fr=0\/t.fr=1:=fun j t a=>by
 rw[ady,kK]at a;obtain⟨s,_,rfl⟩:=Option.map_eq_some_iff.1 a;show x.tk1.id=0\/x.tk1.id=1;rw[(zl x).2.2.2.2.1,e];omega
end
theorem bH.ticks {w0 w:World} {r:fC} {x:No} {q:Ro} {f:Int} {u:Nat} (h:bH w0 w r x q f ((u:Int)+1) (33 * u+33)) (i:pV u - 20<=f):bH w0 w r x q (pV (u+1)) ((u+1:Nat):Int) (33 * (u+1)):=by
 obtain⟨lv,a,b,c,d⟩:=h.yb;have e:pV (u+1)=pV u - 20:=by unfold pV;omega
 exact {h with yb:=⟨lv,a,b,by omega,d⟩,sm:=h.sm.mono om,vs:=h.vs.more om}
def tg5 (a:Nat->Nat) (n m:Nat):Nat->Nat:=fun b=>if b < n then a b else if b < m then 5 else 9
def afr (W:Wo) (n:Int):Prop:=∀(i:Nat) x,n=i->W.nd i=some x->(x.lg=0/\x.tick.y.on=true)\/(x.lg=7/\x.tick.y.on=false)
def TkL (w0 w wr:World) (D:RK) (W:Wo) (u:Nat) (l:List Nf) (p:Option Addr) (j:Nat):Prop:=∃a us,cZ w0 wr a {W with fl:=W.fl++l.take j} (u+1)/\eX D a w wr/\NtD wr a l p us
theorem Vx {w0 w:World} {D:RK} {W:Wo} {u:Nat} (h:cZ w0 w D W u) (hu:u<=100000) (n:Int) (hE:afr W n) :
  Calls prog 43 #[.pointer (some (D.wb,0)),n] w fun e w'=>e=.returned (.int .i64 (W.Ee n:Nat))/\∃Q,cZ w0 w' Q (W.rU n) (u+1)/\eX D Q w w':=by
 have HW:=jH h;have HU:Hid (u<=100000/\afr W n):=⟨hu,hE⟩;clear h hu hE;go_enter func43,ntmps43;go_wp2_with fail;refine jM (rY HW n) fun w1 b1=>?_;have B1:=b1;have W1:=jH (HW.below b1);clear b1;rcases qP W n with⟨i,x,rfl,hi,hx,he⟩ | ⟨i,rfl,hi,hx,he⟩ | ⟨hn,he⟩;rotate_left
 ·have C:Hid (W.Ee (i:Int)=7/\W.rU (i:Int)=W):=⟨by unfold Wo.Ee;rw[ak om,he],by unfold Wo.rU;rw[ak om]⟩;rw[he];clear he hx hi;go_wp2_with fail;go_ret;exact⟨by rw[C.1];rfl,D,by rw[C.2];exact W1.mono om,eX.of B1.out⟩
 ·have C:Hid (W.Ee n=2/\W.rU n=W):=⟨by unfold Wo.Ee;rw[ak om,he],by unfold Wo.rU;rw[ak om]⟩;rw[he];clear he hn;go_wp2_with fail;go_ret;exact⟨by rw[C.1];rfl,D,by rw[C.2];exact W1.mono om,eX.of B1.out⟩
 ·have C:Hid (W.Ee (i:Int)=x.lg/\W.rU (i:Int)=W.au i x):=⟨by unfold Wo.Ee;rw[aj he,fJ,hx],by unfold Wo.rU;rw[aj he,fJ,hx]⟩;have G:Hid (i < 2/\W.nd i=some x):=⟨hi,hx⟩;obtain⟨r,q,hk,nd,ey,q0,q1,qi,ht⟩:=W1.up hi hx;have H:Hid (D.nk i=some r/\bH w0 w1 r x q (pV u) u (33 * u)/\r.yb=D.yk i/\0<=x.now/\x.now<=u/\x.id=i/\∀b ∈ r.all,D.tag b=i+1):=⟨hk,nd,ey,q0,q1,qi,ht⟩;have c0:=(W1.wb.c 0).trans rfl;have cn:=W1.nvU hi hk;have b3:=nd.nd.b3;have I:=nd.ro.c3;rw[nd.sm.ac]at I;have n2:=jN i
  have n3:(i:Int) < 2:=by omega
  rw[he];clear he hx hk nd ey hi q0 q1 qi ht;go_wp2_with fail;refine(aax H.2.1 H.2.2.2.1 (by have:=H.2.2.2.2.1;have:=HU.1;omega) (by have:=HU.1;omega) (by have:=HU.1;omega) (by have:=HU.1;unfold pV;omega)).mono ?_;rintro e w3 ⟨⟨v,rfl,Zq⟩,⟨q',ZF,Zg,Zh⟩,c3⟩;have sm:=zl x;have kk:=W1.Lr G.1 H.1 G.2 (Zh.ticks Zg) c3 (wz u) ⟨rfl,rfl⟩ (by rw[sm.2.2.1];have:=H.2.2.2.1;omega) (by rw[sm.2.2.1];have:=H.2.2.2.2.1;omega) (sm.2.1.trans H.2.2.2.2.2.1) (tg5 D.tag w1 w3) (fun b J=>aj J) (fun b J=>by
   have:=c3.size;show(if b < w1.heap.size then _ else _)=_;rw[ak om,ak om]) (fun b J=>by
   show(if b < w1.heap.size then _ else _)=_;rw[aj (H.2.1.blk b J)];exact H.2.2.2.2.2.2 b J)
  obtain⟨D3,R⟩:∃D3,({D with nk:=aQ D.nk i (some r),tag:=tg5 D.tag w1 w3.heap.size}:RK)=D3:=⟨_,rfl⟩;have a:Hid (D3.wb=D.wb/\D3.bb=D.bb/\D3.bc=D.bc/\D3.nb=D.nb/\D3.nc=D.nc/\D3.yk=D.yk/\D3.ev=D.ev/\D3.lv=D.lv/\D3.nk i=some r):=by rw[<- R];exact⟨rfl,rfl,rfl,rfl,rfl,rfl,rfl,rfl,aG _ _ _⟩
  have h5:∀b,w1.heap.size<=b->b < w3.heap.size->D3.tag b=5:=fun b h1 h2=>by
   rw[<- R];show(if b < w1.heap.size then _ else _)=_;rw[ak om,aj h2]
  rw[R]at kk;have f:=jH kk.1;have M3:=jH ((eX.of B1.out).trans kk.2);have S:=jH (Zh.ticks Zg);obtain⟨p,cap,us,rfl,K⟩:=Zq.d h5;have T:=jH K;clear kk R h5 K Zq Zh Zg c3 sm c0 cn b3 I;have c1:w3.cell? (D.wb,1)=some (.slice (some (D.bb,0)) 2 D.bc):=by
   have:=(f.wb.c 1).trans rfl;rw[a.1,a.2.1,a.2.2.1]at this;exact this
  have cb:w3.cell? (D.bb,i)=some (.pointer (some (D.yk i,0))):=by
   have:=f.bb.c i G.1;rw[a.2.1,a.2.2.2.2.2.1]at this;exact this
  obtain⟨lv,y1,y2,y3,y4⟩:=S.yb;have cy:w3.cell? (D.yk i,1)=some (.bool (!x.tick.y.on)):=by rw[<- H.2.2.1];exact y1.c1
  have YL:Hid (fG w3 r.yb x.tick.y lv/\(x.tick.y.cut=true->lv=x.tick.y.left)/\pV (u+1)<=lv/\lv<=9223372036854775807/\x.tick.y.B.length=64):=⟨y1,y2,y3,y4,S.len⟩;clear y1 y2 y3 y4;rcases HU.2 i x rfl G.2 with⟨e0,hon⟩ | ⟨e7,hon⟩;rotate_left
  ·have Zi:Hid (x.lg=7/\W.au i x=W.bQ i x.tick.y/\x.tick.y.on=false):=⟨e7,by unfold Wo.au;rw[ak om,aj e7],hon⟩;rw[hon]at cy;rw[e7];have c0:w3.cell? (D.wb,0)=some (.slice (some (D.nb,0)) 2 D.nc):=by
    have:=(f.wb.c 0).trans rfl;rw[a.1,a.2.2.2.1,a.2.2.2.2.1]at this;exact this
   have cn:w3.cell? (D.nb,i)=some (.pointer (some (r.nd,0))):=by
    have:=f.nvU G.1 a.2.2.2.2.2.2.2.2;rw[a.2.2.2.1]at this;exact this
   have fn:w3.frozen? (D.nb,i)=false:=by
    have:=f.nb.fr i G.1;rw[a.2.2.2.1]at this;exact this
   clear e7 hon;simp only[Bool.not_false]at cy;go_wp2_with fail;go_ret;have k:=f.fall (y:=x.tick.y) G.1 (aG _ _ _) a.2.2.2.2.2.2.2.2 (lv:=lv) (by
    have e:x.tick.y.pG=x.tick.y:=by
     have:=Zi.2.2;unfold By.pG
     cases hy:x.tick.y
     rw[hy]at this;simp only at this;rw[this]
    rw[e];exact YL.1) YL.2.1 YL.2.2 rfl
   rw[Ey]at k;refine⟨by rw[C.1,Zi.1];rfl,D3.dn i,by rw[C.2,Zi.2.1,<- a.2.2.2.1];exact k.1,M3.trans (by rw[<- a.2.2.2.1];exact k.2)⟩
  ·have Zj:=jH e0;rw[hon]at cy;rw[e0];clear e0 hon;simp only[Bool.not_true]at cy;have o:Hid (W.au i x=((if !x.ro.ac && x.tick.ro.ac then ({W with nd:=aQ W.nd i (some x.tick)}:Wo).noted ((i:Int),x.tick.ro.ep) else {W with nd:=aQ W.nd i (some x.tick)}).sent x.pO)):=by show _=_;unfold Wo.au;rw[aj Zj.out];rfl
   have b3:=S.nd.b3;have I:=S.ro.c3;have a1:=S.ro.c1;rw[S.sm.ac]at I;rw[S.sm.ep]at a1;obtain⟨pe,L,M⟩:=jO f.ev.own;have ce:w3.cell? (D.wb,6)=some (.slice pe W.ev.length L):=by
    have:=(f.wb.c 6).trans rfl;rw[a.1,M]at this;exact this
   rcases(show(x.ro.ac=false/\x.tick.ro.ac=true/\W.ev.length < 1000)\/(x.ro.ac=false/\x.tick.ro.ac=true/\¬W.ev.length < 1000)\/(x.ro.ac=false/\x.tick.ro.ac=false)\/x.ro.ac=true by cases x.ro.ac <;> cases x.tick.ro.ac <;> simp <;> omega) with⟨hac,hac2,hlen⟩ | ⟨hac,hac2,hlen⟩ | ⟨hac,hac2⟩ | hac;focus
    rw[hac2]at I;rw[hac];have HL:Hid (W.au i x=({W with nd:=aQ W.nd i (some x.tick),ev:=W.ev++[((i:Int),x.tick.ro.ep)]}:Wo).sent x.pO):=by show _=_;rw[o.out,hac,hac2];unfold Wo.noted;simp only[hlen,mV,Bool.not_false,Bool.and_true]
    have l0:(W.ev.length:Int) < 1000:=by omega
    have Zk:=f.below (aH w3 w3).drew;obtain⟨p9,c9,X,N,O,Zr,D9,Zl,m9⟩:=Zk.ahj (i:Int) x.tick.ro.ep hlen;rw[M]at N;have hr:=N;rw[a.1]at Zr Zl m9;obtain⟨k6,f6⟩:=Zr;rw[M]at k6;have K9:Hid (cZ w0 (X.setCell (D.wb,6) (.slice p9 (W.ev.length+1) c9)) D9 {W with nd:=aQ W.nd i (some x.tick),ev:=W.ev++[((i:Int),x.tick.ro.ep)]} (u+1)/\eX D D9 w (X.setCell (D.wb,6) (.slice p9 (W.ev.length+1) c9))/\NtD (X.setCell (D.wb,6) (.slice p9 (W.ev.length+1) c9)) D9 x.pO p us):=⟨Zl,(M3.then bD).trans m9,(T.mv f (eX.of bD)).mv Zk m9⟩;have Zm:∀b,b ∈ D3.ev.ownBlock.toList->D3.tag b=4:=fun b J=>f.te b (by simpa using J);have Zn:∀b ∈ r.all,D3.tag b=i+1:=fun b J=>f.ts i G.1 b (by simp[RK.side,a.2.2.2.2.2.2.2.2,J]);have Zt:¬r.nd ∈ D3.ev.ownBlock.toList:=fun hm=>by have:=Zm _ hm;have:=Zn _ r.tK;have:=G.1;omega
    have Zu:¬r.ro ∈ D3.ev.ownBlock.toList:=fun hm=>by have:=Zm _ hm;have:=Zn _ r.vI;have:=G.1;omega
    have s0:w3.drew.cell? (D.wb,6)=some (.slice pe W.ev.length L)/\w3.drew.cell? (r.nd,3)=some (.pointer (some (r.ro,0)))/\w3.drew.cell? (r.ro,1)=x.tick.ro.ep:=⟨ce,b3,a1⟩;have E:=aB w3.drew (.cells #[.int .i64 (i:Int),x.tick.ro.ep] 113);have s1:(w3.drew.alloc (.cells #[.int .i64 (i:Int),x.tick.ro.ep] 113)).cell? (D.wb,6)=some (.slice pe W.ev.length L)/\(w3.drew.alloc (.cells #[.int .i64 (i:Int),x.tick.ro.ep] 113)).cell? (r.nd,3)=some (.pointer (some (r.ro,0)))/\(w3.drew.alloc (.cells #[.int .i64 (i:Int),x.tick.ro.ep] 113)).cell? (r.ro,1)=x.tick.ro.ep:=⟨tk E s0.1,tk E s0.2.1,tk E s0.2.2⟩;have s2:X.cell? (D.wb,6)=some (.slice pe W.ev.length L)/\X.cell? (r.nd,3)=some (.pointer (some (r.ro,0)))/\X.cell? (r.ro,1)=x.tick.ro.ep:=⟨k6,O.keeps Zt s0.2.1,O.keeps Zu s0.2.2⟩;clear hac hac2 o hlen N O Zl m9 Zm Zn Zt Zu Zk E M;go_wp2_with fail;go_region_held3 (fun w'=>w'.cell? (D.wb,6)=some (.slice pe W.ev.length L)/\w'.cell? (r.nd,3)=some (.pointer (some (r.ro,0)))/\w'.cell? (r.ro,1)=x.tick.ro.ep) (first | exact s0 | exact s1 | exact s2) (first | (refine Eq.mpr (aj kr) ?_;refine dM (Operand.tmp 79) (Operand.tmp 89) 55 rfl _ _ _ X rfl rfl hr ?_))
    rename_i ZB;clear ZB;clear s0 s1 s2 hr b3 I a1 ce cy cb c1;go_wp2_with fail;have WL:=jH K9.out;clear K9 k6 f6 f M3 T S l0;generalize X.setCell (D.wb,6) (.slice p9 (W.ev.length+1) c9)=wc at *;generalize ({W with nd:=aQ W.nd i (some x.tick),ev:=W.ev++[((i:Int),x.tick.ro.ep)]}:Wo)=Wc at *
   rotate_left;iterate 3
    focus
     have HL:Hid (W.au i x=({W with nd:=aQ W.nd i (some x.tick)}:Wo).sent x.pO):=by
      show _=_;first
       | (rw[o.out,hac];rfl)
       | (rw[o.out,hac,hac2];rfl)
       | (rw[o.out,hac,hac2];unfold Wo.noted;simp only[hlen,mV,Ik,Bool.not_false,Bool.and_true])
     try rw[hac2]at I
     try have l0:¬(W.ev.length:Int) < 1000:=by omega
     rw[hac];clear hac o;try clear hac2
     try clear hlen
     go_wp2_with fail;have WL:Hid (cZ w0 w3 D3 {W with nd:=aQ W.nd i (some x.tick)} (u+1)/\eX D D3 w w3/\NtD w3 D3 x.pO p us):=⟨f,M3,T⟩;generalize ({W with nd:=aQ W.nd i (some x.tick)}:Wo)=Wc at *;clear f M3 T S b3 I a1 ce M cy cb c1;obtain⟨wc,rfl⟩:∃wc,wc=w3:=⟨_,rfl⟩
    rotate_left
   all_goals
    go_loopw [10] (fun t wr=>∃j:Nat,j<=x.pO.length/\t=.int .i64 j/\Wc.fl.length+j<=200/\TkL w0 w wr D Wc u x.pO p j) (fun t _=>x.pO.length - (intOf t).toNat)
    case atStart=>exact⟨0,by omega,rfl,by have:=WL.1.fl.le;omega,_,_,by simpa using WL.1,WL.2.1,WL.2.2⟩
    case round =>
     obtain⟨j,hj,rfl,Zv,ZC⟩:=hrel;have HJ:Hid (j<=x.pO.length/\Wc.fl.length+j<=200):=⟨hj,Zv⟩;obtain⟨Q,Zw,wd,mv,nt⟩:=ZC;have P:Hid (cZ w0 wr Q {Wc with fl:=Wc.fl++x.pO.take j} (u+1)/\eX D Q w wr/\NtD wr Q x.pO p Zw):=⟨wd,mv,nt⟩;obtain⟨pl,cl,s⟩:=jO wd.fl.own;have m:(Wc.fl++x.pO.take j).length=Wc.fl.length+j:=by rw[jw,qE];omega
     have c3:wr.cell? (D.wb,3)=some (.slice pl (Wc.fl.length+j) cl):=by
      have:=(wd.wb.c 3).trans rfl;rw[mv.wb,s]at this;rw[<- m];exact this
     clear wd mv nt hj Zv;by_cases ZE:j < x.pO.length
     ·have i0:=jN j
      have i1:(j:Int) < (x.pO.length:Int):=by omega
      by_cases Zx:Wc.fl.length+j < 200
      ·have i2:((Wc.fl.length+j:Nat):Int) < 200:=by omega
       obtain⟨t,ht⟩:∃t,x.pO[j]? = some t:=⟨_,fD ZE⟩;have Zy:=afq G.1 H.2.2.2.2.2.1 j t ht;obtain⟨g,F,cn,rfl,⟨a0,a1,a2,I,a4⟩,K,h5⟩:=P.2.2.at' ht Zy;have Zp:=P.1.below (aH wr wr).drew;obtain⟨p5,c5,Y,U,z,Zz,D5,V,m5⟩:=Zp.addN t F cn (K.keep (ay.of (l:=[]) (aH wr wr).drew) (fun b J=>by simp at J)) (by show(Wc.fl++x.pO.take j).length < 200;rw[m];exact Zx);have Z:=m;rw[s]at U;rw[Z]at U V m5;have hr:=U;rw[P.2.1.wb]at Zz V m5;obtain⟨k3,f3⟩:=Zz;rw[s,m]at k3;have K5:Hid (TkL w0 w (Y.setCell (D.wb,3) (.slice p5 (Wc.fl.length+j+1) c5)) D Wc u x.pO (some (g,0)) (j+1)):=by
        refine⟨D5,Zw,?_,(P.2.1.then bD).trans m5,(P.2.2.mv P.1 (eX.of bD)).mv Zp m5⟩;have e:Wc.fl++x.pO.take (j+1)=(Wc.fl++x.pO.take j)++[t]:=by rw[xE,ht,WQ];rfl
        rw[e];exact V
       have A:¬g ∈ Q.lv.ownBlock.toList:=fun hm=>by have:=P.1.tl g (by simpa using hm);omega
       have s0:wr.drew.cell? (D.wb,3)=some (.slice pl (Wc.fl.length+j) cl)/\wr.drew.cell? (g,j * 5)=t.fr/\wr.drew.cell? (g,j * 5+1)=t.li/\wr.drew.cell? (g,j * 5+2)=t.ep/\wr.drew.cell? (g,j * 5+3)=some (.bool t.cl)/\wr.drew.cell? (g,j * 5+4)=some (.slice F t.cs.length cn):=⟨c3,a0,a1,a2,I,a4⟩;clear U V m5 K Zy h5 Zp s m Z ht;go_wp2_with fail;have E:=aB wr.drew (.cells #[t.fr,t.li,t.ep,.bool t.cl,.slice F t.cs.length cn] 106);have s1:(wr.drew.alloc (.cells #[t.fr,t.li,t.ep,.bool t.cl,.slice F t.cs.length cn] 106)).cell? (D.wb,3)=some (.slice pl (Wc.fl.length+j) cl)/\(wr.drew.alloc (.cells #[t.fr,t.li,t.ep,.bool t.cl,.slice F t.cs.length cn] 106)).cell? (g,j * 5)=t.fr/\(wr.drew.alloc (.cells #[t.fr,t.li,t.ep,.bool t.cl,.slice F t.cs.length cn] 106)).cell? (g,j * 5+1)=t.li/\(wr.drew.alloc (.cells #[t.fr,t.li,t.ep,.bool t.cl,.slice F t.cs.length cn] 106)).cell? (g,j * 5+2)=t.ep/\(wr.drew.alloc (.cells #[t.fr,t.li,t.ep,.bool t.cl,.slice F t.cs.length cn] 106)).cell? (g,j * 5+3)=some (.bool t.cl)/\(wr.drew.alloc (.cells #[t.fr,t.li,t.ep,.bool t.cl,.slice F t.cs.length cn] 106)).cell? (g,j * 5+4)=some (.slice F t.cs.length cn):=⟨tk E s0.1,tk E s0.2.1,tk E s0.2.2.1,tk E s0.2.2.2.1,tk E s0.2.2.2.2.1,tk E s0.2.2.2.2.2⟩;have s2:Y.cell? (D.wb,3)=some (.slice pl (Wc.fl.length+j) cl)/\Y.cell? (g,j * 5)=t.fr/\Y.cell? (g,j * 5+1)=t.li/\Y.cell? (g,j * 5+2)=t.ep/\Y.cell? (g,j * 5+3)=some (.bool t.cl)/\Y.cell? (g,j * 5+4)=some (.slice F t.cs.length cn):=⟨k3,z.keeps A s0.2.1,z.keeps A s0.2.2.1,z.keeps A s0.2.2.2.1,z.keeps A s0.2.2.2.2.1,z.keeps A s0.2.2.2.2.2⟩;clear E z A a0 a1 a2 I a4 c3;go_region_held3 (fun w'=>w'.cell? (D.wb,3)=some (.slice pl (Wc.fl.length+j) cl)/\w'.cell? (g,j * 5)=t.fr/\w'.cell? (g,j * 5+1)=t.li/\w'.cell? (g,j * 5+2)=t.ep/\w'.cell? (g,j * 5+3)=some (.bool t.cl)/\w'.cell? (g,j * 5+4)=some (.slice F t.cs.length cn)) (first | exact s0 | exact s1 | exact s2) (first | (refine Eq.mpr (aj kr) ?_;refine dM (Operand.tmp 112) (Operand.tmp 117) 54 rfl _ _ _ Y rfl rfl hr ?_))
       clear s0 s1 s2 hr;go_wp2_with fail;go_roundw
       case rel=>exact⟨j+1,by omega,by go_num,by omega,K5⟩
       case measure=>simp[intOf];omega
      ·have i2:¬((Wc.fl.length+j:Nat):Int) < 200:=by omega
       have HF:Hid (W.au i x={Wc with fl:=Wc.fl++x.pO.take j}):=by
        show _=_;rw[HL.out];unfold Wo.sent;have:200 - Wc.fl.length=j:=by have:=HJ.out;omega
        rw[this]
       clear s m;go_wp2_with fail;go_ret;exact⟨by rw[C.1,Zj.out];rfl,Q,by rw[C.2,HF.out];exact P.1,P.2.1⟩
     ·have i1:¬(j:Int) < (x.pO.length:Int):=by omega
      have HF:Hid (W.au i x={Wc with fl:=Wc.fl++x.pO.take j}):=by
       show _=_;rw[HL.out];unfold Wo.sent;rw[vk (by have:=HJ.out;omega),vk om]
      clear s m;go_wp2_with fail;go_ret;exact⟨by rw[C.1,Zj.out];rfl,Q,by rw[C.2,HF.out];exact P.1,P.2.1⟩
end Go.Proofs.YtnogmjekhjldcaaGreatDoor
