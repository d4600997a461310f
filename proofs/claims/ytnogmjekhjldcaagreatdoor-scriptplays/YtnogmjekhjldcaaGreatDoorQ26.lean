/-
  What the claimed theorem reaches, part Q26.
-/
import Derived.Test.YtnogmjekhjldcaaGreatDoorQ25
namespace Go.Proofs.YtnogmjekhjldcaaGreatDoor
open Go.RowKit Go.Proofs.Tryz
set_option maxRecDepth 100000
set_option maxHeartbeats 8000000
theorem wZ (g cap:Nat) (T:Tb) (w:World) (M:jl w g T) :
  Calls prog 31 #[.slice (some (g,0)) 32 cap] w fun e w'=>(∃v,e=.returned v/\w'.ownsRow w 115 8 v (jy T 32).length (qp (jy T 32)))/\Below w w w':=by
 obtain⟨Q,R,y,z,A⟩:=lu Tryz.Kv;have S:Hid (jl w g T):=M;clear M;go_enter func31,ntmps31;go_wp2_with fail;go_loopw [3,4] (fun v t wr=>∃j:Nat,j<=32/\t=.int .i64 j/\wr.ownsRow w 115 8 v (jy T j).length (qp (jy T j))/\Below w w wr) (fun _ t _=>32 - (intOf t).toNat)
 case atStart=>exact⟨0,by omega,rfl,ql _ _ _ _,aH _ _⟩
 case round =>
  obtain⟨j,Z,rfl,h,m⟩:=hrel;have s:Hid (wr.ownsRow w 115 8 u3 (jy T j).length (qp (jy T j))):=h;have l:Hid (Below w w wr):=m;clear h m;by_cases a:j < 32
  ·obtain⟨c,B⟩:∃c,c=T j:=⟨_,rfl⟩;have C:Hid (c=T j):=B;have f:=S.below l;have F:=f.at' (i:=j) (k:=2) a om;have G:=f.at' (i:=j) (k:=3) a om;have H:=f.at' (i:=j) (k:=4) a om;have I:=f.at' (i:=j) (k:=5) a om;have J:=f.at' (i:=j) (k:=6) a om;have K:=f.at' (i:=j) (k:=7) a om;have L:=f.at' (i:=j) (k:=8) a om;have N:=f.at' (i:=j) (k:=9) a om;rw[<- B]at F G H I J K L N;simp only[Ce.get]at F G H I J K L N;have U:(0:Int)<=(j:Int):=by omega
   have i1:(j:Int) < 32:=by omega
   clear B f;have V:=mO T j;by_cases O:c.pr=0
   ·have D:Hid (jy T (j+1)=jy T j):=OO (by rw[<- C.out];exact O);go_wp2_with fail;go_roundw
    case rel=>exact⟨j+1,by omega,by go_num,by rw[D.out];exact s,l⟩
    case measure=>simp[intOf];omega
   ·have D:Hid (jy T (j+1)=jy T j++[c]):=by show _=_;rw[IE (by rw[<- C.out];exact O),C.out]
    have P:Hid (∀u ∈ JA c,u.oneCell'=true):=fun u x=>by
     simp only[JA,dI,eY,fA]at x;rcases x with rfl | rfl | rfl | rfl | rfl | rfl | rfl | rfl <;> rfl
    go_wp2_with (at_builtin;refine vw _ rfl _ _ 82 rfl w 115 Q _ 8 64 Tryz.underlying82 R y z A rfl dC u3 (jy T j).length (qp (jy T j)) rfl (s.alloc _) ⟨wr.heap.size,0,none⟩ 1 1 (JA c) rfl rfl ?c1 P ?c3 ?c4 ?c5 ?_)
    case c1 =>
     intro q u x;rw[qo,fE,nw];simpa [JA] using x
    case c3=>unfold maxLen;omega
    case c4=>omega
    case c5=>have:=l.size;simp;omega
    intro v5 E o p _;have W:Hid (E.ownsRow w 115 8 v5 (jy T (j+1)).length (qp (jy T (j+1)))):=by
     show E.ownsRow _ _ _ _ _ _;rw[D.out,jw,Df];exact o
    have X:Hid (Below w w E):=(l.alloc l.size _).grown p (by have:=l.size;simp;omega) (fun q Y=>(s.lt _ Y).1);clear o p P;go_wp2_with fail;go_roundw
    case rel=>exact⟨j+1,by omega,by go_num,W,X⟩
    case measure=>simp[intOf];omega
  ·obtain rfl:j=32:=by omega
   go_wp2_with fail;go_ret;exact⟨⟨_,rfl,s⟩,l⟩
theorem Vm {off:Bool} {s:By} {ep:Int} (o:s.B.length=64):(newest (bn off s ep ((newest s.B).l:Int)).2.1.B).l=(newest s.B).l:=by
 have p:=oN s.B;unfold bn;by_cases h:off=true
 ·rw[aj h]
 rw[ak h];by_cases a:lX ep ((newest s.B).l:Int)=true
 ·rw[aj a]
 rw[ak a];by_cases i:mX s ep ((newest s.B).l:Int)=true
 ·rw[aj i]
 rw[ak i];by_cases j:(newest s.B).n=4294967295
 ·rw[aj j]
 rw[ak j];have f:nN ep=true:=by
  unfold lX at a
  cases k:nN ep
  ·rw[k]at a;simp at a
  ·rfl
 have k:ep<=1073741824:=by
  unfold nN at f;simp at f;exact f.2
 have m:=sW (s:=s) (x:=aY s ep ((newest s.B).l:Int)) o rfl (by show(newest s.B).n+1 < _;omega) (by show ep.toNat < _;omega) (by show(((newest s.B).l:Int)).toNat < _;omega);by_cases e:(dw s (aY s ep ((newest s.B).l:Int))).2=true
 ·rw[aj e];show(newest (dw s (aY s ep ((newest s.B).l:Int))).1.B).l=_;rw[(m.1 e).1];show(((newest s.B).l:Int)).toNat=_;omega
 ·rw[ak e];show(newest (dw s (aY s ep ((newest s.B).l:Int))).1.B).l=_;rw[(m.2 (by simpa using e)).1]
section
variable {w0 w w':World} {r:fC} {x:No} {q:Ro} {lo i:Int} {m:Nat}
theorem bH.Yf (h:bH w0 w r x q lo i m) {p:By} {a:Bool} {o:Int} (t:RS w w' r.yb r.ce p (newest p.B) a o) (A:(newest p.B).l=(newest x.y.B).l):bH w0 w' r {x with y:=p,off:=a} q o i m:=by
 have s:ay [r.yb,r.ce] w w':=⟨t.x.os,t.x.tape,t.x.output,t.x.size,fun k C u=>t.x.block k C (fun e=>u (by simp[e])) (fun e=>u (by simp[e]))⟩;have z:∀b ∈ [r.yb,r.ce],w0.heap.size<=b:=fun b f=>by
  simp only[dI,eY,fA]at f;rcases f with rfl | rfl
  ·exact h.g0 _ r.rQ
  ·exact h.g0 _ r.DC
 have e:∀(j:Nat) (b:Nat),r.all[j]? = some b->j≠1->j≠2->w'.heap[b]? = w.heap[b]? := fun j b f D E=>t.x.block b (h.blk b (kW f)) (fC.df h.ds j 2 f rfl E) (fC.df h.ds j 1 f rfl D);refine⟨h.nd.kept (e 0 _ rfl om om),?_,h.sm,t.r,t.c,h.lf.trans (by rw[A]),t.len,h.tb.gZ (e 4 _ rfl om om) (e 5 _ rfl om om),h.vs,h.te.gZ (e 6 _ rfl om om) (e 7 _ rfl om om),h.cu,h.mi.gZ (e 8 _ rfl om om) (e 9 _ rfl om om),h.ru' s z,h.rl,h.rb,h.ds,h.g0,h.id,h.bl' s z⟩;unfold dJ;rw[e 3 _ rfl om om];exact h.ro
theorem bH.rs (h:bH w0 w r x q lo i m):RS w w r.yb r.ce x.y (newest x.y.B) x.off lo :=
 ⟨h.yb,h.ce,fC.df h.ds 1 2 rfl rfl om,h.len,⟨rfl,rfl,rfl,bJ _,fun _ _ _ _=>rfl⟩⟩
theorem bH.aeZ (h:bH w0 w r x q lo i m) {s:To} {c':Nat} (t:oq w' r.te r.tb r.th s c') (z:c' < 32) (c:bW r.te r.th w w'):bH w0 w' r {x with D:=s,cu:=c'} q lo i m/\ay r.all w w':=by
 have f:ay [r.te,r.th] w w':=⟨c.os,c.tape,c.output,c.size,fun k A u=>c.block k A (fun e=>u (by simp[e])) (fun e=>u (by simp[e]))⟩;have y:∀b ∈ [r.te,r.th],w0.heap.size<=b:=fun b a=>by
  simp only[dI,eY,fA]at a;rcases a with rfl | rfl
  ·exact h.g0 _ r.KU
  ·exact h.g0 _ r.afn
 have e:∀(j:Nat) (b:Nat),r.all[j]? = some b->j≠6->j≠7->w'.heap[b]? = w.heap[b]? := fun j b a B C=>c.block b (h.blk b (kW a)) (fC.df h.ds j 6 a rfl B) (fC.df h.ds j 7 a rfl C);obtain⟨lv,E,l,o,p⟩:=h.yb;refine⟨⟨h.nd.kept (e 0 _ rfl om om),?_,h.sm,⟨lv,?_,l,o,p⟩,?_,h.lf,h.len,h.tb.gZ (e 4 _ rfl om om) (e 5 _ rfl om om),h.vs,t,z,h.mi.gZ (e 8 _ rfl om om) (e 9 _ rfl om om),h.ru' f y,h.rl,h.rb,h.ds,h.g0,h.id,h.bl' f y⟩,f.mono (fun b a=>?_)⟩
 ·unfold dJ;rw[e 3 _ rfl om om];exact h.ro
 ·unfold fG;rw[e 2 _ rfl om om];exact E
 ·unfold og;rw[e 1 _ rfl om om];exact h.ce
 ·simp only[dI,eY,fA]at a;rcases a with rfl | rfl
  ·exact Or.inl r.KU
  ·exact Or.inl r.afn
theorem Ql (h:bH w0 w r x q lo i m) (f:m<=100000000) (a:Int) :
  Calls prog 118 #[.pointer (some (r.tb,0)),a] w fun e w'=>(∃v,e=.returned v)/\bH w0 w' r {x with T:=jF x.T a 32} q lo i (m+1)/\ay r.all w w':=by
 refine(Md r.tb r.tg r.tc x.low x.T a m w h.tb h.vs f).mono ?_;rintro e w' ⟨v,rfl,_,t,g⟩;exact⟨⟨_,rfl⟩,h.DJ t (II h.vs _ _) g,ay.one g r.MC⟩
theorem Vo (h:bH w0 w r x q lo i m) (a:i<=1000000) :
  Calls prog 119 #[.pointer (some (r.ro,0))] w fun e w'=>e=.returned (.bool x.ro.rings)/\bH w0 w' r {x with ro:=x.ro.tick} q.lC lo (i+1) m/\ay r.all w w':=by
 refine(TS r.ro q w h.ro h.sm.s0 (by have:=h.sm.s1;omega)).mono ?_;rintro e w' ⟨rfl,t,c⟩;exact⟨by rw[h.sm.tick.2],h.Pg t h.sm.tick.1 c,ay.one c r.vI⟩
theorem Vp (h:bH w0 w r x q lo i m) :
  Calls prog 120 #[.pointer (some (r.ro,0))] w fun e w'=>e=.returned (.tuple #[x.ro.jQ,.int .i64 (x.ro.oM:Int)])/\w'=w:=by
 have k:=h.sm.k;have e1:q.jQ=x.ro.jQ:=by unfold Ro.jQ;rw[h.sm.nx]
 have a:q.oM=x.ro.oM:=by unfold Ro.oM;rw[h.sm.nx]
 rw[<- e1,<- a];exact rC r.ro q w h.ro (by rw[h.sm.nd];exact k.n) (by rw[h.sm.ep];exact k.e0) (by rw[h.sm.ep];exact k.e1)
theorem Qm (h:bH w0 w r x q lo i m) (n:Int) :
  Calls prog 121 #[.pointer (some (r.ro,0)),n] w fun e w'=>(∃v,e=.returned v)/\bH w0 w' r {x with ro:=x.ro.claim n} (q.claim n) lo i m/\ay r.all w w':=by
 have k:=h.sm.k;refine(Ou r.ro q n w h.ro (by rw[h.sm.nd];exact k.n) (by rw[h.sm.ep];exact k.e0) (by rw[h.sm.ep];exact k.e1)).mono ?_;rintro e w' ⟨rfl,t,c⟩;exact⟨⟨_,rfl⟩,h.Pg t (h.sm.claim n) c,ay.one c r.vI⟩
theorem aau (h:bH w0 w r x q lo i m) (a : -900000000<=lo) (ep:Int) :
  Calls prog 36 #[.pointer (some (r.ce,0)),ep,x.life] w fun e w'=>e=.returned (.int .i64 (((bn x.off x.y ep x.life).1:Nat):Int))/\bH w0 w' r {x with y:=(bn x.off x.y ep x.life).2.1,off:=(bn x.off x.y ep x.life).2.2} q (lo - 20) i m/\ay r.all w w':=by
 refine(J8 h.rs rfl ep x.life a).mono ?_;rintro e w' ⟨rfl,t⟩;have j:(newest (bn x.off x.y ep x.life).2.1.B).l=(newest x.y.B).l:=by rw[h.lf];exact Vm h.len
 refine⟨rfl,h.Yf t j,?_⟩;exact⟨t.x.os,t.x.tape,t.x.output,t.x.size,fun k o f=>t.x.block k o (fun e=>f (e ▸ r.rQ)) (fun e=>f (e ▸ r.DC))⟩
theorem aav (h:bH w0 w r x q lo i m) (a:m<=1000000000) (c:Ce) :
  Calls prog 122 #[.pointer (some (r.tb,0)),bI c] w fun e w'=>(∃v,e=.returned v)/\bH w0 w' r {x with T:=(ku x.T c.pr c.ia c.ip c.fa c.fp c.po c.st c.un).2.2} q lo i (m+1)/\ay r.all w w':=by
 refine(aai r.tb r.tg r.tc x.low x.T c m w h.tb h.vs a).mono ?_;rintro e w' ⟨rfl,t,g⟩;exact⟨⟨_,rfl⟩,h.DJ t (h.vs.put _ _ _ _ _ _ _ _) g,ay.one g r.MC⟩
theorem Vq (h:bH w0 w r x q lo i m) :
  Calls prog 31 #[.slice (some (r.mg,0)) 32 r.mc] w fun e w'=>(∃v,e=.returned v/\w'.ownsRow w 115 8 v (jy x.mt 32).length (qp (jy x.mt 32)))/\Below w w w' :=
 wZ r.mg r.mc x.mt w h.mi.sl
theorem G8 (h:bH w0 w r x q lo i m) :
  Calls prog 123 #[.pointer (some (r.te,0))] w fun e w'=>(∃p cp,e=.returned (.slice p 8 cp)/\Jg w' p x.T (Fz x.T x.D x.cu)/\FrP w p)/\bH w0 w' r {x with D:=jD x.T x.D (Fz x.T x.D x.cu),cu:=nxC x.T x.D x.cu} q lo i m/\ay r.all w w':=by
 refine(Vd r.te r.tb r.th r.tg r.tc x.cu x.low x.T x.D w h.tb h.te h.cu ⟨fC.df h.ds 4 6 rfl rfl om,fC.df h.ds 4 7 rfl rfl om,fC.df h.ds 5 6 rfl rfl om,fC.df h.ds 5 7 rfl rfl om⟩).mono ?_;rintro e w' ⟨L,c',p,cp,nx,rfl,ro,a,_,te,g⟩;obtain⟨rfl,rfl⟩:=nx.one (uM x.T x.D x.cu);obtain⟨n,k⟩:=h.aeZ te nx.cur g;exact⟨⟨p,cp,rfl,ro,a⟩,n,k⟩
end
end Go.Proofs.YtnogmjekhjldcaaGreatDoor
