/-
  What the claimed theorem reaches, part Q25.
-/
import Derived.Test.YtnogmjekhjldcaaGreatDoorQ24
namespace Go.Proofs.YtnogmjekhjldcaaGreatDoor
open Go.RowKit Go.Proofs.Tryz
set_option maxRecDepth 100000
set_option maxHeartbeats 8000000
theorem Vh (f a:Int) (w:World) :
  Calls prog 69 #[f,a] w fun e w'=>e=.returned (.tuple #[.int .i64 (kL f a),.int .i64 (kX f a)])/\w'=w:=by
 by_cases h:(f=1\/f=2)/\0<=a/\a<=15
 ·by_cases l:f=1
  ·subst l;have i:kL 1 a=2:=by unfold kL;rw[aj h];rfl
   have j:kX 1 a=0:=by unfold kX;rw[aj h];rfl
   rw[i,j];obtain⟨_,m,o⟩:=h;clear i j;go_enter func69,ntmps69;go_wp2_with fail;go_ret2;exact⟨rfl,rfl⟩
  ·obtain rfl:f=2:=by omega
   by_cases k:a=1
   ·subst k;have i:kL 2 1=1:=by decide
    have j:kX 2 1=0:=by decide
    rw[i,j];clear i j h l;go_enter func69,ntmps69;go_wp2_with fail;go_ret2;exact⟨rfl,rfl⟩
   ·have i:kL 2 a=0:=by unfold kL;rw[aj h,ak om,ak k]
    have j:kX 2 a=9:=by unfold kX;rw[aj h,ak om,ak k]
    rw[i,j];obtain⟨_,m,o⟩:=h;have q:(a==1)=false:=dG.2 k;clear i j l k;go_enter func69,ntmps69;go_wp2_with fail;go_ret2;exact⟨rfl,rfl⟩
 ·have i:kL f a=0:=by unfold kL;rw[ak h]
  have j:kX f a=2:=by unfold kX;rw[ak h]
  rw[i,j];have p:((f != 1)=true/\(f != 2)=true)\/((f=1\/f=2)/\(a < 0\/15 < a)):=by
   simp only[qY,ne_eq];omega
  clear i j h;rcases p with⟨l,k⟩ | ⟨rfl | rfl,h | h⟩;all_goals
   go_enter func69,ntmps69;go_wp2_with fail;go_ret2;exact⟨rfl,rfl⟩
theorem Bv (a k:Int) (b:Bool) (f:hasB a k=b) (w:World):Calls prog 168 #[a,k] w fun e w'=>e=.returned (.bool b)/\w'=w:=by
 subst f;go_enter func168,ntmps168;go_wp2_with fail;go_ret;exact⟨rfl,rfl⟩
theorem Qi (st a:Int) (ou f h i b1:Bool) (w:World) (k:hasB a 8=f) (l:hasB a 4=h) (m:hasB a 2=i) (o:hasB a 1=b1) (r:Int) (g:Bool)
  (hr:(f=true/\r=0/\g=true)\/(f=false/\h=true/\r=3/\g=false)\/(f=false/\h=false/\(st==1)=true/\ou=false/\b1=true/\i=true/\r=2/\g=false)
   \/ (f=false/\h=false/\(st==1)=true/\ou=false/\b1=true/\i=false/\r=st/\g=false)\/(f=false/\h=false/\(st==1)=true/\ou=false/\b1=false/\r=st/\g=false)
   \/ (f=false/\h=false/\(st==1)=true/\ou=true/\r=st/\g=false)\/(f=false/\h=false/\(st==1)=false/\r=st/\g=false)) :
  Calls prog 124 #[.int .i64 2,st,a,.bool ou] w fun e w'=>e=.returned (.tuple #[r,.bool g])/\w'=w:=by
 have p:Hid (hasB a 8=f):=k;have q:Hid (hasB a 4=h):=l;have s:Hid (hasB a 2=i):=m;have u:Hid (hasB a 1=b1):=o;clear k l m o;rcases hr with⟨rfl,rfl,rfl⟩ | ⟨rfl,rfl,rfl,rfl⟩ | ⟨rfl,rfl,hs,rfl,rfl,rfl,rfl,rfl⟩ | ⟨rfl,rfl,hs,rfl,rfl,rfl,rfl,rfl⟩ | ⟨rfl,rfl,hs,rfl,rfl,rfl,rfl⟩ | ⟨rfl,rfl,hs,rfl,rfl,rfl⟩ | ⟨rfl,rfl,hs,rfl,rfl⟩;all_goals (try cases b1) <;> (try cases i)
 all_goals
  go_enter func124,ntmps124;go_wp2_with (first | (go_at_call_of 168 (Value.int IntKind.i64 8);refine(Bv a 8 _ p _).mono ?_;rintro e j ⟨rfl,rfl⟩) | (go_at_call_of 168 (Value.int IntKind.i64 4);refine(Bv a 4 _ q _).mono ?_;rintro e j ⟨rfl,rfl⟩) | (go_at_call_of 168 (Value.int IntKind.i64 1);refine(Bv a 1 _ u _).mono ?_;rintro e j ⟨rfl,rfl⟩) | (go_at_call_of 168 (Value.int IntKind.i64 2);refine(Bv a 2 _ s _).mono ?_;rintro e j ⟨rfl,rfl⟩))
  all_goals go_ret2
  all_goals exact⟨rfl,rfl⟩
theorem Qj (f st a:Int) (ou:Bool) (w:World) :
  Calls prog 124 #[f,st,a,.bool ou] w fun e w'=>e=.returned (.tuple #[.int .i64 (xR f st a ou),.bool (wO f a)])/\w'=w:=by
 by_cases h:f=2
 ·subst h;refine Qi st a ou _ _ _ _ w rfl rfl rfl rfl _ _ ?_;unfold xR wO;rw[aj rfl,ag8]
  cases m:hasB a 8 <;> cases o:hasB a 4 <;> cases p:hasB a 2 <;> cases k:hasB a 1 <;> cases ou <;> by_cases l:st=1 <;> simp[l]
 ·have i:xR f st a ou=st:=by unfold xR;rw[ak h]
  have j:wO f a=false:=by unfold wO;rw[gQ h];rfl
  rw[i,j];have k:(f != 2)=true:=qY.2 h;clear h i j;go_enter func124,ntmps124;go_wp2_with fail;go_ret2;exact⟨rfl,rfl⟩
theorem wY (a st:Int) (w:World) :
  Calls prog 71 #[a,st] w fun e w'=>e=.returned (.int .i64 (stay a st))/\w'=w:=by
 obtain⟨r,hr⟩:∃r,stay a st=r:=⟨_,rfl⟩;rw[hr];have f:(a=1/\r=60)\/((a==1)=false/\(a != 2)=true/\r=0)\/(a=2/\st=1/\r=10)\/(a=2/\st=2/\r=100)\/(a=2/\st=3/\r=5)\/(a=2/\(st==1)=false/\(st==2)=false/\(st==3)=false/\r=0):=by
  subst hr;unfold stay;simp only[dG,qY,ne_eq];split
  ·exact .inl ⟨by assumption,rfl⟩
  split
  ·split
   ·omega
   split
   ·omega
   split <;> omega
  ·omega
 clear hr;rcases f with⟨rfl,rfl⟩ | ⟨h1,h2,rfl⟩ | ⟨rfl,rfl,rfl⟩ | ⟨rfl,rfl,rfl⟩ | ⟨rfl,rfl,rfl⟩ | ⟨rfl,h1,h2,h3,rfl⟩;all_goals
  go_enter func71,ntmps71;go_wp2_with fail;go_ret;exact⟨rfl,rfl⟩
theorem fC.df {r:fC} (d:r.all.Nodup) (i j:Nat) {a b:Nat} (h:r.all[i]? = some a) (k:r.all[j]? = some b) (f:i≠j):a≠b:=fun e=>by
 subst e;have l:i < r.all.length:=(List.getElem?_eq_some_iff.1 h).1;exact f ((List.getElem?_inj l d).1 (h.trans k.symm))
section
variable {w0 w w':World} {r:fC} {x:No} {q:Ro} {lo i:Int} {m:Nat}
theorem bH.bl' (h:bH w0 w r x q lo i m) {l:List Nat} (c:ay l w w') (a:∀b ∈ l,w0.heap.size<=b):Below w0 w0 w' :=
 ⟨c.os.trans h.bl.os,c.tape.trans h.bl.tape,c.output.trans h.bl.output,dL h.bl.size c.size,fun k e=>(c.block k (by have:=h.bl.size;omega) (fun f=>by have:=a k f;omega)).trans (h.bl.block k e)⟩
theorem bH.ru' (h:bH w0 w r x q lo i m) {l:List Nat} (c:ay l w w') (j:∀b ∈ l,w0.heap.size<=b):oQ w' r.rp x.ru :=
 h.ru.kept (fun e a f=>c.block _ (by have:=h.rb e a f;have:=h.bl.size;omega) (fun k=>by have:=j _ k;have:=h.rb e a f;omega))
theorem bH.DJ (h:bH w0 w r x q lo i m) {f:Tb} {m':Nat} (t:RTab w' r.tb r.tg r.tc x.low f) (v:gI f m') (c:aC r.tg w w'):bH w0 w' r {x with T:=f} q lo i m':=by
 have p:ay [r.tg] w w':=ay.one c sM;have s:∀b ∈ [r.tg],w0.heap.size<=b:=fun b a=>by rw[jA.1 a];exact h.g0 _ r.MC
 have e:∀(j:Nat) (b:Nat),r.all[j]? = some b->j≠5->w'.heap[b]? = w.heap[b]? := fun j b a u=>c.block b (h.blk b (kW a)) (fC.df h.ds j 5 a rfl u);obtain⟨lv,y,k,l,o⟩:=h.yb;refine⟨h.nd.kept (e 0 _ rfl om),?_,h.sm,⟨lv,?_,k,l,o⟩,?_,h.lf,h.len,t,v,h.te.gZ (e 6 _ rfl om) (e 7 _ rfl om),h.cu,h.mi.gZ (e 8 _ rfl om) (e 9 _ rfl om),h.ru' p s,h.rl,h.rb,h.ds,h.g0,h.id,h.bl' p s⟩
 ·unfold dJ;rw[e 3 _ rfl om];exact h.ro
 ·unfold fG;rw[e 2 _ rfl om];exact y
 ·unfold og;rw[e 1 _ rfl om];exact h.ce
theorem adu (h:bH w0 w r x q lo i m) (a:m<=1000000000) (j st un:Int) :
  Calls prog 126 #[.pointer (some (r.tb,0)),j,st,un] w fun e w'=>(∃v,e=.returned v)/\bH w0 w' r {x with T:=nO x.T j st un} q lo i (m+1)/\ay r.all w w':=by
 refine(Zf r.tb r.tg r.tc x.low x.T j st un m w h.tb h.vs a).mono ?_;rintro e w' ⟨rfl,t,g⟩;exact⟨⟨_,rfl⟩,h.DJ t (h.vs.set _ _ _) g,ay.one g r.MC⟩
theorem aaq (h:bH w0 w r x q lo i m) (a:m<=1000000000) (j:Int) :
  Calls prog 125 #[.pointer (some (r.tb,0)),j] w fun e w'=>(∃v,e=.returned v)/\bH w0 w' r {x with T:=iZ x.T j} q lo i (m+1)/\ay r.all w w':=by
 refine(GX r.tb r.tg r.tc x.low x.T j m w h.tb h.vs a).mono ?_;rintro e w' ⟨rfl,t,g⟩;exact⟨⟨_,rfl⟩,h.DJ t (h.vs.drop _) g,ay.one g r.MC⟩
theorem aar (h:bH w0 w r x q lo i m) (a f j k l:Int) :
  Calls prog 66 #[.pointer (some (r.tb,0)),a,.agg #[f,j],.agg #[k,l]] w fun e w'=>e=.returned (.int .i64 (jK (fst x.T (iQ a f j k l))))/\Below w w w' :=
 zn r.tb r.tg r.tc x.low x.T a f j k l w h.tb
theorem aas (h:bH w0 w r x q lo i m) (a f j k:Int) :
  Calls prog 72 #[.pointer (some (r.tb,0)),a,f,.agg #[j,k]] w fun e w'=>e=.returned (.int .i64 (jK (fst x.T (eH a f j k))))/\Below w w w' :=
 zo r.tb r.tg r.tc x.low x.T a f j k w h.tb
end
section
variable {w:World} {Q:Nat} {t:Nf} {cv:Value}
section
variable {w0 w w':World} {r:fC} {x:No} {q:Ro} {lo i:Int} {m:Nat}
def fC.pre (r:fC):List Nat:=[r.nd,r.ce,r.yb,r.ro,r.tb,r.tg,r.te,r.th,r.mi]
theorem fC.uP (r:fC):r.all=r.pre++[r.mg]:=rfl
theorem bH.Pg (h:bH w0 w r x q lo i m) {a q':Ro} {p:Int} (t:dJ w' r.ro q') (s:Fj a q' p) (c:aC r.ro w w'):bH w0 w' r {x with ro:=a} q' lo p m:=by
 have u:ay [r.ro] w w':=ay.one c sM;have y:∀b ∈ [r.ro],w0.heap.size<=b:=fun b f=>by rw[jA.1 f];exact h.g0 _ r.vI
 have e:∀(j:Nat) (b:Nat),r.all[j]? = some b->j≠3->w'.heap[b]? = w.heap[b]? := fun j b f z=>c.block b (h.blk b (kW f)) (fC.df h.ds j 3 f rfl z);obtain⟨lv,A,k,l,o⟩:=h.yb;refine⟨h.nd.kept (e 0 _ rfl om),t,s,⟨lv,?_,k,l,o⟩,?_,h.lf,h.len,h.tb.gZ (e 4 _ rfl om) (e 5 _ rfl om),h.vs,h.te.gZ (e 6 _ rfl om) (e 7 _ rfl om),h.cu,h.mi.gZ (e 8 _ rfl om) (e 9 _ rfl om),h.ru' u y,h.rl,h.rb,h.ds,h.g0,h.id,h.bl' u y⟩
 ·unfold fG;rw[e 2 _ rfl om];exact A
 ·unfold og;rw[e 1 _ rfl om];exact h.ce
theorem bH.ae0 (h:bH w0 w r x q lo i m) {life:Int} {E:Tb} {p o:Nat} (t:kN w' r.mi p o life E) (s:p=r.mg\/w.heap.size<=p) (c:bW r.mi r.mg w w'):bH w0 w' {r with mg:=p,mc:=o} {x with ml:=life,mt:=E} q lo i m/\ay r.all w w':=by
 have u:ay [r.mi,r.mg] w w':=⟨c.os,c.tape,c.output,c.size,fun k H F=>c.block k H (fun e=>F (by simp[e])) (fun e=>F (by simp[e]))⟩;have G:∀b ∈ [r.mi,r.mg],w0.heap.size<=b:=fun b l=>by
  simp only[dI,eY,fA]at l;rcases l with rfl | rfl
  ·exact h.g0 _ r.FC
  ·exact h.g0 _ r.Qd
 have e:∀(j:Nat) (b:Nat),r.all[j]? = some b->j≠8->j≠9->w'.heap[b]? = w.heap[b]? := fun j b l I J=>c.block b (h.blk b (kW l)) (fC.df h.ds j 8 l rfl I) (fC.df h.ds j 9 l rfl J);obtain⟨lv,K,y,z,A⟩:=h.yb;have B:({r with mg:=p,mc:=o}:fC).all.Nodup:=by
  have d:=h.ds;rw[fC.uP]at d ⊢;show(r.pre++[p]).Nodup;rcases s with rfl | s
  ·exact d
  ·rw[List.nodup_append]at d ⊢;refine⟨d.1,by simp,fun a L b l=>?_⟩;rw[jA.1 l];have:a < w.heap.size:=h.blk a (by rw[fC.uP];exact TD _ L);omega
 have C:∀b ∈ ({r with mg:=p,mc:=o}:fC).all,w0.heap.size<=b:=fun b l=>by
  rw[fC.uP]at l;have D:b ∈ r.pre++[p]:=l;rcases lU.1 D with l | l
  ·exact h.g0 b (by rw[fC.uP];exact TD _ l)
  ·rw[jA.1 l];rcases s with rfl | s
   ·exact h.g0 _ r.Qd
   ·have:=h.bl.size;omega
 have f:=h.nd.kept (w':=w') (e 0 _ rfl om om);refine⟨⟨⟨f.b0,f.b1,f.b2,f.b3,f.b4,f.b5,f.b6,f.b7,f.fr⟩,?_,h.sm,⟨lv,?_,y,z,A⟩,?_,h.lf,h.len,h.tb.gZ (e 4 _ rfl om om) (e 5 _ rfl om om),h.vs,h.te.gZ (e 6 _ rfl om om) (e 7 _ rfl om om),h.cu,t,h.ru' u G,h.rl,h.rb,B,C,h.id,h.bl' u G⟩,u.mono (fun b l=>?_)⟩
 ·unfold dJ;rw[e 3 _ rfl om om];exact h.ro
 ·unfold fG;rw[e 2 _ rfl om om];exact K
 ·unfold og;rw[e 1 _ rfl om om];exact h.ce
 ·simp only[dI,eY,fA]at l;rcases l with rfl | rfl
  ·exact Or.inl r.FC
  ·exact Or.inl r.Qd
def afo (r:fC) (n a:Nat):Prop:=a=r.mg\/n<=a
def aep (w0 w':World) (r:fC) (x:No) (lo i:Int) (m n:Nat):Prop:=∃e a q',afo r n e/\bH w0 w' {r with mg:=e,mc:=a} x q' lo i m
theorem Vj (h:bH w0 w r x q lo i m) (li:Int) (l:List Tc) (p:Option Addr) (cap:Nat) (R:vJ w p l) (j:l≠[]->∀b o,p=some ⟨b,o,none⟩->b≠r.mi/\b≠r.mg) (s:l.length<=100000) :
  Calls prog 64 #[.pointer (some (r.mi,0)),li,.slice p l.length cap] w fun e w'=>e=.returned (.int .i64 (fP x.ml li l:Nat))/\∃g' a,bH w0 w' {r with mg:=g',mc:=a} {x with ml:=bG x.ml li l,mt:=fH x.ml li x.mt l} q lo i m/\ay r.all w w'/\afo r w g':=by
 refine(Va r.mi r.mg r.mc li x.ml x.mt l p cap w h.mi R j s).mono ?_;rintro e w' ⟨rfl,⟨g',a,t,f⟩,c⟩;obtain⟨n,k⟩:=h.ae0 t f c;exact⟨rfl,g',a,n,k,f⟩
theorem Vk (h:bH w0 w r x q lo i m) (e:Int) :
  Calls prog 65 #[.pointer (some (r.ro,0)),e] w fun v w'=>(∃u,v=.returned u)/\bH w0 w' r {x with ro:=x.ro.hear e} (q.mW e) lo i m/\aC r.ro w w':=by
 refine jM (TU r.ro q e w h.ro) fun w' ⟨t,c⟩=>?_;exact⟨⟨_,rfl⟩,h.Pg t (h.sm.hear e).1 c,c⟩
end
def uQ (w:World) (Q:Nat) (t:Nf) (a:Value):Prop:=w.heap[Q]? = some (.cells #[t.fr,t.li,t.ep,.bool t.cl,a] 106 (0,0))
theorem uQ.lt (h:uQ w Q t cv):Q < w.heap.size:=by
 rcases dX Q w with a | a
 ·exact a
 ·unfold uQ at h;rw[eP a]at h;cases h
theorem uQ.below {w':World} (h:uQ w Q t cv) (a:Below w w w'):uQ w' Q t cv:=by unfold uQ;rw[a.block Q h.lt];exact h
theorem uQ.gU {w':World} {l:List Nat} (h:uQ w Q t cv) (a:ay l w w') (e:¬Q ∈ l):uQ w' Q t cv:=by unfold uQ;rw[a.block Q h.lt e];exact h
theorem uQ.c (h:uQ w Q t cv) (i:Nat):w.cell? (Q,i)=(#[t.fr,t.li,t.ep,.bool t.cl,cv]:Array Value)[i]? := aP w _ _ _ _ _ h
theorem uQ.new (w:World) (t:Nf) (cv:Value):uQ (w.alloc (.cells #[t.fr,t.li,t.ep,.bool t.cl,cv] 106)) w t cv:=dh w _
theorem uQ.b (h:uQ w Q t cv):NfB w Q t cv:=⟨h.c 0,h.c 1,h.c 2,h.c 3,h.c 4⟩
theorem aat {w0:World} {r:fC} {x:No} {q:Ro} {lo i:Int} {m:Nat} (h:bH w0 w r x q lo i m) (t:Nf) (p:Option Addr) (cap:Nat) (R:vJ w p t.cs) (hp:t.cs≠[]->∀b o,p=some ⟨b,o,none⟩->b≠r.mi/\b≠r.mg) (hl:t.cs.length<=100000) :
  Calls prog 47 #[.pointer (some (r.nd,0)),.agg #[t.fr,t.li,t.ep,.bool t.cl,.slice p t.cs.length cap]] w fun e w'=>e=.returned (.int .i64 (x.IZ t:Nat))/\aep w0 w' r (x.hrd t) lo i m w.heap.size/\ay r.all w w':=by
 have P:Hid (bH w0 w r x q lo i m):=h;have HR:Hid (vJ w p t.cs):=R;have HP:Hid ((t.cs≠[]->∀b o,p=some ⟨b,o,none⟩->b≠r.mi/\b≠r.mg)/\t.cs.length<=100000):=⟨hp,hl⟩;have S:=h.id;have hw:IntKind.i64.wrap (1 - x.id)=1 - x.id:=by rw[iI];omega
 have b0:=h.nd.b0;have k0:=h.blk _ r.tK;clear h R hp hl;go_enter func47,ntmps47;go_wp2_with fail;have I:Hid (Below w w (w.alloc (.cells #[t.fr,t.li,t.ep,.bool t.cl,.slice p t.cs.length cap] 106))):=aB _ _;have J:Hid (uQ (w.alloc (.cells #[t.fr,t.li,t.ep,.bool t.cl,.slice p t.cs.length cap] 106)) w t (.slice p t.cs.length cap)):=uQ.new w t _;generalize w.alloc (.cells #[t.fr,t.li,t.ep,.bool t.cl,.slice p t.cs.length cap] 106)=w1 at *;generalize T:w.heap.size=Q at J ⊢;have k:Hid (¬Q ∈ r.all/\w.heap.size<=Q):=⟨fun hm=>by have:=P.blk _ hm;omega,by omega⟩;have U:Hid (bH w0 w1 r x q lo i m):=P.below I;clear T b0 k0 S;obtain⟨V,K,W,E,L⟩:=J.b;have n1:=U.nd.b0;by_cases M:t.fr=1 - x.id/\0<=t.ep/\t.ep<=1073741824
 ·obtain⟨s,e1,e2⟩:=M;have HB:Hid (t.fr=1 - x.id/\0<=t.ep/\t.ep<=1073741824):=⟨s,e1,e2⟩;have b0:(t.fr != 1 - x.id)=false:=by rw[s];simp
  have b1:¬t.ep < 0:=by omega
  have b2:¬1073741824 < t.ep:=by omega
  clear s e1 e2;go_quiet (fail)
  have z:Hid (Below w1 w1 (w1.drewN nq)):=⟨rfl,rfl,rfl,bJ _,fun _ _=>rfl⟩;generalize w1.drewN nq=w2 at *;have A:Hid (Below w w w2):=t2 I z;have X:Hid (uQ w2 Q t (.slice p t.cs.length cap)):=J.below z;have N:Hid (bH w0 w2 r x q lo i m):=P.below A;have R2:Hid (vJ w2 p t.cs):=HR.below A;clear V K W E L n1 z I J U b0 b1 b2 hw;obtain⟨V,K,W,E,L⟩:=X.b
  cases f:t.cl
  ·have j:Hid (x.IZ t=fP x.ml t.li t.cs):=by show _=_;unfold No.IZ;rw[aj HB.out,f];rfl
   rw[f]at E;clear f;go_wp2_with fail;have B:w2.drew.cell? (r.nd,6)=some (.pointer (some (r.mi,0)))/\w2.drew.cell? (Q,1)=t.li/\w2.drew.cell? (Q,4)=some (.slice p t.cs.length cap):=⟨N.nd.b6,K,L⟩;have z:Hid (bH w0 w2.drew r x q lo i m/\vJ w2.drew p t.cs):=⟨N.below bD,R2.below bD⟩;clear V K W E L;go_region_held3 (fun w'=>w'.cell? (r.nd,6)=some (.pointer (some (r.mi,0)))/\w'.cell? (Q,1)=t.li/\w'.cell? (Q,4)=some (.slice p t.cs.length cap))
    (first | assumption | exact⟨O.nd.b6,F.keeps k.1 B.2.1,F.keeps k.1 B.2.2⟩)
    (first | (go_at_call 64;refine(Vj z.1 t.li t.cs p cap z.2 HP.1 HP.2).mono ?_;rintro e u ⟨rfl,C,a,n3,k3,g3⟩;have G3:Hid (afo r w C):=(by rcases g3 with e | e;exact Or.inl e;exact Or.inr (dL A.size e));have O:Hid (bH w0 u {r with mg:=C,mc:=a} {x with ml:=bG x.ml t.li t.cs,mt:=fH x.ml t.li x.mt t.cs} q lo i m):=n3;have F:Hid (ay r.all w2.drew u):=k3;clear n3 k3 g3))
   have Z3:Hid (uQ u Q t (.slice p t.cs.length cap)):=(X.below bD).gU F k.1;have Y:Hid (ay r.all w u):=(ay.of (t2 A bD)).trans F;clear B F X N A R2 z;by_cases y:fP x.ml t.li t.cs=0
   ·have G:Hid (x.IZ t=0):=by show _=_;rw[j.out,y]
    have l:Hid (x.hrd t={x with ml:=bG x.ml t.li t.cs,mt:=fH x.ml t.li x.mt t.cs,ro:=x.ro.hear t.ep}):=by show _=_;unfold No.hrd;rw[aj G.out]
    rw[y];clear y;go_wp2_with fail;have B:u.drew.cell? (r.nd,3)=some (.pointer (some (r.ro,0)))/\u.drew.cell? (Q,2)=t.ep:=⟨O.nd.b3,Z3.b.c2⟩;have D3:Hid (bH w0 u.drew {r with mg:=C,mc:=a} {x with ml:=bG x.ml t.li t.cs,mt:=fH x.ml t.li x.mt t.cs} q lo i m):=O.below bD;have Z:Hid (Q≠r.ro):=fun e=>k.1 (e ▸ r.vI);go_region_held3 (fun w'=>w'.cell? (r.nd,3)=some (.pointer (some (r.ro,0)))/\w'.cell? (Q,2)=t.ep)
     (first | assumption | exact⟨N4.nd.b3,K4.keeps Z B.2⟩)
     (first | (go_at_call 65;refine(Vk D3 t.ep).mono ?_;rintro e w4 ⟨⟨v4,rfl⟩,n4,k4⟩;have N4:Hid (bH w0 w4 {r with mg:=C,mc:=a} {x with ml:=bG x.ml t.li t.cs,mt:=fH x.ml t.li x.mt t.cs,ro:=x.ro.hear t.ep} (q.mW t.ep) lo i m):=n4;have K4:Hid (aC r.ro u.drew w4):=k4;clear n4 k4))
    have X4:Hid (ay r.all w w4):=(Y.trans (ay.of bD)).trans (ay.one K4 r.vI);clear B K4 Y;go_wp2_with fail;go_ret;exact⟨by rw[G.out];rfl,⟨C,a,q.mW t.ep,G3,by rw[l.out];exact N4⟩,X4⟩
   ·have l:Hid (x.hrd t={x with ml:=bG x.ml t.li t.cs,mt:=fH x.ml t.li x.mt t.cs}):=by
     show _=_;unfold No.hrd bG fH;rw[ak (by rw[j.out];exact y),ak y,ak y]
    obtain⟨e1,H⟩:∃e1,fP x.ml t.li t.cs=e1:=⟨_,rfl⟩;rw[H]at j y ⊢;have Zg:((e1:Int)==0)=false:=dG.2 om;clear y H;go_wp2_with fail;go_ret;exact⟨by rw[j.out];rfl,⟨C,a,q,G3,by rw[l.out];exact O⟩,Y⟩
  ·have j:Hid (x.IZ t=3):=by show _=_;unfold No.IZ;rw[aj HB.out,f];rfl
   have l:Hid (x.hrd t=x):=by show _=_;unfold No.hrd;rw[ak (by rw[j.out];decide)]
   rw[f]at E;clear f;go_wp2_with fail;go_ret;exact⟨by rw[j.out];rfl,⟨r.mg,r.mc,q,Or.inl rfl,by rw[l.out];exact N⟩,ay.of A.out⟩
 ·have j:Hid (x.IZ t=2):=by show _=_;unfold No.IZ;rw[ak M]
  have l:Hid (x.hrd t=x):=by show _=_;unfold No.hrd;rw[ak (by rw[j.out];decide)]
  have D:Hid (∀n,bH w0 (w1.drewN n) r x q lo i m/\ay r.all w (w1.drewN n)):=fun n=>⟨U.below ⟨rfl,rfl,rfl,bJ _,fun _ _=>rfl⟩,ay.of (t2 I ⟨rfl,rfl,rfl,bJ _,fun _ _=>rfl⟩)⟩;by_cases s:t.fr=1 - x.id
  ·have b0:(t.fr != 1 - x.id)=false:=by rw[s];simp
   have HQ:Hid (t.ep < 0\/1073741824 < t.ep):=(by omega:t.ep < 0\/1073741824 < t.ep);clear s M;by_cases b1:t.ep < 0
   ·go_quiet (fail)
    go_wp2_with fail;go_ret;exact⟨by rw[j.out];rfl,⟨r.mg,r.mc,q,Or.inl rfl,by rw[l.out];exact(D _).1⟩,(D _).2⟩
   ·have b2:1073741824 < t.ep:=by have:=HQ.out;omega
    go_quiet (fail)
    go_wp2_with fail;go_ret;exact⟨by rw[j.out];rfl,⟨r.mg,r.mc,q,Or.inl rfl,by rw[l.out];exact(D _).1⟩,(D _).2⟩
  ·have b0:(t.fr != 1 - x.id)=true:=by simp[s]
   clear s M;go_quiet (fail)
   go_wp2_with fail;go_ret;exact⟨by rw[j.out];rfl,⟨r.mg,r.mc,q,Or.inl rfl,by rw[l.out];exact(D _).1⟩,(D _).2⟩
end
section
variable {w0 w:World} {r:fC} {x:No} {q:Ro} {lo i:Int} {m:Nat}
theorem bH.fresh {u u':World} {y:No} {q':Ro} {e f:Int} {m' Q:Nat} (H:bH w0 w r x q lo i m) (h:bH w0 u r y q' e f m') (c:ay r.all w u) (g:aC Q u u') (hr:w.heap.size<=Q):bH w0 u' r y q' e f m'/\ay r.all w u':=by
 have j:ay [Q] u u':=ay.one g sM;refine⟨h.kept j (fun b a k=>?_) (fun b a=>?_),?_⟩
 ·have:=H.blk b a;rw[jA.1 k]at this;omega
 ·rw[jA.1 a];have:=H.bl.size;omega
 ·have l:ay (r.all++[Q]) w u:=c.mono (fun b a=>Or.inl (TD _ a));have o:ay (r.all++[Q]) u u':=j.mono (fun b a=>Or.inl (abY _ a));exact(l.trans o).mono (fun b a=>by rcases lU.1 a with p | p;exact Or.inl p;rw[jA.1 p];exact Or.inr hr)
theorem MG (h:bH w0 w r x q lo i m) (E:m<=1000000000) (h0:0<=x.now) (h1:x.now<=1000000000) (j:Nat) (z:j < 32) (f:Int) (ou:Bool) :
  Calls prog 67 #[.pointer (some (r.nd,0)),j,f,.bool ou] w fun e w'=>e=.returned (bI (x.T j))/\bH w0 w' r (x.mP j f ou) q lo i (m+1)/\ay r.all w w':=by
 have F:Hid (bH w0 w r x q lo i m):=h;have O:Hid (0<=x.now/\x.now<=1000000000/\m<=1000000000):=⟨h0,h1,E⟩;have HJ:Hid (j < 32):=z;obtain⟨c,G⟩:∃c,x.T j=c:=⟨_,rfl⟩;have B:Hid (x.T j=c):=G;have b4:=h.nd.b4;have l1:=h.tb.c1;have P:=h.tb.sl.at' (i:=j) (k:=2) z om;have Q:=h.tb.sl.at' (i:=j) (k:=3) z om;have R:=h.tb.sl.at' (i:=j) (k:=4) z om;have S:=h.tb.sl.at' (i:=j) (k:=5) z om;have U:=h.tb.sl.at' (i:=j) (k:=6) z om;have V:=h.tb.sl.at' (i:=j) (k:=7) z om;have W:=h.tb.sl.at' (i:=j) (k:=8) z om;have X:=h.tb.sl.at' (i:=j) (k:=9) z om;rw[G]at P Q R S U V W X;simp only[Ce.get]at P Q R S U V W X;have Y:Hid (wO (x.T j).pr f=wO c.pr f/\x.nst j f ou=xR c.pr c.st f ou):=by rw[G];exact⟨rfl,by unfold No.nst;rw[G]⟩
 have k0:=h.blk _ r.tK;have k1:=h.blk _ r.DI;have k2:=h.blk _ r.MC;have i0:(0:Int)<=(j:Int):=by omega
 have i1:(j:Int) < 32:=by omega
 clear h h0 h1 E z G;go_enter func67,ntmps67;go_wp2_with fail;have Z3:Hid (kR ((w.alloc (.cells #[.int .i64 0,.int .i64 0,.int .i64 0,.int .i64 0,.int .i64 0,.int .i64 0,.int .i64 0,.int .i64 0] 115)).alloc (.cells #[c.pr,c.ia,c.ip,c.fa,c.fp,c.po,c.st,c.un] 115)) w vG):=(kR.zero w).below (aB _ _);have Z:Hid (kR ((w.alloc (.cells #[.int .i64 0,.int .i64 0,.int .i64 0,.int .i64 0,.int .i64 0,.int .i64 0,.int .i64 0,.int .i64 0] 115)).alloc (.cells #[c.pr,c.ia,c.ip,c.fa,c.fp,c.po,c.st,c.un] 115)) (w.heap.size+1) c):=by
  have:=kR.new (w.alloc (.cells #[.int .i64 0,.int .i64 0,.int .i64 0,.int .i64 0,.int .i64 0,.int .i64 0,.int .i64 0,.int .i64 0] 115)) c;show kR _ _ _;simpa using this
 have B3:Hid (Below w w ((w.alloc (.cells #[.int .i64 0,.int .i64 0,.int .i64 0,.int .i64 0,.int .i64 0,.int .i64 0,.int .i64 0,.int .i64 0] 115)).alloc (.cells #[c.pr,c.ia,c.ip,c.fa,c.fp,c.po,c.st,c.un] 115))):=t2 (aB _ _) (aB _ _);generalize ((w.alloc (.cells #[.int .i64 0,.int .i64 0,.int .i64 0,.int .i64 0,.int .i64 0,.int .i64 0,.int .i64 0,.int .i64 0] 115)).alloc (.cells #[c.pr,c.ia,c.ip,c.fa,c.fp,c.po,c.st,c.un] 115))=w3 at *;clear b4 l1 P Q R S U V W X k0 k1 k2;have H:Hid (bH w0 w3 r x q lo i m):=F.below B3;refine(Qj c.pr c.st f ou w3).mono ?_;rintro e w4 ⟨rfl,hw⟩;obtain rfl:=hw.symm;clear hw;obtain⟨st',l⟩:∃st',xR c.pr c.st f ou=st':=⟨_,rfl⟩;have Zg:Hid (x.nst j f ou=st'):=Y.2.trans l;have C:Hid (¬(w.heap.size+1) ∈ r.all):=fun E=>by have:=F.blk _ E;omega
 have I:Hid (¬w.heap.size ∈ r.all):=fun E=>by have:=F.blk _ E;omega
 rw[l];clear l
 cases N:wO c.pr f
 ·have HX:Hid (x.mP j f ou={x with T:=nO x.T j st' (x.now+stay c.pr st')}):=by show _=_;unfold No.mP;rw[Y.1,N,Zg.out,B.out];rfl
  clear N;go_wp2_with fail;have Zh:Hid (∀u,Calls prog 71 #[c.pr,st'] u fun e w'=>e=.returned (.int .i64 (stay c.pr st'))/\w'=u):=fun u=>wY c.pr st' u;have Zi:=Bg c.pr st';have Zj:IntKind.i64.wrap (x.now+stay c.pr st')=x.now+stay c.pr st':=by
   have:=O.out;rw[iI];omega
  have Zk:Hid (∀u un,bH w0 u r x q lo i m->Calls prog 126 #[.pointer (some (r.tb,0)),j,st',.int .i64 un] u fun e w'=>(∃v,e=.returned v)/\bH w0 w' r {x with T:=nO x.T j st' un} q lo i (m+1)/\ay r.all u w'):=fun u un hu=>adu hu O.2.2 j st' un;have hS:w3.drew.cell? (r.nd,4)=some (.pointer (some (r.tb,0)))/\w3.drew.cell? (r.nd,1)=x.now/\w3.drew.cell? (w.heap.size+1,0)=c.pr:=⟨H.nd.b4,H.nd.b1,Z.b.c0⟩;have D3:Hid (bH w0 w3.drew r x q lo i m):=H.below bD;go_region_held3 (fun w'=>w'.cell? (r.nd,4)=some (.pointer (some (r.tb,0)))/\w'.cell? (r.nd,1)=x.now/\w'.cell? (w.heap.size+1,0)=c.pr)
   (first | assumption | exact⟨J.nd.b4,J.nd.b1,K.keeps C hS.2.2⟩)
   (first
    | (go_at_call 71;refine(Zh _).mono ?_;rintro e w5 ⟨rfl,rfl⟩)
    | (go_at_call 126;refine(Zk _ _ D3).mono ?_;rintro e A ⟨⟨v6,rfl⟩,L,k6⟩;have J:Hid (bH w0 A r {x with T:=nO x.T j st' (x.now+stay c.pr st')} q lo i (m+1)):=L;have K:Hid (ay r.all w3.drew A):=k6;clear L k6))
  have Z6:Hid (kR A w vG):=(Z3.below bD).gU K I;have Y6:Hid (kR A (w.heap.size+1) c):=(Z.below bD).gU K C;have X6:Hid (ay r.all w A):=(ay.of (t2 B3 bD)).trans K;clear hS K Zj Zi D3;obtain⟨D,o,p,s⟩:=gV Z6 c;obtain⟨M,k7⟩:=F.fresh J X6 s nL;have N7:Hid (bH w0 D r {x with T:=nO x.T j st' (x.now+stay c.pr st')} q lo i (m+1)):=M;have K7:Hid (ay r.all w D):=k7;have Z7:Hid (kR D w c):=p;have y:=Y6.b;have y0:=y.c0;have y1:=y.c1;have y2:=y.c2;have y3:=y.c3;have y4:=y.c4;have y5:=y.c5;have y6:=y.c6;have y7:=y.c7;clear M k7 p s y;go_wp2_with (refine aA rfl 115 _ _ rfl _ _ _ rfl rfl o ?_)
  clear o y0 y1 y2 y3 y4 y5 y6 y7;have a:=Z7.b;go_wp2_with fail;exact bf (v:=bI c) (by simp[results,results67,go_sem,a.c0,a.c1,a.c2,a.c3,a.c4,a.c5,a.c6,a.c7,bI]) rfl ⟨by rw[B.out],by rw[HX.out];exact N7,K7⟩
 ·have HX:Hid (x.mP j f ou={x with T:=iZ x.T j}):=by show _=_;unfold No.mP;rw[Y.1,N];rfl
  clear N;have b4:=H.nd.b4;go_wp2_with fail;refine(aaq H O.2.2 j).mono ?_;rintro e A ⟨⟨v6,rfl⟩,L,k6⟩;have J:Hid (bH w0 A r {x with T:=iZ x.T j} q lo i (m+1)):=L;have Z6:Hid (kR A w vG):=Z3.gU k6 I;have Y6:Hid (kR A (w.heap.size+1) c):=Z.gU k6 C;have X6:Hid (ay r.all w A):=(ay.of B3.out).trans k6;clear L k6 b4;obtain⟨D,o,p,s⟩:=gV Z6 c;obtain⟨M,k7⟩:=F.fresh J X6 s nL;have N7:Hid (bH w0 D r {x with T:=iZ x.T j} q lo i (m+1)):=M;have K7:Hid (ay r.all w D):=k7;have Z7:Hid (kR D w c):=p;have y:=Y6.b;have y0:=y.c0;have y1:=y.c1;have y2:=y.c2;have y3:=y.c3;have y4:=y.c4;have y5:=y.c5;have y6:=y.c6;have y7:=y.c7;clear M k7 p s y;go_wp2_with (refine aA rfl 115 _ _ rfl _ _ _ rfl rfl o ?_)
  clear o y0 y1 y2 y3 y4 y5 y6 y7;have a:=Z7.b;go_wp2_with fail;exact bf (v:=bI c) (by simp[results,results67,go_sem,a.c0,a.c1,a.c2,a.c3,a.c4,a.c5,a.c6,a.c7,bI]) rfl ⟨by rw[B.out],by rw[HX.out];exact N7,K7⟩
end
section
variable {w0 w:World} {r:fC} {x:No} {q:Ro} {lo i:Int} {m:Nat}
theorem adv (h:bH w0 w r x q lo i m) (o:m<=1000000000) (a f j k l st un:Int) :
  Calls prog 70 #[.pointer (some (r.tb,0)),a,.agg #[f,j],.agg #[k,l],st,un] w fun e w'=>e=.returned (.tuple #[.int .i64 ((iC x.T x.low a f j k l st un).1:Nat),.int .i64 ((iC x.T x.low a f j k l st un).2.1:Nat)])/\bH w0 w' r {x with T:=(iC x.T x.low a f j k l st un).2.2} q lo i (m+1)/\ay r.all w w':=by
 have p:=h.id;refine jM (aah r.tb r.tg r.tc x.low x.T a f j k l st un m w h.tb (by unfold No.low;omega) (by unfold No.low;omega) h.vs o) fun w' ⟨t,g⟩=>?_;exact⟨rfl,h.DJ t (h.vs.add _ _ _ _ _ _ _ _) g,ay.one g r.MC⟩
theorem Vl {T:Tb} {low a e f j k st un:Int} (h:(iC T low a e f j k st un).2.1=0):(iC T low a e f j k st un).1 < 32:=by
 unfold iC at h ⊢;repeat' split
 all_goals first | (simp_all;done) | exact qm az | simp_all
theorem bH.MH (h:bH w0 w r x q lo i m):bH w0 w r x q lo i (m+1):={h with vs:=h.vs.more om}
theorem Qk (h:bH w0 w r x q lo i m) (hm:m<=1000000000) (h0:0<=x.now) (h1:x.now<=1000000000) (p:Pk) :
  Calls prog 50 #[.pointer (some (r.nd,0)),p.v] w fun e w'=>e=.returned (.tuple #[(x.eU p).v,.int .i64 (x.oh p:Nat)])/\bH w0 w' r (x.ins p) q lo i (m+1)/\ay r.all w w':=by
 have K:Hid (bH w0 w r x q lo i m):=h;have HW:Hid (0<=x.now/\x.now<=1000000000/\m<=1000000000):=⟨h0,h1,hm⟩;clear h h0 h1 hm;go_enter func50,ntmps50;go_wp2_with fail;have P1:Hid (dU ((w.alloc (.cells #[p.pr,p.a1,p.p1,p.a2,p.p2,p.fl] 35)).alloc (.cells #[.int .i64 0,.int .i64 0,.int .i64 0,.int .i64 0,.int .i64 0,.int .i64 0] 35)) w p):=(dU.new w p).below (aB _ _);have B1:Hid (Below w w ((w.alloc (.cells #[p.pr,p.a1,p.p1,p.a2,p.p2,p.fl] 35)).alloc (.cells #[.int .i64 0,.int .i64 0,.int .i64 0,.int .i64 0,.int .i64 0,.int .i64 0] 35))):=t2 (aB _ _) (aB _ _);have Z1:Hid (dU ((w.alloc (.cells #[p.pr,p.a1,p.p1,p.a2,p.p2,p.fl] 35)).alloc (.cells #[.int .i64 0,.int .i64 0,.int .i64 0,.int .i64 0,.int .i64 0,.int .i64 0] 35)) (w.heap.size+1) aU):=by
  have:=dU.zero (w.alloc (.cells #[p.pr,p.a1,p.p1,p.a2,p.p2,p.fl] 35));show dU _ _ _;simpa using this
 generalize ((w.alloc (.cells #[p.pr,p.a1,p.p1,p.a2,p.p2,p.fl] 35)).alloc (.cells #[.int .i64 0,.int .i64 0,.int .i64 0,.int .i64 0,.int .i64 0,.int .i64 0] 35))=w1 at *;generalize ZK:w.heap.size=P at P1 Z1 ⊢;generalize ZL:P+1=Q at Z1 ⊢;have Zv:Hid (¬Q ∈ r.all):=fun hm=>by have:=K.blk _ hm;omega
 have M:Hid (¬P ∈ r.all):=fun hm=>by have:=K.blk _ hm;omega
 refine(DL p.pr p.a1 p.p1 p.a2 p.p2 p.fl w1).mono ?_;rintro e w2 ⟨rfl,Zh⟩;have B2:Hid (Below w w w2):=t2 B1 Zh;have N2:Hid (bH w0 w2 r x q lo i m):=K.below B2;have P2:Hid (dU w2 P p):=P1.below Zh;have Z2:Hid (dU w2 Q aU):=Z1.below Zh;clear Zh B1 P1 Z1;have Zw:(dB p.pr p.a1 p.p1 p.a2 p.p2 p.fl:Nat)=p.err:=rfl;rw[Zw];clear Zw;by_cases he:p.err=0
 rotate_left
 ·have HC:Hid (x.chk p=p.err/\p.err≠0):=⟨by unfold No.chk;rw[ak he],he⟩;have y:Hid (x.oh p=p.err):=by show _=_;unfold No.oh;rw[ak (by rw[HC.1];exact he),HC.1]
  have C:Hid (x.eU p=aU):=by show _=_;unfold No.eU;rw[ak (by rw[y.out];exact he)]
  have V:Hid (x.ins p=x):=by show _=_;unfold No.ins;rw[ak (by rw[HC.1];exact he)]
  have Zx:(0:Int) < (p.err:Int):=by omega
  clear he;obtain⟨w9,s,z,A⟩:=bZ Z2 aU;have f:(Instr.storeAt 35 (.pointer (some (Q,0))) (.agg #[.int .i64 0,.int .i64 0,.int .i64 0,.int .i64 0,.int .i64 0,.int .i64 0])).run prog w2=.ok () w9:=s;obtain⟨H,I⟩:=K.fresh N2 (ay.of B2.out) A om;have W:Hid (bH w0 w9 r x q lo i _):=H;have X:Hid (ay r.all w w9):=I;have Y:Hid (dU w9 Q aU):=z;clear H I z A s;go_wp2_with (refine aA rfl 35 _ _ rfl _ _ _ rfl rfl f ?_)
  clear f;have a:=Y.b;go_wp2_with fail;exact bf (v:=.tuple #[aU.v,.int .i64 (p.err:Nat)]) (by simp[results,results50,go_sem,a.c0,a.c1,a.c2,a.c3,a.c4,a.c5,Pk.v,aU]) rfl ⟨by rw[C.out,y.out];try rfl,by rw[V.out];exact W.MH,X⟩
 ·rw[he];by_cases ha:x.ro.ac=true
  rotate_left
  ·have Zm:x.ro.ac=false:=by simpa using ha
   have HC:Hid (x.chk p=9):=by show _=_;unfold No.chk;rw[aj he,Zm];rfl
   have y:Hid (x.oh p=9):=by show _=_;unfold No.oh;rw[ak (by rw[HC.out];omega),HC.out]
   have C:Hid (x.eU p=aU):=by show _=_;unfold No.eU;rw[ak (by rw[y.out];omega)]
   have V:Hid (x.ins p=x):=by show _=_;unfold No.ins;rw[ak (by rw[HC.out];omega)]
   have b3:=N2.nd.b3;have a3:=N2.ro.c3;rw[N2.sm.ac,Zm]at a3;clear ha Zm he;obtain⟨w9,s,z,A⟩:=bZ Z2 aU;have f:(Instr.storeAt 35 (.pointer (some (Q,0))) (.agg #[.int .i64 0,.int .i64 0,.int .i64 0,.int .i64 0,.int .i64 0,.int .i64 0])).run prog w2=.ok () w9:=s;obtain⟨H,I⟩:=K.fresh N2 (ay.of B2.out) A om;have W:Hid (bH w0 w9 r x q lo i _):=H;have X:Hid (ay r.all w w9):=I;have Y:Hid (dU w9 Q aU):=z;clear H I z A s;go_wp2_with (refine aA rfl 35 _ _ rfl _ _ _ rfl rfl f ?_)
   clear f;have a:=Y.b;go_wp2_with fail;exact bf (v:=.tuple #[aU.v,.int .i64 9]) (by simp[results,results50,go_sem,a.c0,a.c1,a.c2,a.c3,a.c4,a.c5,Pk.v,aU]) rfl ⟨by rw[C.out,y.out];try rfl,by rw[V.out];exact W.MH,X⟩
  ·have b3:=N2.nd.b3;have a3:=N2.ro.c3;rw[N2.sm.ac,ha]at a3;have b4:=N2.nd.b4;obtain⟨r0,r1,r2,r3,r4,r5⟩:=P2.b;have HC:Hid (x.chk p=0):=by show _=_;unfold No.chk;rw[aj he,ha];rfl
   clear ha he;go_wp2_with fail;clear b3 a3 r5;have J:w2.drew.cell? (r.nd,4)=some (.pointer (some (r.tb,0)))/\w2.drew.cell? (P,0)=p.pr/\w2.drew.cell? (P,1)=p.a1/\w2.drew.cell? (P,2)=p.p1/\w2.drew.cell? (P,3)=p.a2/\w2.drew.cell? (P,4)=p.p2:=⟨b4,r0,r1,r2,r3,r4⟩;have D2:Hid (bH w0 w2.drew r x q lo i m):=N2.below bD;go_region_held3 (fun w'=>w'.cell? (r.nd,4)=some (.pointer (some (r.tb,0)))/\w'.cell? (P,0)=p.pr/\w'.cell? (P,1)=p.a1/\w'.cell? (P,2)=p.p1/\w'.cell? (P,3)=p.a2/\w'.cell? (P,4)=p.p2)
    (first | assumption | exact⟨tk G J.1,tk G J.2.1,tk G J.2.2.1,tk G J.2.2.2.1,tk G J.2.2.2.2.1,tk G J.2.2.2.2.2⟩)
    (first
     | (go_at_call 66;refine(aar D2 p.pr p.a1 p.p1 p.a2 p.p2).mono ?_;rintro e B ⟨rfl,G⟩))
   have B3:Hid (Below w w B):=t2 (t2 B2 bD) G;have N3:Hid (bH w0 B r x q lo i m):=K.below B3;have P3:Hid (dU B P p):=(P2.below bD).below G;have Z3:Hid (dU B Q aU):=(Z2.below bD).below G;clear G J b4 r0 r1 r2 r3 r4 D2 N2 P2 Z2 B2;obtain⟨o,ho⟩:∃o,fst x.T (iQ p.pr p.a1 p.p1 p.a2 p.p2)=o:=⟨_,rfl⟩;have HF:Hid (x.fnd p=o):=ho;rw[ho];have Zn:=ho;clear ho
   cases o with
   | some j =>
    have hj:j < 32:=qm Zn;clear Zn;simp only[jK];have g0:(0:Int)<=(j:Int):=by omega
    obtain⟨s0,s1,s2,s3,s4,s5⟩:=P3.b;have ZM:P < B.heap.size:=by have:=eF s0;exact this
    have FZ:Hid (kR (B.alloc (.cells #[.int .i64 0,.int .i64 0,.int .i64 0,.int .i64 0,.int .i64 0,.int .i64 0,.int .i64 0,.int .i64 0] 115)) B vG):=kR.zero B;have N4:Hid (bH w0 (B.alloc (.cells #[.int .i64 0,.int .i64 0,.int .i64 0,.int .i64 0,.int .i64 0,.int .i64 0,.int .i64 0,.int .i64 0] 115)) r x q lo i m):=N3.below (aB _ _);have X4:Hid (ay r.all w (B.alloc (.cells #[.int .i64 0,.int .i64 0,.int .i64 0,.int .i64 0,.int .i64 0,.int .i64 0,.int .i64 0,.int .i64 0] 115))):=ay.of (t2 B3 (aB _ _));have P4:Hid (dU (B.alloc (.cells #[.int .i64 0,.int .i64 0,.int .i64 0,.int .i64 0,.int .i64 0,.int .i64 0,.int .i64 0,.int .i64 0] 115)) P p):=P3.below (aB _ _);have Z4:Hid (dU (B.alloc (.cells #[.int .i64 0,.int .i64 0,.int .i64 0,.int .i64 0,.int .i64 0,.int .i64 0,.int .i64 0,.int .i64 0] 115)) Q aU):=Z3.below (aB _ _);have Z:Hid (w.heap.size<=B.heap.size/\Q < B.heap.size):=⟨B3.size,eF Z3.b.c0⟩;have Zp:Hid (¬B.heap.size ∈ r.all):=fun hm=>by have:=K.blk _ hm;have:=B3.size;omega
    go_wp2_with fail;clear s0 s1 s2 s3 s4 s5;generalize B.alloc (.cells #[.int .i64 0,.int .i64 0,.int .i64 0,.int .i64 0,.int .i64 0,.int .i64 0,.int .i64 0,.int .i64 0] 115)=w4 at *;generalize ZE:B.heap.size=F at *;refine(MG N4 HW.2.2 HW.1 HW.2.1 j hj p.fl true).mono ?_;rintro e D ⟨rfl,n5,k5⟩;have N5:Hid (bH w0 D r (x.mP j p.fl true) q lo i (m+1)):=n5;have X5:Hid (ay r.all w D):=X4.trans k5;have P5:Hid (dU D P p):=P4.gU k5 M;have Z5:Hid (dU D Q aU):=Z4.gU k5 Zv;have F5:Hid (kR D F vG):=FZ.gU k5 Zp;clear n5 k5 N4 X4 P4 Z4 FZ N3 P3 Z3;obtain⟨c,Zq⟩:∃c,x.T j=c:=⟨_,rfl⟩;have Zr:Hid (x.T j=c):=Zq;rw[Zq];clear Zq;obtain⟨w6,f,Zy,Zi⟩:=gV F5 c;obtain⟨n6,k6⟩:=K.fresh N5 X5 Zi (by have:=Z.out;omega);have N6:Hid (bH w0 w6 r (x.mP j p.fl true) q lo i (m+1)):=n6;have X6:Hid (ay r.all w w6):=k6;have P6:Hid (dU w6 P p):=P5.gU (ay.one (l:=[F]) Zi sM) (by simp;omega);have Z6:Hid (dU w6 Q aU):=Z5.gU (ay.one (l:=[F]) Zi sM) (by have:=Z.out;simp;omega);have F6:Hid (kR w6 F c):=Zy;clear n6 k6 Zy Zi N5 X5 P5 Z5 F5;simp only[bI]at f ⊢;have N:Hid (x.Lh p=0/\x.ou p=x.mP j p.fl true/\x.Px p=c):=⟨by unfold No.Lh;rw[HF.out],by unfold No.ou;rw[HF.out],by unfold No.Px;rw[HF.out];exact Zr⟩;have y:Hid (x.oh p=0):=by show _=_;unfold No.oh;rw[aj HC.out,N.1]
    have C:Hid (x.eU p=⟨p.pr,1,c.po,p.a2,p.p2,p.fl⟩):=by show _=_;unfold No.eU;rw[aj y.out,N.2.2]
    have V:Hid (x.ins p=x.mP j p.fl true):=by show _=_;unfold No.ins;rw[aj HC.out,N.2.1]
    have g5:=F6.b.c5;obtain⟨r0,r1,r2,r3,r4,r5⟩:=P6.b;have pf:=P6.fr;have O:=tX w6 P 1 2 (.int .i64 1) c.po;have Z7:Hid (dU ((w6.setCell (P,1) (.int .i64 1)).setCell (P,2) c.po) Q aU):=Z6.gU (ay.one (l:=[P]) O sM) (by simp;omega);obtain⟨n7,k7⟩:=K.fresh N6 X6 O om;obtain⟨w9,E,z,A⟩:=bZ Z7 ⟨p.pr,1,c.po,p.a2,p.p2,p.fl⟩;simp only at E;obtain⟨H,I⟩:=K.fresh n7 k7 A om;have W:Hid (bH w0 w9 r (x.mP j p.fl true) q lo i (m+1)):=H;have X:Hid (ay r.all w w9):=I;have Y:Hid (dU w9 Q ⟨p.pr,1,c.po,p.a2,p.p2,p.fl⟩):=z;clear H I z A n7 k7 O;go_wp2_with (first | refine aA rfl 115 _ _ rfl _ _ _ rfl rfl f ?_ | refine aA rfl 35 _ _ rfl _ _ _ rfl rfl E ?_)
    clear E g5 r0 r1 r2 r3 r4 r5 pf;have a:=Y.b;go_wp2_with fail;exact bf (v:=.tuple #[Pk.v ⟨p.pr,1,c.po,p.a2,p.p2,p.fl⟩,.int .i64 0]) (by simp[results,results50,go_sem,a.c0,a.c1,a.c2,a.c3,a.c4,a.c5,Pk.v]) rfl ⟨by rw[C.out,y.out];rfl,by rw[V.out];exact W,X⟩
   | none =>
    clear Zn;simp only[jK];have N:Hid (x.Lh p=x.zh p/\x.ou p=x.bg p/\x.Px p=x.NZ p):=⟨by unfold No.Lh;rw[HF.out],by unfold No.ou;rw[HF.out],by unfold No.Px;rw[HF.out]⟩;have y:Hid (x.oh p=x.zh p):=by show _=_;unfold No.oh;rw[aj HC.out,N.1]
    have V:Hid (x.ins p=x.bg p):=by show _=_;unfold No.ins;rw[aj HC.out,N.2.1]
    have FZ:Hid (kR (B.alloc (.cells #[.int .i64 0,.int .i64 0,.int .i64 0,.int .i64 0,.int .i64 0,.int .i64 0,.int .i64 0,.int .i64 0] 115)) B vG):=kR.zero B;have N4:Hid (bH w0 (B.alloc (.cells #[.int .i64 0,.int .i64 0,.int .i64 0,.int .i64 0,.int .i64 0,.int .i64 0,.int .i64 0,.int .i64 0] 115)) r x q lo i m):=N3.below (aB _ _);have X4:Hid (ay r.all w (B.alloc (.cells #[.int .i64 0,.int .i64 0,.int .i64 0,.int .i64 0,.int .i64 0,.int .i64 0,.int .i64 0,.int .i64 0] 115))):=ay.of (t2 B3 (aB _ _));have P4:Hid (dU (B.alloc (.cells #[.int .i64 0,.int .i64 0,.int .i64 0,.int .i64 0,.int .i64 0,.int .i64 0,.int .i64 0,.int .i64 0] 115)) P p):=P3.below (aB _ _);have Z4:Hid (dU (B.alloc (.cells #[.int .i64 0,.int .i64 0,.int .i64 0,.int .i64 0,.int .i64 0,.int .i64 0,.int .i64 0,.int .i64 0] 115)) Q aU):=Z3.below (aB _ _);have Z:Hid (w.heap.size<=B.heap.size/\Q < B.heap.size/\P < B.heap.size):=⟨B3.size,eF Z3.b.c0,eF P3.b.c0⟩;have Zp:Hid (¬B.heap.size ∈ r.all):=fun hm=>by have:=K.blk _ hm;have:=B3.size;omega
    go_wp2_with fail;generalize B.alloc (.cells #[.int .i64 0,.int .i64 0,.int .i64 0,.int .i64 0,.int .i64 0,.int .i64 0,.int .i64 0,.int .i64 0] 115)=w4 at *;generalize ZE:B.heap.size=F at *;clear N3 P3 Z3;have J:w4.drew.cell? (r.nd,7)=some (.slice r.rp x.ru.length r.rc)/\w4.drew.cell? (P,0)=p.pr/\w4.drew.cell? (P,4)=p.p2:=⟨N4.nd.b7,P4.b.c0,P4.b.c4⟩;have D4:Hid (bH w0 w4.drew r x q lo i m):=N4.below bD;go_region_held3 (fun w'=>w'.cell? (r.nd,7)=some (.slice r.rp x.ru.length r.rc)/\w'.cell? (P,0)=p.pr/\w'.cell? (P,4)=p.p2)
     (first | assumption | exact⟨tk Zg J.1,tk Zg J.2.1,tk Zg J.2.2⟩)
     (first
      | (go_at_call 68;refine(acK r.rp x.ru r.rc p.pr p.p2 true _ D4.ru D4.rl).mono ?_;rintro e D ⟨rfl,Zg⟩))
    have K5:Hid (Below w4 w4 D):=t2 (bD) Zg;have N5:Hid (bH w0 D r x q lo i m):=N4.below K5;have X5:Hid (ay r.all w D):=X4.trans (ay.of K5.out);have P5:Hid (dU D P p):=P4.below K5;have Z5:Hid (dU D Q aU):=Z4.below K5;have F5:Hid (kR D F vG):=FZ.below K5;clear Zg J D4 K5 N4 X4 P4 Z4 FZ
    cases Zj:adm x.ru p.pr true p.p2 with
    | false =>
     have R:Hid (x.zh p=8/\x.bg p=x):=by
      have h8:x.zh p=8:=by unfold No.zh;rw[Zj];rfl
      exact⟨h8,by unfold No.bg;rw[ak (by rw[h8];omega)]⟩
     have C:Hid (x.eU p=aU):=by show _=_;unfold No.eU;rw[ak (by rw[y.out,R.1];omega)]
     clear Zj;obtain⟨w9,s,z,A⟩:=bZ Z5 aU;have f:(Instr.storeAt 35 (.pointer (some (Q,0))) (.agg #[.int .i64 0,.int .i64 0,.int .i64 0,.int .i64 0,.int .i64 0,.int .i64 0])).run prog D=.ok () w9:=s;obtain⟨H,I⟩:=K.fresh N5 X5 A om;have W:Hid (bH w0 w9 r x q lo i _):=H;have X:Hid (ay r.all w w9):=I;have Y:Hid (dU w9 Q aU):=z;clear H I z A s;go_wp2_with (refine aA rfl 35 _ _ rfl _ _ _ rfl rfl f ?_)
     clear f;have a:=Y.b;go_wp2_with fail;exact bf (v:=.tuple #[aU.v,.int .i64 8]) (by simp[results,results50,go_sem,a.c0,a.c1,a.c2,a.c3,a.c4,a.c5,Pk.v,aU]) rfl ⟨by rw[C.out,y.out,R.1];try rfl,by rw[V.out,R.2];exact W.MH,X⟩
    | true =>
     have Zt:Hid (adm x.ru p.pr true p.p2=true):=Zj;clear Zj;obtain⟨s0,s1,s2,s3,s4,s5⟩:=P5.b;go_wp2_with fail;refine(Vh p.pr p.fl D).mono ?_;rintro e w6 ⟨rfl,hw⟩;obtain rfl:=hw.symm;clear hw s0 s1 s2 s3 s4 s5;by_cases S:kX p.pr p.fl=0
     rotate_left
     ·have R:Hid (x.zh p=kX p.pr p.fl/\x.bg p=x):=by
       have h8:x.zh p=kX p.pr p.fl:=by unfold No.zh;rw[Zt.out,ak S];rfl
       exact⟨h8,by unfold No.bg;rw[ak (by rw[h8];exact S)]⟩
      have C:Hid (x.eU p=aU):=by show _=_;unfold No.eU;rw[ak (by rw[y.out,R.1];exact S)]
      have Zx:(0:Int) < ((kX p.pr p.fl:Nat):Int):=by omega
      clear S;generalize ZN:kX p.pr p.fl=be at *;obtain⟨w9,s,z,A⟩:=bZ Z5 aU;have f:(Instr.storeAt 35 (.pointer (some (Q,0))) (.agg #[.int .i64 0,.int .i64 0,.int .i64 0,.int .i64 0,.int .i64 0,.int .i64 0])).run prog D=.ok () w9:=s;obtain⟨H,I⟩:=K.fresh N5 X5 A om;have W:Hid (bH w0 w9 r x q lo i _):=H;have X:Hid (ay r.all w w9):=I;have Y:Hid (dU w9 Q aU):=z;clear H I z A s;go_wp2_with (refine aA rfl 35 _ _ rfl _ _ _ rfl rfl f ?_)
      clear f;have a:=Y.b;go_wp2_with fail;exact bf (v:=.tuple #[aU.v,.int .i64 (be:Nat)]) (by simp[results,results50,go_sem,a.c0,a.c1,a.c2,a.c3,a.c4,a.c5,Pk.v,aU]) rfl ⟨by rw[C.out,y.out,R.1];try rfl,by rw[V.out,R.2];exact W.MH,X⟩
     ·rw[S];obtain⟨st,f⟩:∃st,kL p.pr p.fl=st:=⟨_,rfl⟩;have ZF:Hid (kL p.pr p.fl=st):=f;rw[f];have Zk:Hid (x.zh p=(x.iE p).2.1):=by show _=_;unfold No.zh;rw[Zt.out,aj S];rfl
      clear f S Zt;go_wp2_with fail;have ZG:Hid (∀u,Calls prog 71 #[p.pr,st] u fun e w'=>e=.returned (.int .i64 (stay p.pr st))/\w'=u):=fun u=>wY p.pr st u;have ZH:=Bg p.pr st;have ZI:IntKind.i64.wrap (x.now+stay p.pr st)=x.now+stay p.pr st:=by
       have:=HW.out;rw[iI];omega
      have Zz:Hid (x.iE p=iC x.T x.low p.pr p.a1 p.p1 p.a2 p.p2 st (x.now+stay p.pr st)):=by show _=_;unfold No.iE;rw[ZF.out]
      have J:D.drew.cell? (r.nd,4)=some (.pointer (some (r.tb,0)))/\D.drew.cell? (r.nd,1)=x.now/\D.drew.cell? (P,0)=p.pr/\D.drew.cell? (P,1)=p.a1/\D.drew.cell? (P,2)=p.p1/\D.drew.cell? (P,3)=p.a2/\D.drew.cell? (P,4)=p.p2:=⟨N5.nd.b4,N5.nd.b1,P5.b.c0,P5.b.c1,P5.b.c2,P5.b.c3,P5.b.c4⟩;have D5:Hid (bH w0 D.drew r x q lo i m):=N5.below bD;go_region_held3 (fun w'=>w'.cell? (r.nd,4)=some (.pointer (some (r.tb,0)))/\w'.cell? (r.nd,1)=x.now/\w'.cell? (P,0)=p.pr/\w'.cell? (P,1)=p.a1/\w'.cell? (P,2)=p.p1/\w'.cell? (P,3)=p.a2/\w'.cell? (P,4)=p.p2)
       (first | assumption | exact⟨n7.nd.b4,n7.nd.b1,k7.keeps M J.2.2.1,k7.keeps M J.2.2.2.1,k7.keeps M J.2.2.2.2.1,k7.keeps M J.2.2.2.2.2.1,k7.keeps M J.2.2.2.2.2.2⟩)
       (first
        | (go_at_call 71;refine(ZG _).mono ?_;rintro e w6 ⟨rfl,rfl⟩)
        | (go_at_call 70;refine(adv D5 HW.2.2 p.pr p.a1 p.p1 p.a2 p.p2 st (x.now+stay p.pr st)).mono ?_;rintro e w7 ⟨rfl,n7,k7⟩))
      rw[<- Zz.out]at n7 ⊢;have U:Hid (bH w0 w7 r {x with T:=(x.iE p).2.2} q lo i (m+1)):=n7;have X7:Hid (ay r.all w w7):=(X5.trans (ay.of bD)).trans k7;have P7:Hid (dU w7 P p):=(P5.below bD).gU k7 M;have Z7:Hid (dU w7 Q aU):=(Z5.below bD).gU k7 Zv;have F7:Hid (kR w7 F vG):=(F5.below bD).gU k7 Zp;clear n7 k7 J D5 ZI ZH N5 X5 P5 Z5 F5;by_cases L:(x.iE p).2.1=0
      rotate_left
      ·have e:(x.iE p).2.2=x.T:=DW L;have n8:=U.out;rw[e]at n8;have N8:Hid (bH w0 w7 r x q lo i (m+1)):=n8;have R:Hid (x.zh p=(x.iE p).2.1/\x.bg p=x):=⟨Zk,by unfold No.bg;rw[ak (by rw[Zk.out];exact L)]⟩;have C:Hid (x.eU p=aU):=by show _=_;unfold No.eU;rw[ak (by rw[y.out,R.1];exact L)]
       have Zx:(0:Int) < (((x.iE p).2.1:Nat):Int):=by omega
       clear L e n8 U Zz Zk;generalize (x.iE p).2.1=ae at *;obtain⟨w9,s,z,A⟩:=bZ Z7 aU;have f:(Instr.storeAt 35 (.pointer (some (Q,0))) (.agg #[.int .i64 0,.int .i64 0,.int .i64 0,.int .i64 0,.int .i64 0,.int .i64 0])).run prog w7=.ok () w9:=s;obtain⟨H,I⟩:=K.fresh N8 X7 A om;have W:Hid (bH w0 w9 r x q lo i (m+1)):=H;have X:Hid (ay r.all w w9):=I;have Y:Hid (dU w9 Q aU):=z;clear H I z A s;go_wp2_with (refine aA rfl 35 _ _ rfl _ _ _ rfl rfl f ?_)
       clear f;have a:=Y.b;go_wp2_with fail;exact bf (v:=.tuple #[aU.v,.int .i64 (ae:Nat)]) (by simp[results,results50,go_sem,a.c0,a.c1,a.c2,a.c3,a.c4,a.c5,Pk.v,aU]) rfl ⟨by rw[C.out,y.out,R.1],by rw[V.out,R.2];exact W,X⟩
      ·have R:Hid (x.zh p=0/\x.bg p={x with T:=(x.iE p).2.2}/\x.NZ p=(x.iE p).2.2 (x.iE p).1):=by
        have h8:x.zh p=0:=by rw[Zk.out];exact L
        exact⟨h8,by unfold No.bg;rw[aj h8],by unfold No.NZ;rw[aj h8]⟩
       have hk:(x.iE p).1 < 32:=Vl L;rw[L];obtain⟨k,Zu⟩:∃k,(x.iE p).1=k:=⟨_,rfl⟩;obtain⟨c,hc⟩:∃c,(x.iE p).2.2 k=c:=⟨_,rfl⟩;rw[Zu]at hk ⊢;have Zr:Hid (x.Px p=c):=by show _=_;rw[N.2.2,R.2.2,Zu,hc]
       have ZB:=y;clear y;have y:Hid (x.oh p=0):=by show _=_;rw[ZB.out,R.1]
       have C:Hid (x.eU p=⟨p.pr,1,c.po,p.a2,p.p2,p.fl⟩):=by show _=_;unfold No.eU;rw[aj y.out,Zr.out]
       have ZJ:=V;clear V;have V:Hid (x.ins p={x with T:=(x.iE p).2.2}):=by show _=_;rw[ZJ.out,R.2.1]
       have b4:=U.nd.b4;have l1:=U.tb.c1;have z2:=U.tb.sl.at' (i:=k) (k:=2) hk om;have z3:=U.tb.sl.at' (i:=k) (k:=3) hk om;have z4:=U.tb.sl.at' (i:=k) (k:=4) hk om;have z5:=U.tb.sl.at' (i:=k) (k:=5) hk om;have z6:=U.tb.sl.at' (i:=k) (k:=6) hk om;have z7:=U.tb.sl.at' (i:=k) (k:=7) hk om;have z8:=U.tb.sl.at' (i:=k) (k:=8) hk om;have z9:=U.tb.sl.at' (i:=k) (k:=9) hk om;simp only[hc,Ce.get]at z2 z3 z4 z5 z6 z7 z8 z9;have i0:(0:Int)<=(k:Int):=by omega
       have i1:(k:Int) < 32:=by omega
       obtain⟨w8,f,ZC,Zl⟩:=gV F7 c;obtain⟨n8,k8⟩:=K.fresh U X7 Zl (by have:=Z.out;omega);have N8:Hid (bH w0 w8 r {x with T:=(x.iE p).2.2} q lo i (m+1)):=n8;have X8:Hid (ay r.all w w8):=k8;have P8:Hid (dU w8 P p):=P7.gU (ay.one (l:=[F]) Zl sM) (by have:=Z.out;simp;omega);have Z8:Hid (dU w8 Q aU):=Z7.gU (ay.one (l:=[F]) Zl sM) (by have:=Z.out;simp;omega);have F8:Hid (kR w8 F c):=ZC;clear n8 k8 ZC Zl U X7 P7 Z7 F7 L Zu hc;have g5:=F8.b.c5;obtain⟨r0,r1,r2,r3,r4,r5⟩:=P8.b;have pf:=P8.fr;have O:=tX w8 P 1 2 (.int .i64 1) c.po;have ZA:Hid (dU ((w8.setCell (P,1) (.int .i64 1)).setCell (P,2) c.po) Q aU):=Z8.gU (ay.one (l:=[P]) O sM) (by simp;omega);obtain⟨nA,kA⟩:=K.fresh N8 X8 O om;obtain⟨w9,E,z,A⟩:=bZ ZA ⟨p.pr,1,c.po,p.a2,p.p2,p.fl⟩;simp only at E;obtain⟨H,I⟩:=K.fresh nA kA A om;have W:Hid (bH w0 w9 r {x with T:=(x.iE p).2.2} q lo i (m+1)):=H;have X:Hid (ay r.all w w9):=I;have Y:Hid (dU w9 Q ⟨p.pr,1,c.po,p.a2,p.p2,p.fl⟩):=z;clear H I z A nA kA O;go_wp2_with (first | refine aA rfl 115 _ _ rfl _ _ _ rfl rfl f ?_ | refine aA rfl 35 _ _ rfl _ _ _ rfl rfl E ?_)
       clear E g5 r0 r1 r2 r3 r4 r5 pf;have a:=Y.b;go_wp2_with fail;exact bf (v:=.tuple #[Pk.v ⟨p.pr,1,c.po,p.a2,p.p2,p.fl⟩,.int .i64 0]) (by simp[results,results50,go_sem,a.c0,a.c1,a.c2,a.c3,a.c4,a.c5,Pk.v]) rfl ⟨by rw[C.out,y.out];rfl,by rw[V.out];exact W,X⟩
end
section
variable {w0 w:World} {r:fC} {x:No} {q:Ro} {lo i:Int} {m:Nat}
theorem MI (h:bH w0 w r x q lo i m) (X:m<=1000000000) (h0:0<=x.now) (h1:x.now<=1000000000) (p:Pk) :
  Calls prog 51 #[.pointer (some (r.nd,0)),p.v] w fun e w'=>e=.returned (.tuple #[(x.fB p).v,.int .i64 (x.nR p:Nat)])/\bH w0 w' r (x.jd p) q lo i (m+1)/\ay r.all w w':=by
 have J:=jH h;have HW:Hid (0<=x.now/\x.now<=1000000000/\m<=1000000000):=⟨h0,h1,X⟩;clear h h0 h1 X;go_enter func51,ntmps51;go_wp2_with fail;have P1:Hid (dU ((w.alloc (.cells #[p.pr,p.a1,p.p1,p.a2,p.p2,p.fl] 35)).alloc (.cells #[.int .i64 0,.int .i64 0,.int .i64 0,.int .i64 0,.int .i64 0,.int .i64 0] 35)) w p):=(dU.new w p).below (aB _ _);have B1:Hid (Below w w ((w.alloc (.cells #[p.pr,p.a1,p.p1,p.a2,p.p2,p.fl] 35)).alloc (.cells #[.int .i64 0,.int .i64 0,.int .i64 0,.int .i64 0,.int .i64 0,.int .i64 0] 35))):=t2 (aB _ _) (aB _ _);have Z1:Hid (dU ((w.alloc (.cells #[p.pr,p.a1,p.p1,p.a2,p.p2,p.fl] 35)).alloc (.cells #[.int .i64 0,.int .i64 0,.int .i64 0,.int .i64 0,.int .i64 0,.int .i64 0] 35)) (w.heap.size+1) aU):=by
  have:=dU.zero (w.alloc (.cells #[p.pr,p.a1,p.p1,p.a2,p.p2,p.fl] 35));show dU _ _ _;simpa using this
 generalize ((w.alloc (.cells #[p.pr,p.a1,p.p1,p.a2,p.p2,p.fl] 35)).alloc (.cells #[.int .i64 0,.int .i64 0,.int .i64 0,.int .i64 0,.int .i64 0,.int .i64 0] 35))=w1 at *;generalize Zq:w.heap.size=P at P1 Z1 ⊢;generalize Zr:P+1=Q at Z1 ⊢;have Zl:Hid (¬Q ∈ r.all):=fun X=>by have:=J.blk _ X;omega
 have Zm:Hid (¬P ∈ r.all):=fun X=>by have:=J.blk _ X;omega
 refine jM (DL p.pr p.a1 p.p1 p.a2 p.p2 p.fl w1) fun w2 L=>?_;have Y:=jH (t2 B1 L);have H:=jH (J.below Y);have P2:=jH (P1.below L);have Z2:=jH (Z1.below L);clear L B1 P1 Z1;have Zg:(dB p.pr p.a1 p.p1 p.a2 p.p2 p.fl:Nat)=p.err:=rfl;rw[Zg];clear Zg;by_cases K:p.err=0
 rotate_left
 ·have G:Hid (x.chk p=p.err/\p.err≠0):=⟨by unfold No.chk;rw[ak K],K⟩;have D:Hid (x.IY p=none):=by show _=_;unfold No.IY;rw[ak (by rw[G.1];exact K)]
  have z:Hid (x.nR p=p.err):=by show _=_;unfold No.nR;rw[ak (by rw[G.1];exact K),G.1]
  have A:Hid (x.fB p=aU):=by show _=_;unfold No.fB;rw[D.out]
  have M:Hid (x.jd p=x):=by show _=_;unfold No.jd;rw[D.out]
  have Zt:(0:Int) < (p.err:Int):=by omega
  clear K;obtain⟨w9,a,k,s⟩:=bZ Z2 aU;have y:=a;obtain⟨E,F⟩:=J.fresh H (ay.of Y.out) s om;have N:=jH E;have O:=jH F;have R:=jH k;clear E F k s a;go_wp2_with (refine aA rfl 35 _ _ rfl _ _ _ rfl rfl y ?_)
  clear y;have f:=R.b;go_wp2_with fail;exact bf (v:=.tuple #[aU.v,.int .i64 (p.err:Nat)]) (by simp[results,results51,go_sem,f.c0,f.c1,f.c2,f.c3,f.c4,f.c5,Pk.v,aU]) rfl ⟨by rw[A.out,z.out];try rfl,by rw[M.out];exact N.MH,O⟩
 ·rw[K];by_cases ha:x.ro.ac=true
  rotate_left
  ·have S:x.ro.ac=false:=by simpa using ha
   have G:Hid (x.chk p=9):=by show _=_;unfold No.chk;rw[aj K,S];rfl
   have D:Hid (x.IY p=none):=by show _=_;unfold No.IY;rw[ak (by rw[G.out];omega)]
   have z:Hid (x.nR p=9):=by show _=_;unfold No.nR;rw[ak (by rw[G.out];omega),G.out]
   have A:Hid (x.fB p=aU):=by show _=_;unfold No.fB;rw[D.out]
   have M:Hid (x.jd p=x):=by show _=_;unfold No.jd;rw[D.out]
   have b3:=H.nd.b3;have a3:=H.ro.c3;rw[H.sm.ac,S]at a3;clear ha S K;obtain⟨w9,a,k,s⟩:=bZ Z2 aU;have y:=a;obtain⟨E,F⟩:=J.fresh H (ay.of Y.out) s om;have N:=jH E;have O:=jH F;have R:=jH k;clear E F k s a;go_wp2_with (refine aA rfl 35 _ _ rfl _ _ _ rfl rfl y ?_)
   clear y;have f:=R.b;go_wp2_with fail;exact bf (v:=.tuple #[aU.v,.int .i64 9]) (by simp[results,results51,go_sem,f.c0,f.c1,f.c2,f.c3,f.c4,f.c5,Pk.v,aU]) rfl ⟨by rw[A.out,z.out];try rfl,by rw[M.out];exact N.MH,O⟩
  ·have b3:=H.nd.b3;have a3:=H.ro.c3;rw[H.sm.ac,ha]at a3;obtain⟨r0,r1,r2,r3,r4,r5⟩:=P2.b;have G:Hid (x.chk p=0):=by show _=_;unfold No.chk;rw[aj K,ha];rfl
   clear ha K;by_cases C:p.a2=1
   rotate_left
   ·have Zh:=dG.2 C;have D:Hid (x.IY p=none):=by show _=_;unfold No.IY;rw[aj G.out,ak C]
    have z:Hid (x.nR p=3):=by show _=_;unfold No.nR;rw[aj G.out,ak C]
    have A:Hid (x.fB p=aU):=by show _=_;unfold No.fB;rw[D.out]
    have M:Hid (x.jd p=x):=by show _=_;unfold No.jd;rw[D.out]
    clear C;obtain⟨w9,a,k,s⟩:=bZ Z2 aU;have y:=a;obtain⟨E,F⟩:=J.fresh H (ay.of Y.out) s om;have N:=jH E;have O:=jH F;have R:=jH k;clear E F k s a;go_wp2_with (refine aA rfl 35 _ _ rfl _ _ _ rfl rfl y ?_)
    clear y;have f:=R.b;go_wp2_with fail;exact bf (v:=.tuple #[aU.v,.int .i64 3]) (by simp[results,results51,go_sem,f.c0,f.c1,f.c2,f.c3,f.c4,f.c5,Pk.v,aU]) rfl ⟨by rw[A.out,z.out];try rfl,by rw[M.out];exact N.MH,O⟩
   have Zh:(p.a2==1)=true:=by simp[C]
   have Zi:Hid (x.IY p=x.bck p):=by show _=_;unfold No.IY;rw[aj G.out,aj C]
   have Zj:=jH C;clear C;go_wp2_with fail;have b4:=H.nd.b4;clear b3 a3 r5 Zh;have Z:w2.drew.cell? (r.nd,4)=some (.pointer (some (r.tb,0)))/\w2.drew.cell? (P,0)=p.pr/\w2.drew.cell? (P,1)=p.a1/\w2.drew.cell? (P,2)=p.p1/\w2.drew.cell? (P,4)=p.p2:=⟨b4,r0,r1,r2,r4⟩;have D2:=jH (H.below bD);go_region_held3 (fun w'=>w'.cell? (r.nd,4)=some (.pointer (some (r.tb,0)))/\w'.cell? (P,0)=p.pr/\w'.cell? (P,1)=p.a1/\w'.cell? (P,2)=p.p1/\w'.cell? (P,4)=p.p2)
    (first | assumption | exact⟨tk B Z.1,tk B Z.2.1,tk B Z.2.2.1,tk B Z.2.2.2.1,tk B Z.2.2.2.2⟩)
    (first
     | (go_at_call 72;refine jM (aas D2 p.pr p.p2 p.a1 p.p1) fun w3 B=>?_))
   have B3:=jH (t2 (t2 Y bD) B);have N3:=jH (J.below B3);have P3:=jH ((P2.below bD).below B);have Z3:=jH ((Z2.below bD).below B);clear B Z b4 r0 r1 r2 r3 r4 D2 H P2 Z2 Y;obtain⟨o,ho⟩:∃o,fst x.T (eH p.pr p.p2 p.a1 p.p1)=o:=⟨_,rfl⟩;have HF:Hid (x.bck p=o):=ho;rw[ho];have U:=ho;clear ho
   cases o with
   | none =>
    clear U;simp only[jK];have D:=jH (Zi.trans HF);have z:Hid (x.nR p=4):=by show _=_;unfold No.nR;rw[aj G.out,aj Zj.out,HF.out]
    have A:Hid (x.fB p=aU):=by show _=_;unfold No.fB;rw[D.out]
    have M:Hid (x.jd p=x):=by show _=_;unfold No.jd;rw[D.out]
    obtain⟨w9,a,k,s⟩:=bZ Z3 aU;have y:=a;obtain⟨E,F⟩:=J.fresh N3 (ay.of B3.out) s om;have N:=jH E;have O:=jH F;have R:=jH k;clear E F k s a;go_wp2_with (refine aA rfl 35 _ _ rfl _ _ _ rfl rfl y ?_)
    clear y;have f:=R.b;go_wp2_with fail;exact bf (v:=.tuple #[aU.v,.int .i64 4]) (by simp[results,results51,go_sem,f.c0,f.c1,f.c2,f.c3,f.c4,f.c5,Pk.v,aU]) rfl ⟨by rw[A.out,z.out];try rfl,by rw[M.out];exact N.MH,O⟩
   | some j =>
    have hj:=qm U;clear U;simp only[jK];have g0:¬(j:Int) < 0:=by omega
    obtain⟨s0,s1,s2,s3,s4,s5⟩:=P3.b;go_wp2_with fail;clear s0 s1 s2 s3 s4 s5;refine jM (MG N3 HW.2.2 HW.1 HW.2.1 j hj p.fl false) fun w6 ⟨n6,k6⟩=>?_;have N6:=jH n6;have X6:=jH ((ay.of B3.out).trans k6);have P6:=jH (P3.gU k6 Zm);have Z6:=jH (Z3.gU k6 Zl);clear n6 k6 N3 P3 Z3 B3;obtain⟨c,V⟩:∃c,x.T j=c:=⟨_,rfl⟩;have Zn:=jH V;rw[V];clear V;have D:=jH (Zi.trans HF);have z:Hid (x.nR p=0):=by show _=_;unfold No.nR;rw[aj G.out,aj Zj.out,HF.out]
    have A:Hid (x.fB p=⟨p.pr,p.a1,p.p1,c.ia,c.ip,p.fl⟩):=by show _=_;unfold No.fB;rw[D.out];simp only[Zn.out]
    have M:Hid (x.jd p=x.mP j p.fl false):=by show _=_;unfold No.jd;rw[D.out]
    simp only[bI];have Zk:∀u,(Instr.field 115 (.agg #[c.pr,c.ia,c.ip,c.fa,c.fp,c.po,c.st,c.un]) 1).run prog u=.ok (.agg #[c.ia,c.ip]) u:=fun u=>by kernel_rfl
    have Zp:=Zk w6;obtain⟨r0,r1,r2,r3,r4,r5⟩:=P6.b;have pf:=P6.fr;have W:=tX w6 P 3 4 c.ia c.ip;have ZA:=jH (Z6.gU (ay.one (l:=[P]) W sM) (by simp;omega));obtain⟨nA,kA⟩:=J.fresh N6 X6 W om;obtain⟨w9,I,k,s⟩:=bZ ZA ⟨p.pr,p.a1,p.p1,c.ia,c.ip,p.fl⟩;simp only at I;obtain⟨E,F⟩:=J.fresh nA kA s om;have N:=jH E;have O:=jH F;have R:=jH k;clear E F k s nA kA W Zk;go_wp2_with (refine aA rfl 35 _ _ rfl _ _ _ rfl rfl I ?_)
    clear I r0 r1 r2 r3 r4 r5 pf;have f:=R.b;go_wp2_with fail;exact bf (v:=.tuple #[Pk.v ⟨p.pr,p.a1,p.p1,c.ia,c.ip,p.fl⟩,.int .i64 0]) (by simp[results,results51,go_sem,f.c0,f.c1,f.c2,f.c3,f.c4,f.c5,Pk.v]) rfl ⟨by rw[A.out,z.out];rfl,by rw[M.out];exact N,O⟩
end
end Go.Proofs.YtnogmjekhjldcaaGreatDoor
