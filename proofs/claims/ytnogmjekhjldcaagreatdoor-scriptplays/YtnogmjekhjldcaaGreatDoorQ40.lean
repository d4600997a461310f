/-
  What the claimed theorem reaches, part Q40.
-/
import Derived.Test.YtnogmjekhjldcaaGreatDoorQ39
namespace Go.Proofs.YtnogmjekhjldcaaGreatDoor
open Go.RowKit Go.Proofs.Tryz
set_option maxRecDepth 100000
set_option maxHeartbeats 8000000
def abz (w0:World) (p:Option Addr) (l:List Rl):Prop:=oQ w0 p l/\l.length<=1000
theorem abz.lt {w0:World} {p:Option Addr} {l:List Rl} (h:abz w0 p l):l≠[]->∀a,p=some a->a.block < w0.heap.size:=fun e a j=>by
 obtain⟨t,k⟩:=JC _ e;obtain⟨i,m⟩:=Aq k;obtain⟨b,o,f,c0,_⟩:=h.1 i t m;rw[show p=some a from j]at f
 cases f
 have q:b < w0.heap.size:=eF c0;exact q
section
variable {w w0 wS:World} {wb cap j:Nat} {nv bv:Value} {r:Nat->fC} {tag:Nat->Nat} {p:Option Addr} {l:List Rl}
theorem Tryz.afX:(prog.info? 60).map (fun i=>(i.zero,i.size,i.bytes))=some (some (.pointer none),1,8):=by kernel_rfl
theorem abA {n:Nat} {v:Value} {cs:List Value} (a:Addr) (B:w.ownsRow 0 60 1 v n cs) (H:n<=1000) :
  ∃f c5 h,(Builtin.append_ #[52,52] 52 #[v,.slice (some (w.heap.size,0)) 1 1]).run prog (w.alloc (.cells #[.pointer (some a)] 60))=.ok (.slice f (n+1) c5) h/\h.ownsRow 0 60 1 (.slice f (n+1) c5) (n+1) (cs++[.pointer (some a)])/\ay v.ownBlock.toList w h/\(∀g,(Value.slice f (n+1) c5).ownBlock=some g->v.ownBlock=some g\/w.heap.size<=g):=by
 obtain⟨C,D,m,o,s⟩:=lu Tryz.afX;have k:=aB w (.cells #[.pointer (some a)] 60);have E:∀x ∈ ([.pointer (some a)]:List Value),x.oneCell'=true:=fun x F=>by
  rw[jA.1 F];rfl
 obtain⟨v5,h,hr,i,y,_,z⟩:=BX (P := prog) (w.alloc (.cells #[.pointer (some a)] 60)) 0 52 52 60 C _ 1 8 Tryz.underlying52 D m o s rfl dC v n cs (B.alloc _) ⟨w.heap.size,0,none⟩ 1 1 [.pointer (some a)] rfl (fun q u G=>by
  rw[qo,fE,nw];simpa using G) E (by unfold maxLen;omega) om (jY _)
 obtain⟨f,c5,rfl⟩:=jO i;refine⟨f,c5,h,hr,i,uV k y,fun g A=>?_⟩;rcases z with e | e
 ·exact .inl (by rw[<- e];exact A)
 ·rw[e]at A
  cases A
  exact .inr k.size
theorem Tryz.afY:(prog.info? 58).map (fun i=>(i.zero,i.size,i.bytes))=some (some (.pointer none),1,8):=by kernel_rfl
theorem abB {n:Nat} {v:Value} {cs:List Value} (a:Addr) (B:w.ownsRow 0 58 1 v n cs) (H:n<=1000) :
  ∃f c5 h,(Builtin.append_ #[53,53] 53 #[v,.slice (some (w.heap.size,0)) 1 1]).run prog (w.alloc (.cells #[.pointer (some a)] 58))=.ok (.slice f (n+1) c5) h/\h.ownsRow 0 58 1 (.slice f (n+1) c5) (n+1) (cs++[.pointer (some a)])/\ay v.ownBlock.toList w h/\(∀g,(Value.slice f (n+1) c5).ownBlock=some g->v.ownBlock=some g\/w.heap.size<=g):=by
 obtain⟨C,D,m,o,s⟩:=lu Tryz.afY;have k:=aB w (.cells #[.pointer (some a)] 58);have E:∀x ∈ ([.pointer (some a)]:List Value),x.oneCell'=true:=fun x F=>by
  rw[jA.1 F];rfl
 obtain⟨v5,h,hr,i,y,_,z⟩:=BX (P := prog) (w.alloc (.cells #[.pointer (some a)] 58)) 0 53 53 58 C _ 1 8 Tryz.underlying53 D m o s rfl dC v n cs (B.alloc _) ⟨w.heap.size,0,none⟩ 1 1 [.pointer (some a)] rfl (fun q u G=>by
  rw[qo,fE,nw];simpa using G) E (by unfold maxLen;omega) om (jY _)
 obtain⟨f,c5,rfl⟩:=jO i;refine⟨f,c5,h,hr,i,uV k y,fun g A=>?_⟩;rcases z with e | e
 ·exact .inl (by rw[<- e];exact A)
 ·rw[e]at A
  cases A
  exact .inr k.size
structure NQ (w0 wS w:World) (wb:Nat) (nv bv:Value) (r:Nat->fC) (tag:Nat->Nat) (p:Option Addr) (cap:Nat) (l:List Rl) (j:Nat):Prop where
 bk:w.heap[wb]? = some (.cells #[nv,bv,.slice p l.length cap,.slice none 0 0,.int .i64 (-1),.int .i64 0,.slice none 0 0] 57 (0,0))
 n:w.ownsRow 0 60 1 nv j ((List.range j).map fun k=>.pointer (some ((r k).nd,0)))
 b:w.ownsRow 0 58 1 bv j ((List.range j).map fun k=>.pointer (some ((r k).yb,0)))
 nd:∀k,k < j->∃q,bH w0 w (r k) (No.new k iO l) q (pV 0) ((0:Nat):Int) (33 * 0)
 t0:tag wb=0
 tn:∀g,nv.ownBlock=some g->tag g=6
 tb:∀g,bv.ownBlock=some g->tag g=7
 tr:∀k,k < j->∀b ∈ (r k).all,tag b=k+1
 lo:∀b,b < wS.heap.size->tag b=9
 al:∀b,w.heap.size<=b->tag b=9
 bl:Below w0 w0 wS
 bS:Below wS wS w
theorem NQ.lt (h:NQ w0 wS w wb nv bv r tag p cap l j) {b:Nat} (e:tag b≠9):b < w.heap.size:=by
 rcases dX b w with a | a
 ·exact a
 ·exact absurd (h.al b a) e
theorem NQ.ge (h:NQ w0 wS w wb nv bv r tag p cap l j) {b:Nat} (e:tag b≠9):wS.heap.size<=b:=by
 rcases dX b wS with a | a
 ·exact absurd (h.lo b a) e
 ·exact a
theorem NQ.zero (p:Option Addr) (cap:Nat) (l:List Rl) (bl:Below w0 w0 wS) (r:Nat->fC) :
  NQ w0 wS (wS.alloc (.cells #[.slice none 0 0,.slice none 0 0,.slice p l.length cap,.slice none 0 0,.int .i64 (-1),.int .i64 0,.slice none 0 0] 57)) wS (.slice none 0 0) (.slice none 0 0) r (fun b=>if b=wS.heap.size then 0 else 9) p cap l 0:=by
 have k:=aB wS (.cells #[.slice none 0 0,.slice none 0 0,.slice p l.length cap,.slice none 0 0,.int .i64 (-1),.int .i64 0,.slice none 0 0] 57);refine⟨dh _ _,ql _ _ _ _,ql _ _ _ _,fun k h=>by omega,aj rfl,(fun g a=>by cases a),(fun g a=>by cases a),fun k h=>by omega,fun b f=>ak om,fun b f=>ak (fun e=>?_),bl,k⟩;rw[TG]at f;omega
theorem NQ.add {w2:World} (h:NQ w0 wS w wb nv bv r tag p cap l j) (Zg:j < 2) (b:Below w w w2) (x:fC) (U:∀g ∈ x.all,w.heap.size<=g) (nd:∃q,bH w0 w2 x (No.new j iO l) q (pV 0) ((0:Nat):Int) (33 * 0)) {B w4 C w6:World} {pb z A cn:_}
  (c3:ay bv.ownBlock.toList w2 B) (V:B.ownsRow 0 58 1 (.slice pb (j+1) z) (j+1) (((List.range j).map fun k=>.pointer (some ((r k).yb,0)))++[.pointer (some (x.yb,0))])) (v3:∀g,(Value.slice pb (j+1) z).ownBlock=some g->bv.ownBlock=some g\/w2.heap.size<=g) (W:w4=B.setCell (wb,1) (.slice pb (j+1) z))
  (c5:ay nv.ownBlock.toList w4 C) (X:C.ownsRow 0 60 1 (.slice A (j+1) cn) (j+1) (((List.range j).map fun k=>.pointer (some ((r k).nd,0)))++[.pointer (some (x.nd,0))])) (v5:∀g,(Value.slice A (j+1) cn).ownBlock=some g->nv.ownBlock=some g\/w4.heap.size<=g) (Y:w6=C.setCell (wb,0) (.slice A (j+1) cn)) :
  ∃E,NQ w0 wS w6 wb (.slice A (j+1) cn) (.slice pb (j+1) z) (aQ r j x) E p cap l (j+1):=by
 have K:aC wb B w4:=by rw[W];exact aC.set _ _ _ _
 have J:aC wb C w6:=by rw[Y];exact aC.set _ _ _ _
 obtain⟨q,nd⟩:=nd;have u:wb < w.heap.size:=h.lt (by rw[h.t0];omega);have s2:=b.size;have s3:=c3.size;have s4:=K.size;have s5:=c5.size;have s6:=J.size;have Z:∀g,bv.ownBlock=some g->g < w.heap.size:=fun g m=>h.lt (by rw[h.tb g m];omega);have L:∀g,nv.ownBlock=some g->g < w.heap.size:=fun g m=>h.lt (by rw[h.tn g m];omega);have F:∀g,(Value.slice pb (j+1) z).ownBlock=some g->g < B.heap.size:=fun g m=>(V.lt g m).2;have M:∀g,(Value.slice A (j+1) cn).ownBlock=some g->g < C.heap.size:=fun g m=>(X.lt g m).2;have D:∀g ∈ x.all,g < w2.heap.size:=nd.blk;obtain⟨T,G⟩:∃T:Nat->Nat,T=fun b=>if b < w.heap.size then tag b else if b ∈ x.all then j+1 else if (Value.slice pb (j+1) z).ownBlock=some b then 7 else if (Value.slice A (j+1) cn).ownBlock=some b then 6 else 9:=⟨_,rfl⟩;have i:∀b,b < w.heap.size->T b=tag b:=fun b a=>by rw[G];exact aj a
 have Tx:∀b ∈ x.all,T b=j+1:=fun b a=>by
  rw[G];show(if b < w.heap.size then _ else _)=_;rw[ak (by have:=U b a;omega),aj a]
 have Tb:∀g,(Value.slice pb (j+1) z).ownBlock=some g->T g=7:=fun g m=>by
  rcases v3 g m with q | q
  ·rw[i g (Z g q)];exact h.tb g q
  ·rw[G];show(if g < w.heap.size then _ else _)=_;rw[ak om,ak (fun s=>by have:=D g s;omega),aj m]
 have Tn:∀g,(Value.slice A (j+1) cn).ownBlock=some g->T g=6:=fun g m=>by
  rcases v5 g m with q | q
  ·rw[i g (L g q)];exact h.tn g q
  ·rw[G];show(if g < w.heap.size then _ else _)=_;rw[ak om,ak (fun s=>by have:=D g s;omega),ak (fun e=>by have:=F g e;omega),aj m]
 have o:ay (wb::(bv.ownBlock.toList++nv.ownBlock.toList)) w2 w6:=by
  refine(((c3.mono (fun b a=>.inl ?_)).trans (ay.one K sM)).trans (c5.mono (fun b a=>.inl ?_))).trans (ay.one J sM)
  ·simp at a ⊢;exact .inr (.inl a)
  ·simp at a ⊢;exact .inr (.inr a)
 have s:∀b ∈ wb::(bv.ownBlock.toList++nv.ownBlock.toList),b < w.heap.size/\(tag b=0\/tag b=7\/tag b=6):=fun b a=>by
  simp only[dI,lU,Option.mem_toList]at a;rcases a with rfl | a | a
  ·exact⟨u,.inl h.t0⟩
  ·exact⟨Z b a,.inr (.inl (h.tb b a))⟩
  ·exact⟨L b a,.inr (.inr (h.tn b a))⟩
 have g0:∀b ∈ wb::(bv.ownBlock.toList++nv.ownBlock.toList),w0.heap.size<=b:=fun b a=>by
  have q:=s b a;have:=h.ge (b:=b) om;have:=h.bl.size;omega
 have N:w2.heap[wb]? = some (.cells #[nv,bv,.slice p l.length cap,.slice none 0 0,.int .i64 (-1),.int .i64 0,.slice none 0 0] 57 (0,0)):=(b.block wb u).trans h.bk;have O:B.heap[wb]? = some (.cells #[nv,bv,.slice p l.length cap,.slice none 0 0,.int .i64 (-1),.int .i64 0,.slice none 0 0] 57 (0,0)):=(c3.block wb om (fun e=>by have:=h.tb wb (by simpa using e);have:=h.t0;omega)).trans N;have P:w4.heap[wb]? = some (.cells #[nv,.slice pb (j+1) z,.slice p l.length cap,.slice none 0 0,.int .i64 (-1),.int .i64 0,.slice none 0 0] 57 (0,0)):=by
  rw[W,bV B wb 1 _ _ (.slice pb (j+1) z) O];rfl
 have Q:C.heap[wb]? = some (.cells #[nv,.slice pb (j+1) z,.slice p l.length cap,.slice none 0 0,.int .i64 (-1),.int .i64 0,.slice none 0 0] 57 (0,0)):=(c5.block wb om (fun e=>by have:=h.tn wb (by simpa using e);have:=h.t0;omega)).trans P;have H:∀f:fC->Value,(List.range (j+1)).map (fun k=>f (aQ r j x k))=(List.range j).map (fun k=>f (r k))++[f x]:=fun f=>by
  rw[ace,TL];congr 1
  ·refine List.map_congr_left (fun k I=>?_);rw[aI _ _ (by have:=List.mem_range.1 I;omega)]
  ·simp[aG]
 refine⟨T,?_,?_,?_,fun k I=>?_,by rw[i wb u];exact h.t0,Tn,Tb,fun k I b a=>?_,fun b a=>?_,fun b a=>?_,h.bl,?_⟩
 ·rw[Y,bV C wb 0 _ _ (.slice A (j+1) cn) Q];rfl
 ·rw[H (fun r=>.pointer (some ⟨r.nd,0,none⟩))];exact gX X (ay.one (l:=[wb]) J sM) (fun g m s=>by
   have e:g=wb:=by simpa using s
   have q:=Tn g m;rw[e,i wb u,h.t0]at q;omega)
 ·rw[H (fun r=>.pointer (some ⟨r.yb,0,none⟩))];have o4:=gX V (ay.one (l:=[wb]) K sM) (fun g m s=>by
   have e:g=wb:=by simpa using s
   have q:=Tb g m;rw[e,i wb u,h.t0]at q;omega)
  have R:=gX o4 c5 (fun g m s=>by
   have q1:=Tb g m;have q2:=h.tn g (by simpa using s);rw[i g (L g (by simpa using s))]at q1;omega)
  exact gX R (ay.one (l:=[wb]) J sM) (fun g m s=>by
   have e:g=wb:=by simpa using s
   have q:=Tb g m;rw[e,i wb u,h.t0]at q;omega)
 ·by_cases e:k=j
  ·subst e;rw[aG];exact⟨q,nd.kept o (fun b a y=>by have:=s b y;have:=U b a;omega) g0⟩
  ·rw[aI _ _ e];obtain⟨q2,S⟩:=h.nd k om;exact⟨q2,(S.below b).kept o (fun b a y=>by have:=(s b y).2;have:=h.tr k om b a;omega) g0⟩
 ·by_cases e:k=j
  ·subst e;rw[aG]at a;exact Tx b a
  ·rw[aI _ _ e]at a;have q:=h.tr k om b a;rw[i b (h.lt om)];exact q
 ·have:=h.bS.size;rw[i b om];exact h.lo b a
 ·rw[G];show(if b < w.heap.size then _ else _)=_;rw[ak om,ak (fun s=>by have:=D b s;omega),ak (fun e=>by have:=F b e;omega),ak (fun e=>by have:=M b e;omega)]
 ·have:=h.bS.size;refine⟨o.os.trans (b.os.trans h.bS.os),o.tape.trans (b.tape.trans h.bS.tape),o.output.trans (b.output.trans h.bS.output),by omega,fun k I=>?_⟩;rw[o.block k om (fun y=>by have:=s k y;have:=h.ge (b:=k) om;omega),b.block k om];exact h.bS.block k I
theorem NQ.fin (h:NQ w0 wS w wb nv bv r tag p cap l 2) (R:abz w0 p l):∃D,D.wb=wb/\cZ w0 w D (Wo.born l) 0/\(∀b,b < wS.heap.size->D.tag b=9):=by
 obtain⟨u,y,f,F⟩:∃u y,nv=.slice (some ⟨u,0,none⟩) 2 y/\u < w.heap.size:=by
  rcases aJ h.n with⟨_,e⟩ | ⟨g,c,e,_,h2,_⟩
  ·omega
  ·exact⟨g,c,e,h2⟩
 obtain⟨bb,z,m,G⟩:∃bb z,bv=.slice (some ⟨bb,0,none⟩) 2 z/\bb < w.heap.size:=by
  rcases aJ h.b with⟨_,e⟩ | ⟨g,c,e,_,h2,_⟩
  ·omega
  ·exact⟨g,c,e,h2⟩
 have bl:Below w0 w0 w:=⟨h.bS.os.trans h.bl.os,h.bS.tape.trans h.bl.tape,h.bS.output.trans h.bl.output,dL h.bl.size h.bS.size,fun k C=>(h.bS.block k (ji C h.bl.size)).trans (h.bl.block k C)⟩;have E:∀{g c:Nat} {T:TypeId} {cs:List Value},w.ownsRow 0 T 1 (.slice (some (g,0)) 2 c) 2 cs->∀i,w.frozen? ⟨g,i,none⟩=false:=fun {g c T cs} H i=>by
  rcases H.2 with⟨q,_⟩ | ⟨g',cap',cur,q1,_,q3,_⟩
  ·cases q
  ·cases q1
   exact jk _ _ _ _ _ q3
 have o:=h.n;have s:=h.b;rw[f]at o;rw[m]at s;refine⟨⟨wb,u,y,bb,z,fun k=>if k < 2 then some (r k) else none,fun k=>(r k).yb,p,cap,.slice none 0 0,.slice none 0 0,[],tag⟩,rfl,⟨?_,⟨fun i a=>?_,fun i a=>E o i⟩,⟨fun i a=>?_,fun i a=>E s i⟩,fun i a=>?_,R.1.below bl,R.2,R.lt,⟨rfl,jY _,fun i t v I _=>?_,ql _ _ _ _⟩,⟨jY _,ql _ _ _ _⟩,⟨h.t0,h.tn u (by rw[f];rfl),h.tb bb (by rw[m];rfl)⟩,fun i a b A=>?_,(fun g B=>by cases B),(fun g B=>by cases B),fun b A=>dL h.bl.size (h.ge A),h.al,bl⟩,h.lo⟩
 ·have:=h.bk;rw[f,m]at this;exact this
 ·have e:(if i < 2 then some (r i) else none)=some (r i):=aj a;show w.cell? (u,i)=some (.pointer ((if i < 2 then some (r i) else none).map fun r=>(r.nd,0)));rw[e];exact zC o i _ (by rw[kK,yN a];rfl)
 ·exact zC s i _ (by rw[kK,yN a];rfl)
 ·obtain⟨q,nd⟩:=h.nd i a;exact .inl ⟨r i,No.new i iO l,q,aj a,aj a,nd,rfl,by show(0:Int)<=0;omega,by show(0:Int)<=_;omega,rfl⟩
 ·have J:([]:List Nf)[i]? = some t:=I;simp at J
 ·have x:b ∈ (match (if i < 2 then some (r i) else none) with | some r=>r.all | none=>[(r i).yb]):=A;rw[aj a]at x;exact h.tr i a b x
end
theorem abC {w0 w:World} (bl:Below w0 w0 w) (p:Option Addr) (cap:Nat) (l:List Rl) (R:abz w0 p l) (N:∀i,i < 2->sD i iO l) :
  Calls prog 6 #[.slice p l.length cap] w fun e w'=>∃D,e=.returned (.pointer (some ⟨D.wb,0,none⟩))/\cZ w0 w' D (Wo.born l) 0/\(∀b,b < w.heap.size->D.tag b=9)/\Below w w w':=by
 have HB:Hid (Below w0 w0 w):=bl;have HR:Hid (abz w0 p l):=R;have HN:Hid (∀i,i < 2->sD i iO l):=N;clear bl R N;go_enter func6,ntmps6;go_wp2_with fail;have Z:Hid (NQ w0 w (w.alloc (.cells #[.slice none 0 0,.slice none 0 0,.slice p l.length cap,.slice none 0 0,.int .i64 (-1),.int .i64 0,.slice none 0 0] 57)) w (.slice none 0 0) (.slice none 0 0) (fun _=>⟨0,0,0,0,0,0,0,0,0,0,0,0,none,0⟩) (fun b=>if b=w.heap.size then 0 else 9) p cap l 0):=NQ.zero p cap l HB _;generalize w.alloc (.cells #[.slice none 0 0,.slice none 0 0,.slice p l.length cap,.slice none 0 0,.int .i64 (-1),.int .i64 0,.slice none 0 0] 57)=w1 at *;have Z2:Hid (∃nv L r tag,NQ w0 w w1 w nv L r tag p cap l 0):=⟨_,_,_,_,Z⟩;clear Z;generalize w.heap.size=wb at Z2 ⊢;go_loopw [4] (fun t wr=>∃j:Nat,j<=2/\t=.int .i64 j/\∃nv L r tag,NQ w0 w wr wb nv L r tag p cap l j) (fun t _=>2 - (intOf t).toNat)
 case atStart=>exact⟨0,by omega,rfl,Z2⟩
 case round =>
  obtain⟨j,hj,rfl,nv,L,r,tag,hn⟩:=hrel;have a:Hid (NQ w0 w wr wb nv L r tag p cap l j):=hn;clear hn;by_cases Zg:j < 2
  ·have i0:(0:Int)<=(j:Int):=by omega
   have i1:(j:Int) < 2:=by omega
   have HJ:Hid (j < 2):=Zg;go_wp2_with fail;refine(Fq wr).mono ?_;rintro e w2 ⟨⟨yb,rfl,M,hY⟩,b2⟩;have F:Hid (wr.heap.size<=yb/\fG w2 yb iO 0/\Below wr wr w2):=⟨M,hY,b2⟩;clear M hY b2;go_wp2_with fail;have G:Below w0 w0 w2:=by
    have O:=a.bl;have P:=a.bS;have h:=F.2.2;have s1:=O.size;have s2:=P.size;exact⟨h.os.trans (P.os.trans O.os),h.tape.trans (P.tape.trans O.tape),h.output.trans (P.output.trans O.output),by have:=h.size;omega,fun k hk=>(h.block k om).trans ((P.block k om).trans (O.block k hk))⟩
   refine(yA (w0:=w0) j HJ yb iO 0 p cap l ⟨0,F.2.1,(fun e=>by cases e),by omega,by omega⟩ om YI.zero.len (by have:=a.bl.size;have:=a.bS.size;have:=F.1;omega) G (HR.1.below G) HR.2 HR.lt).mono ?_;rintro e I ⟨hq,J⟩;obtain⟨x,rfl,hy,C,Q⟩:∃x,e=.returned (.tuple #[.pointer (some ⟨x.nd,0,none⟩),.int .i64 0])/\x.yb=yb/\(∀g ∈ x.all,g=yb\/w2.heap.size<=g)/\bH w0 I x (No.new j iO l) ⟨j,(newest iO.B).e,0,false⟩ (0 - 20) 0 0:=by
    rcases hq with⟨n,hn,hn2,_⟩ | ⟨_,r,he,hy,C,nd⟩
    ·exact absurd (hn2.trans (HN j HJ).pu) hn
    ·exact⟨r,he,hy,C,nd⟩
   have K:Hid (Below wr wr I):=by
    have h:=F.2.2;exact⟨J.os.trans h.os,J.tape.trans h.tape,J.output.trans h.output,dL h.size J.size,fun k hk=>(J.block k (ji hk h.size) (fun y=>by have:=jA.1 y;have:=F.1;omega)).trans (h.block k hk)⟩
   have X3:Hid ((∀g ∈ x.all,wr.heap.size<=g)/\x.yb=yb/\∃q,bH w0 I x (No.new j iO l) q (pV 0) ((0:Nat):Int) (33 * 0)):=⟨fun g Zh=>by
    have:=F.2.2.size;have:=F.1;rcases C g Zh with e | e
    ·omega
    ·omega,hy,_,Q⟩
   clear hq J hy C Q G;obtain⟨S,T,z⟩:=jO a.b;obtain⟨U,V,A⟩:=jO a.n;have W:wb < wr.heap.size:=a.lt (by rw[a.t0];omega);have m:=(K.block wb W).trans a.bk;obtain⟨pb,cb,w4,H,o4,c4,v4⟩:=abB (w:=I) (yb,0) (gX a.b (ay.of (l:=[]) K) (fun g _ y=>by simp at y)) om;have f:=(c4.block wb (ji W K.size) (fun e=>by have:=a.tb wb (by simpa using e);have:=a.t0;omega)).trans m;have k1:I.cell? (wb,1)=some (.slice S j T):=by rw[<- z];exact(aP _ _ _ _ _ _ m).trans rfl
   have l1:wb < I.heap.size:=eF k1;have k2:w4.cell? (wb,1)=some (.slice S j T):=by rw[<- z];exact(aP _ _ _ _ _ _ f).trans rfl
   have f2:w4.frozen? (wb,1)=false:=jk _ _ _ _ _ f;rw[z]at H;go_upto_region 8 with(at_builtin;refine aN rfl _ _ 53 rfl _ _ _ _ rfl rfl H ?_)
   obtain⟨w5,o⟩:∃w5,w5=w4.setCell (wb,1) (.slice pb (j+1) cb):=⟨_,rfl⟩;rw[<- o];have C5:aC wb w4 w5:=by rw[o];exact aC.set _ _ _ _
   have s:w5.heap[wb]? = some (.cells #[nv,.slice pb (j+1) cb,.slice p l.length cap,.slice none 0 0,.int .i64 (-1),.int .i64 0,.slice none 0 0] 57 (0,0)):=by
    rw[o,bV w4 wb 1 _ _ (.slice pb (j+1) cb) f];rfl
   have X:w5.ownsRow 0 60 1 nv j ((List.range j).map fun k=>.pointer (some ((r k).nd,0))):=by
    have o3:=gX a.n (ay.of (l:=[]) K) (fun g _ y=>by simp at y);have Zi:=gX o3 c4 (fun g C y=>by have q1:=a.tn g C;have q2:=a.tb g (by simpa using y);omega);exact gX Zi (ay.one (l:=[wb]) C5 sM) (fun g C y=>by
     have e:g=wb:=by simpa using y
     have q1:=a.tn g C;rw[e,a.t0]at q1;omega)
   obtain⟨pn,cn,w6,Y,o6,c6,v6⟩:=abA (w:=w5) (x.nd,0) X om;have u:=(c6.block wb (by have:=C5.size;have:=c4.size;have:=K.size;omega) (fun e=>by have:=a.tn wb (by simpa using e);have:=a.t0;omega)).trans s;have K8:Hid (∃E,NQ w0 w (w6.setCell (wb,0) (.slice pn (j+1) cn)) wb (.slice pn (j+1) cn) (.slice pb (j+1) cb) (aQ r j x) E p cap l (j+1)):=a.add HJ K x X3.1 X3.2.2 c4 (by rw[X3.2.1];exact o4) v4 o c6 o6 v6 rfl;have m1:w5.cell? (wb,0)=some (.slice U j V):=by rw[<- A];exact(aP _ _ _ _ _ _ s).trans rfl
   have l5:wb < w5.heap.size:=eF m1;have m2:w6.cell? (wb,0)=some (.slice U j V):=by rw[<- A];exact(aP _ _ _ _ _ _ u).trans rfl
   have g2:w6.frozen? (wb,0)=false:=jk _ _ _ _ _ u;rw[A]at Y;clear H k1 l1 k2 f2 m f s u X o4 c4 v4 o6 c6 v6 z A C5 o;go_wp2_with (at_builtin;refine aN rfl _ _ 52 rfl _ _ _ _ rfl rfl Y ?_)
   go_roundw
   case rel =>
    obtain⟨E,k⟩:=K8.out;exact⟨j+1,by omega,by go_num,_,_,_,_,k⟩
   case measure=>simp[intOf];omega
  ·obtain rfl:j=2:=by omega
   go_wp2_with fail;go_ret;obtain⟨D,rfl,k1,k2⟩:=a.fin HR;exact⟨D,rfl,k1,k2,a.bS⟩
section
variable {rl:List Rl} {G A:List ByteArray} {V:Wo} {i tks:Nat}
structure Ga (rl:List Rl) (G A:List ByteArray) (V:Wo) (i tks:Nat):Prop where
 a:A=E8 G (Wo.born rl)
 v:V=WH G (Wo.born rl)
 gl:G.length<=i
 sz:∀z ∈ G,z.size<=300
 tk:tks<=1500
 co:yH G<=tks+i
theorem Ga.len (h:Ga rl G A V i tks):A.length=G.length:=by rw[h.a,BG]
theorem Ga.more {t':Nat} (h:Ga rl G A V i tks) {y:ByteArray} (e:y.size<=300) (f:t'<=1500) (m:tks+oL y<=t'+1):Ga rl (G++[y]) (A++[dQ (oK y V).1]) (oK y V).2 (i+1) t':=by
 obtain⟨j,k,o,l,p,q⟩:=h;subst j k;refine⟨(uw _ _ _).2.symm,(uw _ _ _).1.symm,by simp;omega,fun z a=>?_,f,by rw[qU];omega⟩;rcases lU.1 a with a | a
 ·exact l z a
 ·simp at a;subst a;exact e
theorem Ga.skip (h:Ga rl G A V i tks):Ga rl G A V (i+1) tks:=⟨h.a,h.v,by have:=h.gl;omega,h.sz,h.tk,by have:=h.co;omega⟩
theorem yK {w0 w:World} {l q:Nat} {v v':Value} (h:Dv w0 w l V q v v' G A) (y:ByteArray) (m:TypeId) (K:G.length<=100) :
  ∃z w',(Builtin.append_ #[28,28] m #[v,.slice (some (w.heap.size,0)) 1 1]).run prog (w.alloc (.cells #[.string y] 9))=.ok z w'/\Dv w0 w' l V q z v' (G++[y]) A/\∃p c,z=.slice p (G.length+1) c:=by
 obtain⟨B,C,e,f,k⟩:=lu Tryz.SQ;have E:=h.below (aB w (.cells #[.string y] 9));obtain⟨D,u,d,r⟩:=E;have F:=d.d.bl.size;obtain⟨z,w',H,o,I,_,J⟩:=BX (P := prog) (w.alloc (.cells #[.string y] 9)) w0 28 m 9 B (.string ByteArray.empty) 1 16 Tryz.underlying28 C e f k rfl dC v G.length (G.map Value.string) d.g ⟨w.heap.size,0,none⟩ 1 1 [.string y] rfl (fun j x a=>by
  match j,a with
  | 0,a=>simp at a;subst a;simp[Addr.add]) (fun x s=>by simp at s;subst s;rfl) (by unfold maxLen;omega) om F
 refine⟨z,w',H,⟨D,u,d.grow (by simpa using o) I J,r⟩,Ju o⟩
theorem QV (v0:Value) (rl:List Rl) (v1:Value) (L:List Lm) (s:Nat->Addr) (w:World) (E:oI w s) (Nm:Ji w) (R:Sl w v0 rl) (LI:agS w v1 L) :
  Calls prog 3 #[v0,v1] w fun e w'=>e=.returned (.bool true)/\Below w w w':=by
 obtain⟨rp,rc,rfl,Zl⟩:=R.open;obtain⟨p,cap,rfl,ZE,hl⟩:=LI;have HE:Hid (oI w s/\Ji w):=⟨E,Nm⟩;have HR:Hid (Sl w (.slice rp rl.length rc) rl/\oQ w rp rl):=⟨R,Zl⟩;have HL:Hid (∀(i:Nat) m,L[i]? = some m->NP w m/\∃b o,p=some ⟨b,o,none⟩/\∀(j:Nat) u,(lmC m)[j]? = some u->w.cell? ⟨b,o+i * 8+j,none⟩=some u):=hl;clear E Nm R Zl hl ZE;go_enter func3,ntmps3;go_wp2_with fail;refine(Wp HE.1 HE.2).mono ?_;rintro e w2 ⟨rfl,b2⟩;have U:Hid (Below w w w2):=b2;clear b2;by_cases I:rl.length<=30/\L.length<=60
 rotate_left
 ·have ZF:(30:Int) < (rl.length:Int)\/((rl.length:Int)<=30/\(60:Int) < (L.length:Int)):=by omega
  clear I;rcases ZF with h | ⟨W,h⟩;all_goals
   go_wp2_with fail;go_ret;exact⟨rfl,U⟩
 have HN:Hid (rl.length<=30/\L.length<=60):=I;have n1:¬(30:Int) < (rl.length:Int):=by omega
 have n2:¬(60:Int) < (L.length:Int):=by omega
 clear I;go_wp2_with fail;refine(Pm rp rl rc w2 (fun i r hr=>?_) (by have:=HN.out;omega)).mono ?_
 ·obtain⟨b,o,e,h0,W,h2,X,h4⟩:=HR.2 i r hr;exact⟨b,o,e,tk U h0,tk U W,tk U h2,tk U X,tk U h4⟩
 rintro e J ⟨rfl,b3⟩;have B3:Hid (Below w w J):=t2 U b3;clear b3 U;have d1:decide ((30:Int) < (rl.length:Int))=false:=gQ om;have d2:decide ((60:Int) < (L.length:Int))=false:=gQ om;simp only[d1,d2,Bool.or_self];clear d1 d2 n1 n2;by_cases K:aF rl
 rotate_left
 ·have hf:=agT K;rw[hf];have Zm:=Ie 2 (jT rl).2 J;go_wp2_with fail;go_ret;exact⟨rfl,B3⟩
 have hf:jT rl=(0,-1):=by unfold jT;rw[ak (by have:=K.1;omega),K.2]
 rw[hf];have Zm:=Ie 0 (-1) J;simp only;have M:Hid (aF rl):=K;clear hf K;go_wp2_with fail;refine(abC (w0:=J) bR rp rc rl ⟨HR.2.below B3,by have:=HN.out;omega⟩ (fun i hi=>YI.zero.GR om hi M)).mono ?_;rintro e w4 ⟨D,rfl,rd,lo,b4⟩;have DV:Hid (Dv J w4 D.wb (Wo.born rl) 1 (.slice none 0 0) (.slice none 0 0) [] []):=⟨D,0,⟨rd,ql _ _ _ _,ql _ _ _ _,(fun g hg=>by cases hg),(fun g hg=>by cases hg),(fun g hg=>by cases hg)⟩,by omega,rfl,BH.born M,LE.born M⟩;obtain⟨db,Zn⟩:∃db,D.wb=db:=⟨_,rfl⟩;rw[Zn]at DV ⊢;clear rd lo b4 Zm Zn;go_wp2_with fail;go_loopw [6,7,9,10] (fun v6 v7 v9 Zg wr=>∃(i tks:Nat) (G A:List ByteArray) (V:Wo),i<=L.length/\Zg=.int .i64 i/\v9=.int .i64 tks/\Ga rl G A V i tks/\Dv J wr db V (1+yH G) v6 v7 G A) (fun _ _ _ Zg _=>L.length - (intOf Zg).toNat)
 case atStart=>exact⟨0,0,[],[],Wo.born rl,by omega,rfl,rfl,⟨rfl,rfl,by simp,fun z hz=>by simp at hz,by omega,by simp[yH]⟩,DV⟩
 case round =>
  obtain⟨i,tks,G,A,V,hi,rfl,rfl,ga,dv⟩:=hrel;have l:Hid (Ga rl G A V i tks/\Dv J wr db V (1+yH G) u6 u7 G A):=⟨ga,dv⟩;have ZR:=HN.2;clear ga dv DV;by_cases ZG:i < L.length
  ·obtain⟨m,hm⟩:∃m,L[i]? = some m:=⟨L[i],fD ZG⟩;obtain⟨Zp,b,o,rfl,q⟩:=HL.out i m hm;have f:Hid (Below w w wr):=t2 B3 l.2.bl;have HM:Hid (NP wr m):=Zp.below f;have c0:=tk f (q 0 _ rfl);have c1:=tk f (q 1 _ rfl);have c2:=tk f (q 2 _ rfl);have c3:=tk f (q 3 _ rfl);have c4:=tk f (q 4 _ rfl);have c5:=tk f (q 5 _ rfl);have c6:=tk f (q 6 _ rfl);have c7:=tk f (q 7 _ rfl);simp only[oV]at c0;have k0:(0:Int)<=(i:Int):=by omega
   have k1:(i:Int) < (L.length:Int):=by omega
   clear hm Zp q;by_cases h5:5 < m.ns.length
   ·have ZH:(5:Int) < (m.ns.length:Int):=by omega
    go_wp2_with fail;go_ret;exact⟨rfl,f⟩
   have ZH:¬(5:Int) < (m.ns.length:Int):=by omega
   by_cases h6:60 < m.x.size
   ·have ZI:(60:Int) < (m.x.size:Int):=by omega
    go_wp2_with fail;go_ret;exact⟨rfl,f⟩
   have ZI:¬(60:Int) < (m.x.size:Int):=by omega
   go_wp2_with fail;refine(abg m.x om m.ns m.z m.c m.p HM.p HM.n).mono ?_;rintro e w5 ⟨⟨y,bo,rfl,hy,P⟩,N⟩;have Zq:Hid (Below wr wr w5):=N;have Zr:Hid (Dv J w5 db V (1+yH G) u6 u7 G A):=l.2.below N;have ZT:=tk N c0;have Zt:=tk N c1;have ZU:=tk N c2;have ZV:=tk N c3;have ZW:=tk N c4;have ZX:=tk N c5;have ZY:=tk N c6;have c7':=tk N c7;clear N c0 c1 c2 c3 c4 c5 c6 c7
   cases bo with
   | false =>
    go_wp2_with fail;exact⟨⟨i+1,tks,G,A,V,by omega,by go_num,rfl,l.1.skip,Zr⟩,by simp[intOf];omega⟩
   | true =>
    obtain⟨k,Y,Zu,hq⟩:=afW (P rfl);have HQ:Hid (k < 18/\m.x=ky k/\LnQ k m.ns m.p y/\y.size<=300):=⟨Y,Zu,hq,hy⟩;have Zv:=l.1.tk;have Zw:=l.1.co;clear hq Y Zu hy;have Q:Hid (NsI w5 m.z m.ns):=HM.n.below Zq;have HAN:Hid (Calls prog 8 #[.pointer (some (db,0)),sG m.x (.slice m.z m.ns.length m.c) m.p] w5 fun e w'=>e=.returned (.string (dQ (oK y V).1))/\Dv J w' db (oK y V).2 (1+yH G+oL y) u6 u7 G A)\/1500 < oL y:=by
     rcases dX 1500 (oL y) with Zx | Zx
     ·exact .inr Zx
     ·refine .inl ?_;rw[HQ.2.1];exact ad2 Zr HQ.1 HQ.2.2.1 m.z m.c Q om om
    rcases abu (P rfl) with⟨hx,a,bb,hns,hb0,hb1,hco⟩ | ⟨hx,hco⟩
    ·have ZJ:(m.x.toList==[116,105,99,107])=true:=by rw[hx];simp[ky,ByteArray.toList_eq]
     obtain⟨ZK,Z,oz,Zh,dz⟩:=Q.out 1 bb (by rw[hns];rfl);have hl2:m.ns.length=2:=by rw[hns];rfl
     have c1x:=Zt;rw[Zh,hl2]at Zt;obtain⟨b9,ZL⟩:∃b9:Nat,bb=b9:=⟨bb.toNat,by omega⟩;subst ZL;simp only[fJ]at hco;clear hx P hns ZK;by_cases ZM:1500 < tks+b9
     ·have Zy:(1500:Int) < (tks:Int)+(b9:Int):=by omega
      go_wp2_with fail;go_ret;exact⟨rfl,t2 f Zq⟩
     have Zy:¬(1500:Int) < (tks:Int)+(b9:Int):=by omega
     have HT:Hid (tks+b9<=1500/\oL y<=1500/\tks+oL y<=tks+b9+1):=⟨by omega,by omega,by omega⟩;obtain HAN:=HAN.resolve_right om;rw[Zh,hl2]at HAN;unfold sG at HAN;have ET:Hid (((tks+b9:Nat):Int)=(tks:Int)+(b9:Int)):=by show _=_;omega
     clear Zh hl2 ZM Zw Zv hb0 hb1 hco;generalize tks+b9=O at *;go_wp2_with fail;refine HAN.mono ?_;rintro e w6 ⟨rfl,d6⟩;have F:=l.1.more HQ.2.2.2 HT.1 HT.2.2;obtain⟨T,hT⟩:∃T,dQ (oK y V).1=T:=⟨_,rfl⟩;obtain⟨V',hV⟩:∃V',(oK y V).2=V':=⟨_,rfl⟩;rw[hT,hV]at F;rw[hV]at d6;rw[hT];obtain⟨z7,w7,Zi,d7,p7,q7,rfl⟩:=yK d6 y 28 (by have:=l.1.gl;omega);obtain⟨z8,w8,Zj,d8,p8,q8,rfl⟩:=yK d7.swap T 28 (by have:=l.1.gl;have:=l.1.len;omega);have HF:Hid (Ga rl (G++[y]) (A++[T]) V' (i+1) O/\Dv J w8 db V' (1+yH (G++[y])) (.slice p7 (G.length+1) q7) (.slice p8 (A.length+1) q8) (G++[y]) (A++[T])):=⟨F,by rw[qU,<- JI];exact d8.swap⟩;clear F hT hV d6 d7 d8 HAN HQ Q;go_wp2_with (at_builtin;first | refine aN rfl _ _ 28 rfl _ _ _ _ rfl rfl Zi ?_ | refine aN rfl _ _ 28 rfl _ _ _ _ rfl rfl Zj ?_)
     exact⟨⟨i+1,O,G++[y],A++[T],V',by omega,by go_num,by rw[ET.out],HF.1,HF.2⟩,by simp[intOf];omega⟩
    ·obtain HAN:=HAN.resolve_right om;unfold sG at HAN;have ZJ:(m.x.toList==[116,105,99,107])=false:=dG.2 (fun e=>hx (bK e));obtain⟨O,ZN⟩:∃O,O=tks:=⟨_,rfl⟩;have HT:Hid (O<=1500/\oL y<=1500/\tks+oL y<=O+1):=⟨by omega,by omega,by omega⟩;have ET:Hid ((O:Int)=(tks:Int)):=by show _=_;omega
     clear hx P ZN Zv Zw hco;go_wp2_with fail;refine HAN.mono ?_;rintro e w6 ⟨rfl,d6⟩;have F:=l.1.more HQ.2.2.2 HT.1 HT.2.2;obtain⟨T,hT⟩:∃T,dQ (oK y V).1=T:=⟨_,rfl⟩;obtain⟨V',hV⟩:∃V',(oK y V).2=V':=⟨_,rfl⟩;rw[hT,hV]at F;rw[hV]at d6;rw[hT];obtain⟨z7,w7,Zi,d7,p7,q7,rfl⟩:=yK d6 y 28 (by have:=l.1.gl;omega);obtain⟨z8,w8,Zj,d8,p8,q8,rfl⟩:=yK d7.swap T 28 (by have:=l.1.gl;have:=l.1.len;omega);have HF:Hid (Ga rl (G++[y]) (A++[T]) V' (i+1) O/\Dv J w8 db V' (1+yH (G++[y])) (.slice p7 (G.length+1) q7) (.slice p8 (A.length+1) q8) (G++[y]) (A++[T])):=⟨F,by rw[qU,<- JI];exact d8.swap⟩;clear F hT hV d6 d7 d8 HAN HQ Q;go_wp2_with (at_builtin;first | refine aN rfl _ _ 28 rfl _ _ _ _ rfl rfl Zi ?_ | refine aN rfl _ _ 28 rfl _ _ _ _ rfl rfl Zj ?_)
     exact⟨⟨i+1,O,G++[y],A++[T],V',by omega,by go_num,by rw[ET.out],HF.1,HF.2⟩,by simp[intOf];omega⟩
  ·obtain rfl:i=L.length:=by omega
   have hil:¬(L.length:Int) < (L.length:Int):=by omega
   have ZO:=l.1.gl;have hal:=l.1.len;have ZP:∃vp vc B C,u6=.slice vp G.length vc/\u7=.slice B A.length C/\FN wr (.slice vp G.length vc) G/\FN wr (.slice B A.length C) A:=by
    obtain⟨D,u,d,_⟩:=l.2;obtain⟨vp,vc,e1,W,_,h2⟩:=aby d.g;obtain⟨B,C,e2,X,_,h4⟩:=aby d.a;exact⟨vp,vc,B,C,e1,e2,⟨_,_,rfl,W,h2⟩,⟨_,_,rfl,X,h4⟩⟩
   obtain⟨vp,vc,B,C,rfl,rfl,w1,Zz⟩:=ZP;have HW:Hid (FN wr (.slice vp G.length vc) G/\FN wr (.slice B A.length C) A/\Below w w wr):=⟨w1,Zz,t2 B3 l.2.bl⟩;have ZB:Hid (∀u,Below w w u->Calls prog 10 #[.slice rp rl.length rc] u fun e w'=>e=.returned (.string ⟨(iH rl).toArray⟩)/\Below u u w'):=fun u S=>VN rp rl rc u (fun i r hr=>by
    obtain⟨b,o,e,h0,W,h2,X,h4⟩:=HR.2 i r hr;exact⟨b,o,e,tk S h0,tk S W,tk S h2,tk S X,tk S h4⟩) M
   have H:Hid (A=E8 G (Wo.born rl)/\G.length<=60/\(∀z ∈ G,z.size<=300)/\yH G<=1600):=⟨l.1.a,by omega,l.1.sz,by have:=l.1.co;have:=l.1.tk;omega⟩;clear w1 Zz l HL ZO;go_wp2_with fail;refine(ZB wr HW.2.2).mono ?_;rintro e wa ⟨rfl,ba⟩;have BA:Hid (Below wr wr wa/\Below w w wa):=⟨ba,t2 HW.2.2 ba⟩;clear ba;go_wp2_with fail;refine(abn (HE.1.below BA.2) (HE.2.below BA.2) ⟨(iH rl).toArray⟩ rl (NK M) G _ (HW.1.below BA.1) (by have:=H.2.1;omega) (fun z hz=>by have:=H.2.2.1 z hz;omega) (by have:=H.2.2.2;omega)).mono ?_;rintro e wb ⟨Z,rfl,Zk,bb⟩;have BB:Hid (Below w w wb):=t2 BA.2 bb;have HS:Hid (∀u,Below wb wb u->Calls prog 11 #[.slice (some (Z,0)) G.length G.length,.slice B G.length C] u fun e w'=>e=.returned (.bool true)/\Below w w w'):=fun u S=>by
    have W:yJ u Z (E8 G (Wo.born rl)) G.length:=(S.block Z (gq Zk)).trans Zk;have hl:(E8 G (Wo.born rl)).length=G.length:=BG _ _;have ZC:FN u (.slice B A.length C) A:=(HW.2.1.below (t2 BA.1 bb)).below S;rw[H.1,hl]at ZC;have X:=Aj (some (Z,0)) B G.length C (E8 G (Wo.born rl)) u ⟨_,_,rfl,by omega,fun j y hy=>⟨Z,0,rfl,by rw[fE];exact W.at hy⟩⟩ (by rw[hl];exact ZC) (by have:=H.2.1;omega);rw[hl]at X;exact X.mono fun e w' ⟨he,hb⟩=>⟨he,t2 (t2 BB S) hb⟩
   clear Zk bb HW H ZB BA;go_wp2_with fail;refine(HS _ bR).mono ?_;rintro e we ⟨rfl,be⟩;have ZQ:Hid (Below w w we):=be;clear be HS;go_wp2_with fail;go_ret;exact⟨rfl,ZQ⟩
end
end Go.Proofs.YtnogmjekhjldcaaGreatDoor
