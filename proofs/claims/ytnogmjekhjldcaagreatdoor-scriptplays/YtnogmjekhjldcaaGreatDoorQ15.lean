/-
  What the claimed theorem reaches, part Q15.
-/
import Derived.Test.YtnogmjekhjldcaaGreatDoorQ14
import Derived.Lib.Overlaps
import Derived.Lib.AppendZerosOnto
namespace Go.Proofs.YtnogmjekhjldcaaGreatDoor
open Go.RowKit Go.Proofs.Tryz
set_option maxRecDepth 100000
set_option maxHeartbeats 8000000
section
variable {w w0:World} {K:WK} {t:Nat} {s:Nat->Addr}
theorem kD.heard {x:Wo} (h:kD w K x) (a b:Int):kD ((w.setCell (K.wb,5) a).setCell (K.wb,6) b) K {x with hn:=a,he:=b}:=by
 have e:=bV w _ 5 _ _ a h;have f:=bV _ _ 6 _ _ b e;exact f
theorem Wd.ahc {w':World} {x:Wo} (h:Wd w0 w K x t) {a b:Int} (g:aC K.wb w w') (e:kD w' K {x with hn:=a,he:=b}):Wd w0 w' K {x with hn:=a,he:=b} t:=by
 have i:=h.Ls;have j:ay [K.wb] w w':=ay.one g sM;have f:∀q ∈ [K.wb],w0.heap.size<=q/\K.tag q=0:=fun q k=>by
  simp only[dI,eY,fA]at k;subst k;exact⟨i.2,i.1⟩
 exact h.make [K.wb] j (fun b e=>⟨(f b e).1,by have:=(f b e).2;omega⟩) nL (fun _ _=>rfl) (fun b e=>h.al b (dL j.size e)) rfl e (.inr ⟨rfl,rfl,rfl,rfl,fun b e=>by have:=(f b e).2;omega⟩) (.inr ⟨rfl,rfl,rfl,rfl,fun b e=>by have:=(f b e).2;omega⟩) (.inr ⟨rfl,rfl,rfl⟩) (.inr ⟨rfl,rfl,rfl,fun b e=>by have:=(f b e).2;omega⟩) (.inr ⟨rfl,rfl,fun b e=>by have:=(f b e).2;omega⟩)
theorem ac6 {x:Wo} (h:Wd w0 w K x t) (n:Nf) (v:Value) :
  Calls prog 146 #[.pointer (some (K.wb,0)),.agg #[n.fr,n.li,n.ep,.bool n.cl,v]] w fun e w'=>e=.returned (.tuple #[])/\Wd w0 w' K (x.heard n) t/\Mv K K w w':=by
 have z:=jH h;clear h;go_enter func146,ntmps146;go_wp2_with fail;have j:Hid (Below w w (w.alloc (.cells #[n.fr,n.li,n.ep,.bool n.cl,v] 216))):=aB _ _;have k:=jH (Ac.new w n v);generalize w.alloc (.cells #[n.fr,n.li,n.ep,.bool n.cl,v] 216)=w1 at *;have B:Hid (w.heap.size<=w.heap.size):=bJ _;generalize w.heap.size=Q at k ⊢;have o:=jH (z.below j);have p:=k.b.c0;have q:=k.b.c2;have c5:=o.wb.c 5;have c6:=o.wb.c 6;by_cases a:x.he < n.ep
 ·have u:Hid (x.heard n={x with hn:=n.fr,he:=n.ep}):=by show _=_;unfold Wo.heard;rw[aj a]
  go_quiet (fail)
  have m:Hid (Below w1 w1 (w1.drewN nq)):=⟨rfl,rfl,rfl,bJ _,fun _ _=>rfl⟩;have f:=jH (o.below m);have y:Hid (Mv K K w (w1.drewN nq)):=(Mv.of j.out).then m;have C:=tk m p;have D:=tk m q;generalize w1.drewN nq=w2 at *;clear p q c5 c6 a;have E:=f.wb.fr 5;have F:=f.wb.fr 6;have c5:=f.wb.c 5;have c6:=f.wb.c 6;go_wp2_with fail;go_end0
  have g:aC K.wb w2 ((w2.setCell (K.wb,5) n.fr).setCell (K.wb,6) n.ep):=(aC.set _ _ _ _).trans (aC.set _ _ _ _);exact⟨rfl,by rw[u.out];exact f.ahc g (f.wb.heard _ _),y.trans (Mv.one f (i:=0) om (ay.one g (l:=[K.wb]) sM) (fun b A=>A))⟩
 ·have u:Hid (x.heard n=x):=by show _=_;unfold Wo.heard;rw[ak a]
  go_quiet (fail)
  have m:Hid (Below w1 w1 (w1.drewN nq)):=⟨rfl,rfl,rfl,bJ _,fun _ _=>rfl⟩;have f:=jH (o.below m);have y:Hid (Mv K K w (w1.drewN nq)):=(Mv.of j.out).then m;generalize w1.drewN nq=w2 at *;clear p q c5 c6 a;go_wp2_with fail;go_end0
  exact⟨rfl,by rw[u.out];exact f,y⟩
theorem LC {x:Wo} {n:Nf} {i:Nat} {y:No} (e:(1 - n.fr).toNat=i) (a:x.nd i=some y):x.handed n={x with nd:=aQ x.nd i (some (y.hrd n))}:=by unfold Wo.handed;rw[e,a]
theorem LG {x:Wo} {n:Nf} {i:Nat} (e:(1 - n.fr).toNat=i) (a:x.nd i=none):x.handed n=x:=by unfold Wo.handed;rw[e,a]
theorem YW (x:No) (n:Nf):(x.hrd n).ru=x.ru/\(x.hrd n).id=x.id/\(x.hrd n).now=x.now:=by
 unfold No.hrd;split <;> exact⟨rfl,rfl,rfl⟩
theorem ac7 {x:Wo} (S:jm w0 s) (h:Wd w0 w K x t) (n:Nf) (v:Value) (N:pU w K n v) :
  Calls prog 147 #[.pointer (some (K.wb,0)),.agg #[n.fr,n.li,n.ep,.bool n.cl,v]] w fun e w'=>e=.returned (.tuple #[])/\Wd w0 w' K (x.handed n) t/\Mv K K w w':=by
 obtain⟨i,P,I⟩:∃i:Nat,i < 2/\n.fr=1 - (i:Int):=by
  rcases N.2.2.2 with e | e
  ·exact⟨1,by omega,by omega⟩
  ·exact⟨0,by omega,by omega⟩
 have HS:=jH S;have HW:=jH h;have T:=jH N;have a:=jH P;have U:=jH ((by omega:(1 - n.fr).toNat=i));have B:IntKind.i64.wrap (1 - n.fr)=(i:Int):=by rw[iI];omega
 have j:1 - n.fr=(i:Int):=by omega
 have i0:=jN i
 have i1:(i:Int) < 2:=by omega
 have Zg:Hid (IntKind.i64.wrap (1 - n.fr)=(i:Int)/\1 - n.fr=(i:Int)):=⟨B,j⟩;clear S h N P I;go_enter func147,ntmps147;go_wp2_with fail;have C:Hid (Below w w (w.alloc (.cells #[n.fr,n.li,n.ep,.bool n.cl,v] 216))):=aB _ _;have l:=jH (Ac.new w n v);generalize w.alloc (.cells #[n.fr,n.li,n.ep,.bool n.cl,v] 216)=w1 at *;generalize w.heap.size=Q at l ⊢;have W1:=jH (HW.below C);have V:=l.b.c0;go_quiet (fail)
 have J:Hid (Below w1 w1 (w1.drewN nq)):=⟨rfl,rfl,rfl,bJ _,fun _ _=>rfl⟩;have z:=jH (W1.below J);have L:=jH (t2 C J);have Z2:=jH (l.below J);generalize w1.drewN nq=w2 at *;clear V;go_wp2_with fail;refine jM (x9 z.wb a) fun w3 W=>?_;obtain rfl:=W.symm;clear W
 cases f:x.nd i with
 | none =>
  have M:=jH (LG U f);have A:(K.nk i).isSome=false:=by rw[(z.sd a).iff,f];rfl
  rw[A];clear A f;go_wp2_with fail;go_end0
  exact⟨rfl,by rw[M.out];exact z,Mv.of L.out⟩
 | some y =>
  have M:=jH (LC U f);have D:(K.nk i).isSome=true:=by rw[(z.sd a).iff,f];rfl
  rw[D];obtain⟨k,m,n',A,nd,O,q1,q2,X,q4,q5,q6,q7,Y⟩:=z.up a f;obtain⟨⟨p,cap,rfl,R,Z⟩,hl,ho,_⟩:=T.out;have HC:Hid (∀u,Below w2 w2 u->Calls prog 185 #[.pointer (some (k.nd,0)),.agg #[n.fr,n.li,n.ep,.bool n.cl,.slice p n.cs.length cap]] u fun e w'=>e=.returned (aO s (y.IZ n))/\Wd w0 w' K (x.handed n) t/\Mv K K w w'):=fun u G =>
   (acY HS (nd.below G) n p cap (R.below (t2 L G)) (fun g o e q=>by have:=Z g o e;rw[q,Y _ k.FC]at this;have:=a.out;omega) om ho).mono fun e w' ⟨he,n2,c2⟩=>by
    have H:=z.below G;have q:=YW y n;refine⟨he,?_,((Mv.of L.out).then G).trans (Mv.one H (i:=i+1) (by have:=a.out;omega) c2 (by rw[kJ a.out A];exact fun _ h=>h))⟩;rw[M.out];exact H.Lr a A f n2 c2 nL om om (by rw[q.2.2];exact X) (by rw[q.2.2];omega) q.1 q.2.1
  have cn:=z.wb.cn a;rw[A]at cn;simp only[FH,nX]at cn;have zb:=Z2.b;obtain⟨V,z1,z2,z3,z4⟩:=zb;clear D A f nd O q1 q2 X q4 q5 q6 q7 Y R Z hl ho T;go_wp2_with fail;go_region_with (first
   | (go_at_call 185;refine jM (HC _ (by first | exact aH _ _ | exact bD | exact(aH _ _).drew.drew)) fun w3 ⟨E,F⟩=>?_;have H:=jH E;have M3:=jH F;clear E F))
  all_goals go_wp2_with fail
  all_goals go_end0
  all_goals exact⟨rfl,H,M3⟩
def Wo.nI (W:Wo) (n:Int):Wo:=if W.pK n=0 then (match W.fl[n.toNat]? with | some t=>W.delivered n.toNat t | none=>W) else W
theorem PG {x:Wo} (S:jm w0 s) (h:Wd w0 w K x t) (n:Int) :
  Calls prog 86 #[.pointer (some (K.wb,0)),n] w fun e w'=>e=.returned (aO s (x.pK n))/\∃K',Wd w0 w' K' (x.nI n) t/\Mw K K' w w':=by
 have Z:=jH S;have F:=jH (S.below h.bl);have k:=jH h;clear S h;go_enter func86,ntmps86;go_wp2_with fail;refine jM (zi k.wb k.fl n _ rfl) fun O P=>?_;obtain rfl:=P.symm;clear P;by_cases z:0<=n/\n < x.fl.length
 ·rw[gG z];obtain⟨i,rfl⟩:∃i:Nat,n=i:=⟨n.toNat,by omega⟩;have q:i < x.fl.length:=by omega
  have HI:Hid (i < x.fl.length):=q;obtain⟨tt,m⟩:∃tt,x.fl[i]? = some tt:=⟨x.fl[i],fD q⟩;obtain⟨v,G⟩:∃v,K.cv[i]? = some v:=⟨K.cv[i]'(by rw[k.fl.len];exact q),fD _⟩;have H:=jH (k.fl.ok i tt v m G);have u:Hid (x.pK (i:Int)=0/\x.nI (i:Int)=x.delivered i tt):=by
   have e:x.pK (i:Int)=0:=by unfold Wo.pK;rw[aj z]
   exact⟨e,by unfold Wo.nI;rw[aj e,fJ,m]⟩
  rcases k.fl.rows with⟨_,e⟩ | ⟨g,c,cur,hg,R,hc⟩
  ·rw[e]at q;simp at q
  have hr:=I4 m G;have r0:w.cell? (g,i * 5)=tt.fr:=R.cell (j:=0) hr om;have r1:w.cell? (g,i * 5+1)=tt.li:=R.cell hr om;have r2:w.cell? (g,i * 5+2)=tt.ep:=R.cell hr om;have r3:w.cell? (g,i * 5+3)=some (.bool tt.cl):=R.cell hr om;have r4:w.cell? (g,i * 5+4)=some v:=R.cell hr om;have c7:w.cell? (K.wb,7)=some (.slice (some (g,0)) x.fl.length c):=by have:=k.wb.c 7;rw[hg]at this;exact this
  have i0:=jN i
  have i1:(i:Int) < (x.fl.length:Int):=by omega
  have i2:=q;clear z q m G hg R hc hr;obtain⟨p,cap,I⟩:∃p cap,v=.slice p tt.cs.length cap:=by obtain⟨⟨p,cap,e,_⟩,_⟩:=H.out;exact⟨p,cap,e⟩
  subst I;go_wp2_with fail;have A:Below w w (w.alloc (.cells #[tt.fr,tt.li,tt.ep,.bool tt.cl,.slice p tt.cs.length cap] 216)):=aB _ _;have o:Hid (Ac (w.alloc (.cells #[tt.fr,tt.li,tt.ep,.bool tt.cl,.slice p tt.cs.length cap] 216)) w tt (.slice p tt.cs.length cap)):=Ac.new w tt _;generalize w.alloc (.cells #[tt.fr,tt.li,tt.ep,.bool tt.cl,.slice p tt.cs.length cap] 216)=O at *;have J:=jH A;have T:=jH (k.al _ nL);generalize w.heap.size=Q at o T ⊢;have W1:Hid (Wd w0 O K x t):=k.below J;have U:=jH (H.kept (ay.of (l:=[]) J) sM);clear A r0 r1 r2 r3 r4 c7 i0 i1 i2;refine(RZ W1 HI).mono ?_;rintro e w2 ⟨rfl,B,L,V⟩;have W:=jH B;have X:=jH ((Mv.of J.out).trans L);have N2:=jH (V _ _ U);have Z2:Hid (Ac w2 Q tt (.slice p tt.cs.length cap)):=by show w2.heap[Q]? = _;rw[L.block Q o.lt (.inl T)];exact o
  clear B L V U o H;have zb:=Z2.b;obtain⟨z0,z1,z2,Y,z4⟩:=zb
  cases a:tt.cl
  ·have M:Hid (x.delivered i tt=(x.aT i).handed tt):=by show _=_;unfold Wo.delivered;rw[a];rfl
   rw[a]at Y;have N:=jH a;clear a;go_wp2_with fail;have y:=ac7 Z W tt _ N2;rw[N.out]at y;refine y.mono ?_;rintro e C ⟨rfl,f,D⟩;have E:Hid (Wd w0 C (K.land i) ((x.aT i).handed tt) t/\Mv K (K.land i) w C):=⟨f,X.trans D⟩;clear f D y;go_wp2_with fail;go_ret;exact⟨by rw[u.1];rfl,_,by rw[u.2,M.out];exact E.1,E.2,fun _ _ e=>e⟩
  ·have M:Hid (x.delivered i tt=(x.aT i).heard tt):=by show _=_;unfold Wo.delivered;rw[a];rfl
   rw[a]at Y;have N:=jH a;clear a;go_wp2_with fail;have y:=ac6 W tt (.slice p tt.cs.length cap);rw[N.out]at y;refine y.mono ?_;rintro e C ⟨rfl,f,D⟩;have E:Hid (Wd w0 C (K.land i) ((x.aT i).heard tt) t/\Mv K (K.land i) w C):=⟨f,X.trans D⟩;clear f D y;go_wp2_with fail;go_ret;exact⟨by rw[u.1];rfl,_,by rw[u.2,M.out];exact E.1,E.2,fun _ _ e=>e⟩
 ·rw[gQ z];have u:Hid (x.pK n=4/\x.nI n=x):=by
   have e:x.pK n=4:=by unfold Wo.pK;rw[ak z]
   exact⟨e,by unfold Wo.nI;rw[ak om]⟩
  have s3:=F.c3;clear z;go_wp2_with fail;go_ret;exact⟨by rw[u.1];rfl,K,by rw[u.2];exact k,Mw.of bR⟩
theorem PI {x:Wo} (S:jm w0 s) (h:Wd w0 w K x t) (n:Int) :
  Calls prog 86 #[.pointer (some (K.wb,0)),n] w fun e w'=>e=.returned (aO s (x.pK n))/\∃K',Wd w0 w' K' (x.nI n) t/\Mv K K' w w' :=
 (PG S h n).mono fun _ _ ⟨e,K',a,m⟩=>⟨e,K',a,m.toMv⟩
end
section
variable {w w0:World} {g n cap t:Nat} {x:Wo}
theorem Tryz.YX:(prog.info? 165).map (fun i=>(i.zero,i.size,i.bytes))=some (some (.agg #[.int .i64 0,.int .i64 0]),2,16):=by kernel_rfl
def yt (l:List (Int×Int)):List Value:=l.flatMap fun e=>[e.1,e.2]
theorem YZ (l:List (Int×Int)) (a b:Int):yt (l++[(a,b)])=yt l++[.int .i64 a,.int .i64 b]:=by simp[yt]
theorem ownsRow_base {b f a:Nat} {e:TypeId} {xs:List Value} (h:w.ownsRow b e a (.slice (some (g,0)) n cap) n xs) (i:f<=g):w.ownsRow f e a (.slice (some (g,0)) n cap) n xs:=by
 obtain⟨j,k⟩:=h;rcases k with⟨q,_⟩ | ⟨g',cap',cur,q,_,r⟩
 ·cases q
 ·cases q
  exact⟨j,.inr ⟨_,_,cur,rfl,i,r⟩⟩
theorem GL {w':World} {b size c:Nat} {e:TypeId} {v:Value} {xs:List Value} (h:w.ownsRow b e size v n xs) (g:aC c w w') (k:v.ownBlock≠some c):w'.ownsRow b e size v n xs:=by
 obtain⟨l,m⟩:=h;refine⟨l,?_⟩;rcases m with q | ⟨i,f,cur,rfl,o,j,r⟩
 ·exact .inl q
 ·refine .inr ⟨i,f,cur,rfl,o,?_,r⟩;have p:i < w.heap.size:=by
   rcases dX i w with a | a
   ·exact a
   ·rw[eP a]at j;cases j
  rw[g.block i p (fun e=>k (by rw[<- e];rfl))];exact j
theorem vN (g n c:Nat):(Value.slice (some (g,0)) n c).ownBlock=some g:=rfl
theorem Wd.evo {K:WK} (h:Wd w0 w K x t):∃p c,GK K.eg x.ev.length=.slice p x.ev.length c/\w.ownsRow w0 165 2 (.slice p x.ev.length c) x.ev.length (yt x.ev)/\(∀g,(Value.slice p x.ev.length c).ownBlock=some g->K.tag g=4/\K.eg=some (g,c)):=by
 rcases h.ev.rows with⟨e1,e2⟩ | ⟨g,c,e,R⟩
 ·rw[e1,e2];exact⟨none,0,rfl,⟨rfl,.inl ⟨rfl,rfl⟩⟩,fun g a=>by cases a⟩
 ·have f:=h.tg 4 om g (by simp[WK.part,e]);rw[e];exact⟨_,c,rfl,ownsRow_base R f.2,fun i a=>by cases a;exact⟨f.1,rfl⟩⟩
def WK.evd (K:WK) (g c a:Nat):WK:={K with eg:=some (g,c),tag:=fun b=>if b < a then K.tag b else if b=g then 4 else 9}
theorem kD.evd {K:WK} (h:kD w K x) (g c a:Nat) (l:List (Int×Int)):kD (w.setCell (K.wb,8) (.slice (some (g,0)) l.length c)) (K.evd g c a) {x with ev:=l}:=by
 unfold kD;show(w.setCell (K.wb,8) (.slice (some (g,0)) l.length c)).heap[K.wb]? = _;rw[bV w _ _ _ _ _ h];rfl
theorem Wd.agt {w4:World} {K:WK} {g' c':Nat} {a b:Int} (h:Wd w0 w K x t) (z:ay (K.part 4) w w4) (own:w4.ownsRow w0 165 2 (.slice (some (g',0)) (x.ev.length+1) c') (x.ev.length+1) (yt x.ev++[.int .i64 a,.int .i64 b])) (E:g' ∈ K.part 4\/w.heap.size<=g') (H:x.ev.length < 1000) :
  Wd w0 (w4.setCell (K.wb,8) (.slice (some (g',0)) (x.ev.length+1) c')) (K.evd g' c' w) {x with ev:=x.ev++[(a,b)]} t/\Mv K (K.evd g' c' w) w (w4.setCell (K.wb,8) (.slice (some (g',0)) (x.ev.length+1) c')):=by
 have p:=h.Ls;have i:=h.tg 4 om;have k:¬K.wb ∈ K.part 4:=fun j=>by have:=(i _ j).1;omega
 have o:∀q ∈ K.wb::K.part 4,w0.heap.size<=q/\(K.tag q=0\/K.tag q=4):=fun q f=>by
  rcases dI.1 f with rfl | j
  ·exact⟨p.2,.inl p.1⟩
  ·exact⟨(i q j).2,.inr (i q j).1⟩
 have A:g'≠K.wb:=by
  rcases E with j | j
  ·exact fun e=>k (e ▸ j)
  ·have:=h.wb.lt;omega
 obtain⟨_,_,e,B,I,_,_⟩:∃g c,Value.slice (some (g',0)) (x.ev.length+1) c'=.slice (some ⟨g,0,none⟩) (x.ev.length+1) c/\w0.heap.size<=g/\g < w4.heap.size/\x.ev.length+1<=c/\c<=maxLen:=by
  rcases aJ own with⟨q,_⟩ | q
  ·cases q
  ·exact q
 cases e
 have F:aC K.wb w4 (w4.setCell (K.wb,8) (.slice (some (g',0)) (x.ev.length+1) c')):=aC.set _ _ _ _;have s:=h.wb.kept (z.block _ h.wb.lt k);have u:=s.evd g' c' w (x.ev++[(a,b)]);have l:(x.ev++[(a,b)]).length=x.ev.length+1:=by simp
 rw[l]at u;have y:=GL own F (by rw[vN];intro e;cases e;exact A rfl);have C:(w4.setCell (K.wb,8) (.slice (some (g',0)) (x.ev.length+1) c')).heap.size=w4.heap.size:=by simp[go_sem]
 generalize w4.setCell (K.wb,8) (.slice (some (g',0)) (x.ev.length+1) c')=w5 at *;have G:ay (K.wb::K.part 4) w w5:=(z.mono (fun q f=>.inl (dI.2 (.inr f)))).trans (ay.one F sM);have m:∀q,q < w.heap.size->(K.evd g' c' w).tag q=K.tag q:=fun q f=>aj f;have D:(K.evd g' c' w).tag g'=4:=by
  show(if g' < w.heap.size then K.tag g' else if g'=g' then 4 else 9)=4;rcases E with j | j
  ·rw[aj (h.lt (by have:=(i _ j).1;omega))];exact(i _ j).1
  ·rw[ak om,aj rfl]
 have ev:YU w5 (K.evd g' c' w) {x with ev:=x.ev++[(a,b)]}:=by
  refine⟨by show(x.ev++[(a,b)]).length<=1000;omega,.inr ⟨g',c',rfl,?_⟩⟩;show w5.ownsRow g' 165 2 (.slice (some (g',0)) (x.ev++[(a,b)]).length c') (x.ev++[(a,b)]).length (yt (x.ev++[(a,b)]));rw[l,YZ];exact ownsRow_base y nL
 refine⟨h.make (K.wb::K.part 4) G (fun q f=>⟨(o q f).1,by have:=(o q f).2;omega⟩) nL m (fun q f=>?_) rfl u (.inr ⟨rfl,rfl,rfl,rfl,fun q f=>by have:=(o q f).2;omega⟩) (.inr ⟨rfl,rfl,rfl,rfl,fun q f=>by have:=(o q f).2;omega⟩) (.inr ⟨rfl,rfl,rfl⟩) (.inr ⟨rfl,rfl,rfl,fun q f=>by have:=(o q f).2;omega⟩) (.inl ⟨ev,fun q f=>?_⟩),Mv.list h G (fun q f=>by have:=(o q f).2;omega) m rfl rfl⟩
 ·rw[C]at f;show(if q < w.heap.size then K.tag q else if q=g' then 4 else 9)=9;rw[ak (by have:=z.size;omega),ak om]
 ·have:q=g':=by simpa [WK.part,WK.evd] using f
  subst this;exact⟨D,B⟩
theorem afa (W:World) (a b:Int) (j:Nat) (u:Value) (e:[Value.int .i64 a,b][j]? = some u):(W.alloc (.cells #[a,b] 165)).cell? (Addr.add (W.heap.size,0) j)=some u:=by
 rw[fM];match j,e with
 | 0,e=>simp at e;subst e;simp[go_sem]
 | 1,e=>simp at e;subst e;simp[go_sem]
theorem U0 {K:WK} (h:Wd w0 w K x t) (a b:Int) :
  Calls prog 182 #[.pointer (some (K.wb,0)),.agg #[a,b]] w fun e w'=>e=.returned (.tuple #[])/\∃K',Wd w0 w' K' (x.noted (a,b)) t/\Mw K K' w w':=by
 obtain⟨p,c,Z,y,z⟩:=h.evo;obtain⟨i0,hi,M,N,O⟩:=lu Tryz.YX;have A:=jH h;have HV:=jH Z;have HO:=jH y;have H:=jH z;have Zg:=jH h.ev.le;clear h Z y z;go_enter func182,ntmps182;go_upto_region 1 with fail
 have o:Hid (Below w w (w.alloc (.cells #[a,b] 165))):=aB _ _;have I:(w.alloc (.cells #[a,b] 165)).cell? (w.heap.size,0)=a:=by simp[go_sem]
 have J:(w.alloc (.cells #[a,b] 165)).cell? (w.heap.size,1)=b:=by simp[go_sem]
 generalize w.alloc (.cells #[a,b] 165)=w1 at *;have HQ:=jH (A.al _ nL);generalize w.heap.size=Q at I J HQ ⊢;have R:=jH (A.below o);have L:w1.cell? (K.wb,8)=some (.slice p x.ev.length c):=by have:=R.wb.c 8;rw[<- HV.out];exact this
 by_cases B:x.ev.length < 1000
 ·have C:Hid (x.noted (a,b)={x with ev:=x.ev++[(a,b)]}):=by show _=_;unfold Wo.noted;rw[aj B]
  have D:(x.ev.length:Int) < 1000:=by omega
  go_wp2_with fail;have S:=jH B;have O1:(w1.drew.alloc (.cells #[a,b] 165)).ownsRow w0 165 2 (.slice p x.ev.length c) x.ev.length (yt x.ev):=jf HO (ay.of (l:=[]) (t2 o (t2 bD (aB _ _)))) sM;have s:Below w1 w1 (w1.drew.alloc (.cells #[a,b] 165)):=t2 bD (aB _ _);obtain⟨v',w4,hr,k,j,E,F⟩:=BX (P := prog) (w1.drew.alloc (.cells #[a,b] 165)) w0 167 167 165 i0 _ 2 16 Tryz.underlying167 hi M N O rfl dC (.slice p x.ev.length c) x.ev.length (yt x.ev) O1 ⟨w1.heap.size,0,none⟩ 1 1 [a,b] rfl (afa w1.drew a b) (by simp[Value.oneCell']) (by unfold maxLen;omega) om (by have:=R.bl.size;simp[go_sem];omega);obtain⟨g',c',rfl,T,U,V,W⟩:∃g' c',v'=.slice (some ⟨g',0,none⟩) (x.ev.length+1) c'/\w0.heap.size<=g'/\g' < w4.heap.size/\x.ev.length+1<=c'/\c'<=maxLen:=by
   rcases aJ k with⟨_,q⟩ | q
   ·omega
   ·exact q
  have X:Hid (some K.wb≠(Value.slice p x.ev.length c).ownBlock):=fun e=>by have:=(H _ e.symm).1;rw[A.Ls.1]at this;omega
  have G:Hid (some Q≠(Value.slice p x.ev.length c).ownBlock):=fun e=>by have:=(H _ e.symm).1;rw[HQ.out]at this;omega
  have s0:w1.drew.cell? (K.wb,8)=some (.slice p x.ev.length c)/\w1.drew.cell? (Q,0)=a/\w1.drew.cell? (Q,1)=b:=⟨L,I,J⟩;have s1:(w1.drew.alloc (.cells #[a,b] 165)).cell? (K.wb,8)=some (.slice p x.ev.length c)/\(w1.drew.alloc (.cells #[a,b] 165)).cell? (Q,0)=a/\(w1.drew.alloc (.cells #[a,b] 165)).cell? (Q,1)=b:=⟨tk s L,tk s I,tk s J⟩;have s2:w4.cell? (K.wb,8)=some (.slice p x.ev.length c)/\w4.cell? (Q,0)=a/\w4.cell? (Q,1)=b:=⟨j.cell s1.1 X,j.cell s1.2.1 G,j.cell s1.2.2 G⟩;have Y:ay (K.part 4) w w4:=(ay.of (t2 o s)).trans ⟨j.os,j.tape,j.output,j.size,fun q hq hn=>j.block q hq (fun e=>hn (by have:=(H q e.symm).2;simp[WK.part,this]))⟩;have hg:g' ∈ K.part 4\/w.heap.size<=g':=by
   rcases F with e | e
   ·have:=(H g' (e ▸ rfl)).2;exact .inl (by simp[WK.part,this])
   ·refine .inr ?_;have e2:g'=(w1.drew.alloc (.cells #[a,b] 165)).heap.size:=by cases e;rfl
    rw[e2];exact(t2 o s).size
  have m:=jH (A.agt Y k hg S);have f8:=(A.wb.kept (Y.block _ A.wb.lt (fun hm=>by have:=(A.tg 4 om _ hm).1;rw[A.Ls.1]at this;omega))).fr 8;obtain⟨x0,x1,x2⟩:=s0;obtain⟨y0,y1,y2⟩:=s1;obtain⟨z0,z1,z2⟩:=s2;have y3:(w1.alloc (.cells #[a,b] 165)).cell? (K.wb,8)=some (.slice p x.ev.length c):=tk (aB _ _) L;clear k j E F Y hg O1 T U V W L I J z1 z2;refine wp_region_any kr ?_;try (change wpAny _ _ _ _ _ _ _ (World.drew _))
  refine iJ (i:=0) (v:=?_) rfl kr kr kr (fun _ _ _ h=>h) (Or.inl ⟨by rfl,?_⟩) ?_;rotate_left
  ·intro u;go_simp;try (with_reducible rfl)
  simp only[sP];refine iJ (i:=1) (v:=?_) rfl kr kr kr (fun _ _ _ h=>h) (Or.inl ⟨by rfl,?_⟩) ?_;rotate_left
  ·intro u;go_simp;try (with_reducible rfl)
  simp only[sP];refine iJ (i:=2) (v:=?_) rfl kr kr kr (fun _ _ _ h=>h) (Or.inl ⟨by rfl,?_⟩) ?_;rotate_left
  ·intro u;go_simp;try (with_reducible rfl)
  simp only[sP];refine iJ (i:=3) (v:=?_) rfl kr kr kr (fun _ _ _ h=>h) (Or.inl ⟨by rfl,?_⟩) ?_;rotate_left
  ·intro u;go_simp;try (with_reducible rfl)
  simp only[sP];refine jZ (rs:=[4,5]) kr sM ?_;refine iY rfl (fun K f=>?_) ?_
  ·go_simp;refine f _ _ ?_;clear f K;try simp only[sP]
   refine jZ (rs:=[5]) kr sM ?_;refine iY rfl (fun K f=>?_) jX;go_simp;refine f _ _ ?_;clear f K;try simp only[sP]
   refine jZ (rs:=[6]) kr sM ?_;refine iY rfl (fun K f=>?_) jX;go_simp;refine f _ _ ?_;clear f K;try simp only[sP]
   refine jZ (rs:=[7]) kr sM ?_;refine iY rfl (fun K f=>?_) jX;refine Eq.mpr (aj kr) ?_;refine dM (Operand.tmp 14) (Operand.tmp 16) 167 rfl _ _ _ w4 rfl rfl hr ?_;refine f _ _ ?_;clear f K;try simp only[sP]
   refine iJ (i:=8) (v:=?_) rfl kr kr kr (fun _ _ _ h=>h) (Or.inl ⟨by rfl,?_⟩) ?_;rotate_left
   ·intro u;go_simp;try (with_reducible rfl)
   simp only[sP];refine iJ (i:=9) (v:=?_) rfl kr kr kr (fun _ _ _ h=>h) (Or.inl ⟨by rfl,?_⟩) ?_;rotate_left
   ·intro u;go_simp;try (with_reducible rfl)
   simp only[sP];refine jZ (rs:=[10]) kr sM ?_;refine iY rfl (fun K f=>?_) jX;go_simp;refine f _ _ ?_;clear f K;try simp only[sP]
   refine JJ kr ?_ _;go_wp2_with fail;go_end0
   exact⟨rfl,_,by rw[C.out];exact m.1,m.2,fun _ _ e=>e⟩
  refine iY rfl (fun K f=>?_) jX;go_simp;refine f _ _ ?_;clear f K;try simp only[sP]
  refine jZ (rs:=[4,6]) kr sM ?_;refine iY rfl (fun K f=>?_) ?_
  ·go_simp;refine f _ _ ?_;clear f K;try simp only[sP]
   refine jZ (rs:=[6]) kr sM ?_;refine iY rfl (fun K f=>?_) jX;go_simp;refine f _ _ ?_;clear f K;try simp only[sP]
   refine jZ (rs:=[7]) kr sM ?_;refine iY rfl (fun K f=>?_) jX;refine Eq.mpr (aj kr) ?_;refine dM (Operand.tmp 14) (Operand.tmp 16) 167 rfl _ _ _ w4 rfl rfl hr ?_;refine f _ _ ?_;clear f K;try simp only[sP]
   refine iJ (i:=8) (v:=?_) rfl kr kr kr (fun _ _ _ h=>h) (Or.inl ⟨by rfl,?_⟩) ?_;rotate_left
   ·intro u;go_simp;try (with_reducible rfl)
   simp only[sP];refine iJ (i:=9) (v:=?_) rfl kr kr kr (fun _ _ _ h=>h) (Or.inl ⟨by rfl,?_⟩) ?_;rotate_left
   ·intro u;go_simp;try (with_reducible rfl)
   simp only[sP];refine jZ (rs:=[10]) kr sM ?_;refine iY rfl (fun K f=>?_) jX;go_simp;refine f _ _ ?_;clear f K;try simp only[sP]
   refine JJ kr ?_ _;go_wp2_with fail;go_end0
   exact⟨rfl,_,by rw[C.out];exact m.1,m.2,fun _ _ e=>e⟩
  refine iY rfl (fun K f=>?_) jX;go_simp;refine f _ _ ?_;clear f K;try simp only[sP]
  refine jZ (rs:=[4]) kr sM ?_;refine iY rfl (fun K f=>?_) jX;go_simp;refine f _ _ ?_;clear f K;try simp only[sP]
  refine jZ (rs:=[7]) kr sM ?_;refine iY rfl (fun K f=>?_) jX;refine Eq.mpr (aj kr) ?_;refine dM (Operand.tmp 14) (Operand.tmp 16) 167 rfl _ _ _ w4 rfl rfl hr ?_;refine f _ _ ?_;clear f K;try simp only[sP]
  refine iJ (i:=8) (v:=?_) rfl kr kr kr (fun _ _ _ h=>h) (Or.inl ⟨by rfl,?_⟩) ?_;rotate_left
  ·intro u;go_simp;try (with_reducible rfl)
  simp only[sP];refine iJ (i:=9) (v:=?_) rfl kr kr kr (fun _ _ _ h=>h) (Or.inl ⟨by rfl,?_⟩) ?_;rotate_left
  ·intro u;go_simp;try (with_reducible rfl)
  simp only[sP];refine jZ (rs:=[10]) kr sM ?_;refine iY rfl (fun K f=>?_) jX;go_simp;refine f _ _ ?_;clear f K;try simp only[sP]
  refine JJ kr ?_ _;go_wp2_with fail;go_end0
  exact⟨rfl,_,by rw[C.out];exact m.1,m.2,fun _ _ e=>e⟩
 ·have C:Hid (x.noted (a,b)=x):=by show _=_;unfold Wo.noted;rw[ak B]
  have D:¬(x.ev.length:Int) < 1000:=by omega
  go_wp2_with fail;go_end0
  exact⟨rfl,K,by rw[C.out];exact R,Mw.of o.out⟩
theorem pX.own {base:Nat} {R:List (List Value)} {cur:Array Value} (h:pX w g cap R cur) (f:cap<=maxLen) (i:base<=g):w.ownsRow base 216 5 (.slice (some (g,0)) R.length cap) R.length R.flatten:=by
 refine⟨lI h.ok,.inr ⟨g,cap,cur,rfl,i,h.h,h.le,f,h.sz,?_⟩⟩;refine List.ext_getElem? fun k=>?_;by_cases a:k < R.length * 5
 ·rw[kG,aj a,sQ];have e:k=k / 5 * 5+k % 5:=by omega
  have hr:R[k / 5]? = some R[k / 5]:=fD om;rw[e,flat_get h.ok (k / 5) (k % 5) om,hr,h.at' (k / 5) _ (k % 5) hr om];rfl
 ·rw[kG,ak a,WU (by rw[lI h.ok];omega)]
theorem pX.pF {base:Nat} {R:List (List Value)} (h:w.ownsRow base 216 5 (.slice (some (g,0)) n cap) n R.flatten) (a:∀r ∈ R,Five r) (k:R.length=n):∃cur,pX w g cap R cur:=by
 rcases h.2 with⟨q,_⟩ | ⟨g',cap',cur,q,q1,q2,q3,q4,q5,q6⟩
 ·cases q
 ·cases q
  refine⟨cur,q2,q5,by omega,fun i r j hr f=>?_,a⟩;have l:=(List.getElem?_eq_some_iff.1 hr).1;have e:=flat_get a i j f;rw[<- q6,kG,aj om,sQ,hr]at e;exact e
theorem LH {t:Nf} {v:Value} {K:WK} (h:pU w K t v):Five (oU t v):=by
 obtain⟨⟨p,cap,rfl,_⟩,_⟩:=h;refine⟨rfl,fun u a=>?_⟩;simp only[oU,dI,eY,fA]at a;rcases a with rfl | rfl | rfl | rfl | rfl <;> rfl
theorem LK {K:WK} {l:List Nf} {f:List Value} (h:∀(i:Nat) t v,l[i]? = some t->f[i]? = some v->pU w K t v):∀r ∈ gW l f,Five r:=fun r hr=>by
 obtain⟨i,a⟩:=Aq hr;rw[gW,abR]at a
 cases e:l[i]? with
 | none=>rw[e]at a;cases a
 | some t =>
  cases j:f[i]? with
  | none=>rw[e,j]at a;cases a
  | some v =>
   rw[e,j]at a
   cases a
   exact LH (h i t v e j)
def fgT (a:Option (Nat×Nat)) (b:Nat):Nat:=match a with | some (g,_)=>if b=g then 3 else 9 | none=>9
def WK.LM (K:WK) (fg:Option (Nat×Nat)) (cv:List Value) (a:Nat):WK:={K with fg:=fg,cv:=cv,tag:=fun b=>if b < a then K.tag b else fgT fg b}
theorem kD.LM {K:WK} (h:kD w K x) (e:Option (Nat×Nat)) (f:List Value) (a:Nat) (l:List Nf):kD (w.setCell (K.wb,7) (GK e l.length)) (K.LM e f a) {x with fl:=l}:=by
 unfold kD;show(w.setCell (K.wb,7) (GK e l.length)).heap[K.wb]? = _;rw[bV w _ _ _ _ _ h];rfl
theorem Wd.aen {w4:World} {K:WK} {l':List Nf} {cv':List Value} {fg':Option (Nat×Nat)} (h:Wd w0 w K x t) (I:ay (K.part 3) w w4) (len:cv'.length=l'.length) (le:l'.length<=200)
  (ok:∀(i:Nat) p v,l'[i]? = some p->cv'[i]? = some v->pU w K p v)
  (rows:(fg'=none/\l'=[])\/∃g' c',fg'=some (g',c')/\(g' ∈ K.part 3\/w.heap.size<=g')/\w4.ownsRow w0 216 5 (.slice (some ⟨g',0,none⟩) l'.length c') l'.length (gW l' cv').flatten) :
  Wd w0 (w4.setCell (K.wb,7) (GK fg' l'.length)) (K.LM fg' cv' w) {x with fl:=l'} t/\Mv K (K.LM fg' cv' w) w (w4.setCell (K.wb,7) (GK fg' l'.length)):=by
 have u:=h.Ls;have j:=h.tg 3 om;have m:¬K.wb ∈ K.part 3:=fun f=>by have:=(j _ f).1;omega
 have s:∀q ∈ K.wb::K.part 3,w0.heap.size<=q/\(K.tag q=0\/K.tag q=3):=fun q a=>by
  rcases dI.1 a with rfl | f
  ·exact⟨u.2,.inl u.1⟩
  ·exact⟨(j q f).2,.inr (j q f).1⟩
 have J:aC K.wb w4 (w4.setCell (K.wb,7) (GK fg' l'.length)):=aC.set _ _ _ _;have y:=h.wb.kept (I.block _ h.wb.lt m);have D:=y.LM fg' cv' w l';have L:(w4.setCell (K.wb,7) (GK fg' l'.length)).heap.size=w4.heap.size:=by simp[go_sem]
 generalize w4.setCell (K.wb,7) (GK fg' l'.length)=w5 at *;have C:ay (K.wb::K.part 3) w w5:=(I.mono (fun q a=>.inl (dI.2 (.inr a)))).trans (ay.one J sM);have k:∀q,q < w.heap.size->(K.LM fg' cv' w).tag q=K.tag q:=fun q a=>aj a;have M:∀b,K.tag b=5->(K.LM fg' cv' w).tag b=5:=fun b o=>by rw[k b (h.lt om)];exact o
 have z:∀(i:Nat) p v,l'[i]? = some p->cv'[i]? = some v->pU w5 (K.LM fg' cv' w) p v:=fun i p v N O=>((ok i p v N O).kept C (fun q a=>by have:=(s q a).2;omega)).turn M;have l:Oa w5 (K.LM fg' cv' w) {x with fl:=l'}/\(∀b ∈ (K.LM fg' cv' w).part 3,(K.LM fg' cv' w).tag b=3/\w0.heap.size<=b/\b < w5.heap.size):=by
  rcases rows with⟨rfl,rfl⟩ | ⟨g',c',rfl,hg,own⟩
  ·exact⟨⟨len,by simp,z,.inl ⟨rfl,rfl⟩⟩,fun b o=>by simp[WK.part,WK.LM]at o⟩
  ·obtain⟨E,P,F⟩:w0.heap.size<=g'/\g' < w4.heap.size/\c'<=maxLen:=by
    rcases aJ own with⟨q,_⟩ | ⟨g,c,q,q1,q2,q3,q4⟩
    ·cases q
    ·cases q;exact⟨q1,q2,q4⟩
   have G:g'≠K.wb:=by
    rcases hg with f | f
    ·exact fun e=>m (e ▸ f)
    ·have:=h.wb.lt;omega
   have A:=GL own J (by rw[vN];intro e;cases e;exact G rfl);obtain⟨cur,R⟩:=pX.pF A (LK ok) (xZ len);refine⟨⟨len,le,z,.inr ⟨g',c',cur,rfl,R,by unfold maxLen at F;omega⟩⟩,fun b o=>?_⟩;have e:b=g':=by simpa [WK.part,WK.LM] using o
   subst e;refine⟨?_,E,by omega⟩;show(if b < w.heap.size then K.tag b else if b=b then 3 else 9)=3;rcases hg with f | f
   ·rw[aj (h.lt (by have:=(j _ f).1;omega))];exact(j _ f).1
   ·rw[ak om,aj rfl]
 refine⟨h.make (K.wb::K.part 3) C (fun q a=>⟨(s q a).1,by have:=(s q a).2;omega⟩) nL k (fun q a=>?_) rfl D (.inr ⟨rfl,rfl,rfl,rfl,fun q a=>by have:=(s q a).2;omega⟩) (.inr ⟨rfl,rfl,rfl,rfl,fun q a=>by have:=(s q a).2;omega⟩) (.inr ⟨rfl,rfl,rfl⟩) (.inl ⟨l.1,fun b o=>⟨(l.2 b o).1,(l.2 b o).2.1⟩⟩) (.inr ⟨rfl,rfl,fun q a=>by have:=(s q a).2;omega⟩),Mv.list h C (fun q a=>by have:=(s q a).2;omega) k rfl rfl⟩;have B:¬q ∈ (K.LM fg' cv' w).part 3:=fun f=>by have:=(l.2 q f).2.2;omega
 have H:¬q < w.heap.size:=by have:=C.size;omega
 show(if q < w.heap.size then K.tag q else fgT fg' q)=9;rw[ak H]
 cases fg' with
 | none=>rfl
 | some gc =>
  obtain⟨g,c⟩:=gc;show(if q=g then 3 else 9)=9;rw[ak (fun e=>B (by simp[WK.part,WK.LM,e]))]
theorem Wd.flo {K:WK} (h:Wd w0 w K x t):∃p c,GK K.fg x.fl.length=.slice p x.fl.length c/\w.ownsRow w0 216 5 (.slice p x.fl.length c) x.fl.length (gW x.fl K.cv).flatten/\(∀g,(Value.slice p x.fl.length c).ownBlock=some g->K.tag g=3/\K.fg=some (g,c)):=by
 rcases h.fl.rows with⟨e1,e2⟩ | ⟨g,c,cur,e,R,hc⟩
 ·rw[e1,e2];exact⟨none,0,rfl,⟨rfl,.inl ⟨rfl,rfl⟩⟩,fun g a=>by cases a⟩
 ·have f:=h.tg 3 om g (by simp[WK.part,e]);rw[e];have own:=R.own (base:=w0.heap.size) (by unfold maxLen;omega) f.2;rw[xZ h.fl.len]at own;exact⟨_,c,rfl,own,fun i a=>by cases a;exact⟨f.1,rfl⟩⟩
theorem PN {l m:List Nf} {a cw:List Value} (h:a.length=l.length):gW (l++m) (a++cw)=gW l a++gW m cw:=by unfold gW;exact List.zipWith_append h.symm
theorem ac8 {K:WK} (h:Wd w0 w K x t) (l:List Nf) (a:List Value) (p:Option Addr) (cap:Nat) (hl:a.length=l.length) (h8:l.length<=8) (O:l.length<=cap) (hp:l=[]->p=none/\cap=0)
  (M:∀(i:Nat) k v,l[i]? = some k->a[i]? = some v->pU w K k v/\∃g,p=some ⟨g,0,none⟩/\∀(j:Nat) u,(oU k v)[j]? = some u->w.cell? ⟨g,i * 5+j,none⟩=some u) :
  Calls prog 183 #[.pointer (some (K.wb,0)),.slice p l.length cap] w fun e w'=>e=.returned (.tuple #[])/\∃K',Wd w0 w' K' (x.sent l) t/\Mw K K' w w':=by
 obtain⟨P,c,W,B,E⟩:=h.flo;obtain⟨i0,hi,X,Y,Z⟩:=lu Tryz.xY;have Zg:=h.fl.le;have c7:w.cell? (K.wb,7)=some (.slice P x.fl.length c):=by have:=h.wb.c 7;rw[<- W];exact this
 obtain⟨m,Q⟩:∃m,m=min l.length (200 - x.fl.length):=⟨_,rfl⟩;have C:(l.take m).length=m:=by rw[qE];omega
 have F:(a.take m).length=m:=by rw[qE];omega
 have D:∀(i:Nat) k v,(l.take m)[i]? = some k->(a.take m)[i]? = some v->i < m/\l[i]? = some k/\a[i]? = some v:=fun i k v o z=>by
  rw[kG]at o z;by_cases N:i < m
  ·rw[aj N]at o z;exact⟨N,o,z⟩
  ·rw[ak N]at o;cases o
 have s:=LK (w:=w) (K:=K) (fun i k v o z=>(M i k v (D i k v o z).2.1 (D i k v o z).2.2).1);have Zh:∃v' w4,(Builtin.append_ #[166,166] 166 #[.slice P x.fl.length c,.slice p m cap]).run prog w.drew=.ok v' w4/\w4.ownsRow w0 216 5 v' (x.fl.length+m) (gW x.fl K.cv++gW (l.take m) (a.take m)).flatten/\w.drew.grownBy w4 (Value.slice P x.fl.length c).ownBlock/\(v'.ownBlock=(Value.slice P x.fl.length c).ownBlock\/v'.ownBlock=some w.drew.heap.size):=by
  cases hl0:l with
  | nil =>
   obtain⟨rfl,rfl⟩:=hp hl0;have Zi:m=0:=by rw[Q,hl0];simp
   subst Zi;exact⟨_,_,run_append_owned_none (P := prog) w.drew w0 166 166 216 i0 5 Tryz.underlying166 hi _ _ _ (jf B (ay.of (l:=[]) bD) sM),by simpa [gW] using jf B (ay.of (l:=[]) bD) sM,⟨rfl,rfl,rfl,bJ _,fun _ _ _=>rfl⟩,.inl rfl⟩
  | cons t0 l0 =>
   have h0:l[0]? = some t0:=by rw[hl0];rfl
   obtain⟨v0,Zj⟩:∃v,a[0]? = some v:=⟨a[0]'(by rw[hl,hl0];simp),fD _⟩;obtain⟨_,g,rfl,_⟩:=M 0 t0 v0 h0 Zj;obtain⟨v',w4,a1,a2,a3,_,a5⟩:=BX (P := prog) w.drew w0 166 166 216 i0 _ 5 56 Tryz.underlying166 hi X Y Z rfl dC (.slice P x.fl.length c) x.fl.length (gW x.fl K.cv).flatten (jf B (ay.of (l:=[]) bD) sM) ⟨g,0,none⟩ m cap (gW (l.take m) (a.take m)).flatten (by rw[lI s,xZ om,C]) (fun j u hj=>by
     rw[fM,fE];have e:j=j / 5 * 5+j % 5:=by omega
     rw[e,flat_get s (j / 5) (j % 5) om]at hj;obtain⟨r,hr,hu⟩:=Option.bind_eq_some_iff.1 hj;rw[gW,abR]at hr
     cases o:(l.take m)[j / 5]? with
     | none=>rw[o]at hr;cases hr
     | some k =>
      cases z:(a.take m)[j / 5]? with
      | none=>rw[o,z]at hr;cases hr
      | some v =>
       rw[o,z]at hr
       cases hr
       obtain⟨_,g2,e2,hc⟩:=M _ k v (D _ k v o z).2.1 (D _ k v o z).2.2
       cases e2
       rw[e];exact hc (j % 5) u hu) (tY s) (by unfold maxLen;omega) om (by have:=h.bl.size;exact this)
   exact⟨v',w4,a1,by rw[List.flatten_append,<- hl0];exact a2,a3,a5⟩
 obtain⟨v',w4,hr,y,f,R⟩:=Zh;have C4:ay (K.part 3) w w4:=⟨f.os,f.tape,f.output,f.size,fun q V M=>f.block q V (fun e=>M (by have:=(E q e.symm).2;simp[WK.part,this]))⟩;have A:(x.fl++l.take m).length=x.fl.length+m:=by rw[jw,C]
 obtain⟨fg',S,G⟩:∃fg',v'=GK fg' (x.fl++l.take m).length/\((fg'=none/\x.fl++l.take m=[])\/∃J c',fg'=some (J,c')/\(J ∈ K.part 3\/w.heap.size<=J)/\w4.ownsRow w0 216 5 (.slice (some ⟨J,0,none⟩) (x.fl++l.take m).length c') (x.fl++l.take m).length (gW (x.fl++l.take m) (K.cv++a.take m)).flatten):=by
  rw[PN h.fl.len,A];rcases aJ y with⟨e,e0⟩ | ⟨J,c',e,_⟩
  ·exact⟨none,e,.inl ⟨rfl,List.length_eq_zero_iff.1 om⟩⟩
  ·refine⟨some (J,c'),e,.inr ⟨J,c',rfl,?_,e ▸ y⟩⟩;rcases R with q | q
   ·rw[e]at q;have:=(E J q.symm).2;exact .inl (by simp[WK.part,this])
   ·rw[e]at q;have e2:J=w.heap.size:=by cases q;rfl
    exact .inr om
 have T:Hid (Wd w0 (w4.setCell (K.wb,7) v') (K.LM fg' (K.cv++a.take m) w) (x.sent l) t/\Mv K (K.LM fg' (K.cv++a.take m) w) w (w4.setCell (K.wb,7) v')):=by
  have hx:x.sent l={x with fl:=x.fl++l.take m}:=by
   unfold Wo.sent;have:l.take (200 - x.fl.length)=l.take m:=by
    rw[Q];by_cases V:l.length<=200 - x.fl.length
    ·rw[Nat.min_eq_left V,vk V,xH]
    ·rw[Nat.min_eq_right om]
   rw[this]
  rw[S,hx];refine h.aen C4 (by rw[jw,jw,h.fl.len,F,C]) (by rw[A];omega) (fun i k v o z=>?_) G;by_cases U:i < x.fl.length
  ·rw[qW U]at o;rw[qW (by rw[h.fl.len];exact U)]at z;exact h.fl.ok i k v o z
  ·rw[xA om]at o;rw[xA (by rw[h.fl.len];omega),h.fl.len]at z;have q:=D _ k v o z;exact(M _ k v q.2.1 q.2.2).1
 have d7:=c7;have H:=h.wb.kept (C4.block _ h.wb.lt (fun Q=>by have:=(h.tg 3 om _ Q).1;rw[h.Ls.1]at this;omega));have f7:=H.fr 7;have e7:w4.cell? (K.wb,7)=some (.slice P x.fl.length c):=by have:=H.c 7;rw[<- W];exact this
 obtain⟨vp,vn,vc,hv⟩:∃vp vn vc,v'=.slice vp vn vc:=by
  rcases aJ y with⟨e,_⟩ | ⟨J,c',e,_⟩
  ·exact⟨_,_,_,e⟩
  ·exact⟨_,_,_,e⟩
 subst hv;have r0:IntKind.i64.wrap (200 - (x.fl.length:Int))=200 - (x.fl.length:Int):=by rw[iI];omega
 have m1:(if 200 - (x.fl.length:Int) < (l.length:Int) then 200 - (x.fl.length:Int) else (l.length:Int))=(m:Int):=by split <;> omega
 have m2:=jN m
 have m3:(m:Int)<=(cap:Int):=by omega
 clear h W B E hl h8 O hp M C F D s y f R C4 A S G H Zg Q;go_enter func183,ntmps183;go_wp2_with fail;refine wp_region_any kr ?_;try (change wpAny _ _ _ _ _ _ _ (World.drew _))
 refine iJ (i:=0) (v:=?_) rfl kr kr kr (fun _ _ _ h=>h) (Or.inl ⟨by rfl,?_⟩) ?_;rotate_left
 ·intro I;go_simp;try (with_reducible rfl)
 simp only[sP];refine iJ (i:=1) (v:=?_) rfl kr kr kr (fun _ _ _ h=>h) (Or.inl ⟨by rfl,?_⟩) ?_;rotate_left
 ·intro I;go_simp;try (with_reducible rfl)
 simp only[sP];refine iJ (i:=2) (v:=?_) rfl kr kr kr (fun _ _ _ h=>h) (Or.inl ⟨by rfl,?_⟩) ?_;rotate_left
 ·intro I;go_simp;try (with_reducible rfl)
 simp only[sP];refine iJ (i:=3) (v:=?_) rfl kr kr kr (fun _ _ _ h=>h) (Or.inl ⟨by rfl,?_⟩) ?_;rotate_left
 ·intro I;go_simp;try (with_reducible rfl)
 simp only[sP];refine iJ (i:=5) (v:=?_) rfl kr kr kr (fun _ _ _ h=>h) (Or.inl ⟨by rfl,?_⟩) ?_;rotate_left
 ·intro I;go_simp;try (with_reducible rfl)
 simp only[sP];refine iJ (i:=6) (v:=?_) rfl kr kr kr (fun _ _ _ h=>h) (Or.inl ⟨by rfl,?_⟩) ?_;rotate_left
 ·intro I;go_simp;try (with_reducible rfl)
 simp only[sP];refine iJ (i:=7) (v:=?_) rfl kr kr kr (fun _ _ _ h=>h) (Or.inl ⟨by rfl,?_⟩) ?_;rotate_left
 ·intro I;go_simp;try (with_reducible rfl)
 simp only[sP];refine iJ (i:=8) (v:=?_) rfl kr kr kr (fun _ _ _ h=>h) (Or.inl ⟨by rfl,?_⟩) ?_;rotate_left
 ·intro I;go_simp;try (with_reducible rfl)
 simp only[sP];refine iJ (i:=9) (v:=?_) rfl kr kr kr (fun _ _ _ h=>h) (Or.inl ⟨by rfl,?_⟩) ?_;rotate_left
 ·intro I;go_simp;try (with_reducible rfl)
 simp only[sP];refine iJ (i:=10) (v:=?_) rfl kr kr kr (fun _ _ _ h=>h) (Or.inl ⟨by rfl,?_⟩) ?_;rotate_left
 ·intro I;go_simp;try (with_reducible rfl)
 simp only[sP];refine jZ (rs:=[4]) kr sM ?_;refine iY rfl (fun K L=>?_) jX;go_simp;refine L _ _ ?_;clear L K;try simp only[sP]
 refine jZ (rs:=[11]) kr sM ?_;refine iY rfl (fun K L=>?_) jX;refine Eq.mpr (aj kr) ?_;refine dM (Operand.tmp 15) (Operand.tmp 21) 166 rfl _ _ _ w4 rfl rfl hr ?_;refine L _ _ ?_;clear L K;try simp only[sP]
 refine iJ (i:=12) (v:=?_) rfl kr kr kr (fun _ _ _ h=>h) (Or.inl ⟨by rfl,?_⟩) ?_;rotate_left
 ·intro I;go_simp;try (with_reducible rfl)
 simp only[sP];refine iJ (i:=13) (v:=?_) rfl kr kr kr (fun _ _ _ h=>h) (Or.inl ⟨by rfl,?_⟩) ?_;rotate_left
 ·intro I;go_simp;try (with_reducible rfl)
 simp only[sP];refine jZ (rs:=[14]) kr sM ?_;refine iY rfl (fun K L=>?_) jX;go_simp;refine L _ _ ?_;clear L K;try simp only[sP]
 refine JJ kr ?_ _;go_wp2_with fail;go_end0
 exact⟨rfl,_,T.1,T.2,fun _ _ e=>e⟩
end
section
variable {w:World} {g cap k:Nat}
theorem wU {P:Program} {o:Oper} {a:Act} {K:Act->World->Prop} {Q:Exit->Act->World->Prop} (d s:Operand) (t:TypeId) (e:o.op=.call {callee:=.builtin .copy,args:=#[d,s],argTypes:=#[t,t]})
  (u v v':Value) (w':World) (f:a.eval d=u) (i:a.eval s=v) (hr:(Builtin.copy_ #[t,t] o.type #[u,v]).run P w=.ok v' w') (h:K (a.put o.dst v') w'):o.wp P a w K Q:=by
 unfold Oper.wp execOp;simp only[e,resolve,invoke,builtin,nM,qX,pR,List.map_toArray,WW,TP,f,i,hr];exact h
theorem tZ {P:Program} {e:Array Oper} {rest:List Oper} {o:Oper} {a:Act} {Q:Exit->Act->World->Prop} (f:o.guard=none) (d s:Operand) (t:TypeId) (i:o.op=.call {callee:=.builtin .copy,args:=#[d,s],argTypes:=#[t,t]})
  (u v v':Value) (w':World) (j:a.eval d=u) (l:a.eval s=v) (hr:(Builtin.copy_ #[t,t] o.type #[u,v]).run P w=.ok v' w') (h:wpList P e Q rest (a.put o.dst v') w'):wpList P e Q (o::rest) a w :=
 Xd f fun _ m=>wU d s t i u v v' w' j l hr (m _ _ h)
theorem Bj {cur:Array Value} (h:w.heap[g]? = some (.cells cur 216 (0,0))) (o n s z sl x:Nat) (p:Addr) (news:List Value) (A:Nat.min sl s=n) (a:news.length=n * 5) (e:∀u ∈ news,u.oneCell'=true)
  (f:∀j v,news[j]? = some v->w.cell? (p.add j)=some v) (l:o+news.length<=cur.size) (B:TypeId) :
  ∃w',(Builtin.copy_ #[166,166] B #[.slice (some (g,o)) s z,.slice (some p) sl x]).run prog w=.ok (goInt n) w'/\w'.heap[g]? = some (.cells (cur.toList.take o++news++cur.toList.drop (o+news.length)).toArray 216 (0,0))/\aC g w w':=by
 obtain⟨i,C,q⟩:=Lj;have y:=ab4 (P := prog) w i.size n p sl x news (by rw[q];exact a) f;have m:=Ii prog g o 216 news 0 cur w h (by simpa using l) e;rw[oV]at m;refine⟨_,?_,Cc w g cur _ _ _ h,pW _ _ _⟩;rw[q]at y;simp[Builtin.copy_,run_underlying Tryz.underlying166,sizeOf,typeInfo,C,q,Builtin.lenOf,A,y,m]
theorem jg {α:Type} (l:List α) (k:Nat) (r:α) (f:k<=l.length) (i:Nat):(l.insertIdx k r)[i]? = if i < k then l[i]? else if i=k then some r else l[i - 1]? := by
 rw[List.getElem?_insertIdx];by_cases a:i < k
 ·rw[aj a,aj a]
 ·rw[ak a,ak a];by_cases e:i=k
  ·rw[aj e,aj e,aj om]
  ·rw[ak e,ak e]
theorem Ea {R:List (List Value)} {k:Nat} {r:List Value} (h:∀x ∈ R,Five x) (hr:Five r):∀x ∈ R.insertIdx k r,Five x:=fun x a=>by
 by_cases f:k<=R.length
 ·rcases(List.mem_insertIdx f).1 a with e | e
  ·rw[e];exact hr
  ·exact h x e
 ·rw[List.insertIdx_of_length_lt om]at a;exact h x a
theorem Y0 {n:Nat} {R:List (List Value)} {cur:Array Value} {r:List Value} (h:w.heap[g]? = some (.cells cur 216 (0,0))) (e:cur.size=cap * 5) (u:R.length=n) (f:∀x ∈ R,Five x) (hr:Five r) (y:k<=n) (z:n+1<=cap)
  (l:∀i x j,i < k->R[i]? = some x->j < 5->cur[i * 5+j]? = x[j]?) (m:∀i x j,k<=i->R[i]? = some x->j < 5->cur[(i+1) * 5+j]? = x[j]?) (o:∀j,j < 5->cur[k * 5+j]? = r[j]?):pX w g cap (R.insertIdx k r) cur:=by
 refine⟨h,e,by rw[Ap om];omega,fun i x j a p=>?_,Ea f hr⟩;rw[jg R k r om]at a;by_cases q:i < k
 ·rw[aj q]at a;exact l i x j q a p
 ·rw[ak q]at a;by_cases s:i=k
  ·rw[aj s]at a
   cases a
   rw[s];exact o j p
  ·rw[ak s]at a;have:=m (i - 1) x j om a p;rw[show i - 1+1=i by omega]at this;exact this
theorem LU {R:List (List Value)} (e:∀x ∈ R,Five x) (k:Nat):((R.drop k).flatten).length=(R.length - k) * 5/\(∀u ∈ (R.drop k).flatten,u.oneCell'=true)/\∀a j,j < 5->((R.drop k).flatten)[a * 5+j]? = (R[k+a]?).bind (·[j]?):=by
 have f:∀r ∈ R.drop k,Five r:=fun r hr=>e r (ab3 hr);refine⟨by rw[lI f,JF],tY f,fun a j h=>by rw[flat_get f a j h,JE]⟩
theorem afb {R:List (List Value)} {cur:Array Value} {r:List Value} (h:pX w g cap R cur) (hr:Five r) (T:k < R.length) (q:R.length+1<=cap) (F:Nat) (I:F≠g) (s:∀j u,r[j]? = some u->w.cell? ⟨F,j,none⟩=some u) (G:TypeId) (K s1 L s2:Nat) :
  ∃H w2,(Builtin.copy_ #[166,166] G #[.slice (some (g,(k+1) * 5)) (R.length - k) K,.slice (some (g,k * 5)) (R.length+1 - k) s1]).run prog w=.ok (goInt ((R.length - k:Nat):Int)) H/\(Builtin.copy_ #[166,166] G #[.slice (some (g,k * 5)) (R.length+1 - k) L,.slice (some (F,0)) 1 s2]).run prog H=.ok (goInt 1) w2/\(∃A,pX w2 g cap (R.insertIdx k r) A)/\aC g w w2:=by
 obtain⟨J,B,o⟩:=LU h.ok k;have C:=h.sz;have l:(k+1) * 5+((R.drop k).flatten).length<=cur.size:=by rw[J,C];omega
 obtain⟨H,O,M,c1⟩:=Bj h.h ((k+1) * 5) (R.length - k) (R.length - k) K (R.length+1 - k) s1 (g,k * 5) _ (by simp only[Nat.min_def];split <;> omega) J B (fun j v s=>by
  have e:j=j / 5 * 5+j % 5:=by omega
  have D:j % 5 < 5:=TQ _ om;rw[e,o _ _ D]at s;obtain⟨x,y,s⟩:=Option.bind_eq_some_iff.1 s;have:=h.cell y D;rw[s]at this;rw[fM,show k * 5+j=(k+j / 5) * 5+j % 5 by omega];exact this) l G
 have p:=kM cur ((k+1) * 5) _ l;have m:=nC cur ((k+1) * 5) _ l;generalize (cur.toList.take ((k+1) * 5)++(R.drop k).flatten++cur.toList.drop ((k+1) * 5+((R.drop k).flatten).length)).toArray=cur1 at M p m;have a:k * 5+r.length<=cur1.size:=by rw[p,C,hr.1];omega
 obtain⟨w2,P,N,c2⟩:=Bj M (k * 5) 1 (R.length+1 - k) L 1 s2 (F,0) r (by simp only[Nat.min_def];split <;> omega) (by rw[hr.1]) hr.2 (fun j v z=>by
  rw[fM,fE];exact c1.keeps I (s j v z)) a G
 have E:=kM cur1 (k * 5) _ a;have f:=nC cur1 (k * 5) _ a;generalize (cur1.toList.take (k * 5)++r++cur1.toList.drop (k * 5+r.length)).toArray=cur2 at N E f;refine⟨H,w2,O,P,⟨cur2,Y0 N om rfl h.ok hr om q ?_ ?_ ?_⟩,c1.trans c2⟩
 ·intro i x j Q y z;rw[f,ak om,m,ak om];exact h.at' i x j y z
 ·intro i x j Q y z;have S:=(List.getElem?_eq_some_iff.1 y).1;rw[f,ak (by rw[hr.1];omega),m,aj (by rw[J];omega),show(i+1) * 5+j - (k+1) * 5=(i - k) * 5+j by omega,o _ _ z,show k+(i - k)=i by omega,y];rfl
 ·intro j z;rw[f,aj (by rw[hr.1];omega),show k * 5+j - k * 5=j by omega]
theorem afc {G m:Nat} {R:List (List Value)} {cur a:Array Value} {r:List Value} (h:pX w g cap R cur) (U:w.heap[G]? = some (.cells a 216 (0,0))) (V:g≠G) (hr:Five r) (Z:k < R.length) (C:a.size=m * 5) (y:R.length+1<=m)
  (K:∀i x j,i < k->R[i]? = some x->j < 5->a[i * 5+j]? = x[j]?) (L:Nat) (z:∀j u,r[j]? = some u->w.cell? ⟨L,j,none⟩=some u) (J:TypeId) (O s1 P s2:Nat) :
  ∃D w2,(Builtin.copy_ #[166,166] J #[.slice (some (G,k * 5)) (R.length+1 - k) O,.slice (some (L,0)) 1 s1]).run prog w=.ok (goInt 1) D/\(Builtin.copy_ #[166,166] J #[.slice (some (G,(k+1) * 5)) (R.length - k) P,.slice (some (g,k * 5)) (R.length - k) s2]).run prog D.drew=.ok (goInt ((R.length - k:Nat):Int)) w2/\(∃E,pX w2 G m (R.insertIdx k r) E)/\aC G w w2:=by
 obtain⟨M,F,q⟩:=LU h.ok k;have f:k * 5+r.length<=a.size:=by rw[C,hr.1];omega
 obtain⟨D,W,Q,c1⟩:=Bj U (k * 5) 1 (R.length+1 - k) O 1 s1 (L,0) r (by simp only[Nat.min_def];split <;> omega) (by rw[hr.1]) hr.2 (fun j v A=>by
  rw[fM,fE];exact z j v A) f J
 have s:=kM a (k * 5) _ f;have o:=nC a (k * 5) _ f;generalize (a.toList.take (k * 5)++r++a.toList.drop (k * 5+r.length)).toArray=cur1 at Q s o;have p:(k+1) * 5+((R.drop k).flatten).length<=cur1.size:=by rw[M,s,C];omega
 have N:D.drew.heap[G]? = some (.cells cur1 216 (0,0)):=Q;obtain⟨w2,X,S,c2⟩:=Bj N ((k+1) * 5) (R.length - k) (R.length - k) P (R.length - k) s2 (g,k * 5) _ (by simp only[Nat.min_def];split <;> omega) M F (fun j v z=>by
  have e:j=j / 5 * 5+j % 5:=by omega
  have H:j % 5 < 5:=TQ _ om;rw[e,q _ _ H]at z;obtain⟨x,B,z⟩:=Option.bind_eq_some_iff.1 z;have:=h.cell B H;rw[z]at this;rw[fM,show k * 5+j=(k+j / 5) * 5+j % 5 by omega];exact c1.keeps V this) p J
 have I:=kM cur1 ((k+1) * 5) _ p;have l:=nC cur1 ((k+1) * 5) _ p;generalize (cur1.toList.take ((k+1) * 5)++(R.drop k).flatten++cur1.toList.drop ((k+1) * 5+((R.drop k).flatten).length)).toArray=cur2 at S I l;refine⟨D,w2,W,X,⟨cur2,Y0 S om rfl h.ok hr om y ?_ ?_ ?_⟩,(c1.trans (aC.of bD)).trans c2⟩
 ·intro i x j T B A;rw[l,ak om,o,ak om];exact K i x j T B A
 ·intro i x j T B A;have Y:=(List.getElem?_eq_some_iff.1 B).1;rw[l,aj (by rw[M];omega),show(i+1) * 5+j - (k+1) * 5=(i - k) * 5+j by omega,q _ _ A,show k+(i - k)=i by omega,B];rfl
 ·intro j A;rw[l,ak om,o,aj (by rw[hr.1];omega),show k * 5+j - k * 5=j by omega]
def Y4 (w:World) (g n k:Nat) (R:List (List Value)) (r:List Value) (e:Ending) (w':World):Prop:=∃f c' a,e=.returned (.slice (some ⟨f,0,none⟩) (n+1) c')/\pX w' f c' (R.insertIdx k r) a/\c'<=maxLen/\aC g w w'/\(f=g\/w.heap.size<=f)
end
theorem LX (g cap:Nat) (R:List (List Value)) (r:List Value) (cur:Array Value) (w:World) (h:pX w g cap R cur) (hr:Five r) (p:R.length<=200) (H:cap<=maxLen) (s:Nat) (I:∀j u,r[j]? = some u->w.cell? ⟨s,j,none⟩=some u) :
  Calls prog 148 #[.slice (some (g,0)) R.length cap,R.length,.slice (some (s,0)) 1 1] w fun e w'=>Y4 w g R.length R.length R r e w':=by
 obtain⟨M,N,y,z,A⟩:=lu Tryz.xY;have B:=h.lt;have own:=h.own (base:=0) H (jY _);obtain⟨v',w4,O,o,i,_,J⟩:=BX (P := prog) w 0 166 166 216 M _ 5 56 Tryz.underlying166 N y z A rfl dC (.slice (some ⟨g,0,none⟩) R.length cap) R.length R.flatten own ⟨s,0,none⟩ 1 1 r (by rw[hr.1]) (fun j u Q=>by rw[fM,fE];exact I j u Q) hr.2 (by unfold maxLen;omega) om (jY _);have k:R.flatten++r=(R++[r]).flatten:=by simp
 rw[k]at o;have l:∀x ∈ R++[r],Five x:=fun x S=>by
  rcases lU.1 S with q | q
  ·exact h.ok x q
  ·have:x=r:=by simpa using q
   rw[this];exact hr
 obtain⟨a,c',rfl,C,D,E,m⟩:∃a c',v'=.slice (some ⟨a,0,none⟩) (R.length+1) c'/\0<=a/\a < w4.heap.size/\R.length+1<=c'/\c'<=maxLen:=by
  rcases aJ o with⟨_,q⟩ | q
  ·omega
  ·exact q
 obtain⟨f,K⟩:=pX.pF o l sM;have F:Hid (pX w4 a c' (R.insertIdx R.length r) f):=by rw[List.insertIdx_length_self];exact K
 have G:Hid (c'<=maxLen/\aC g w w4/\(a=g\/w.heap.size<=a)):=by
  refine⟨m,⟨i.os,i.tape,i.output,i.size,fun q T p=>i.block q T (fun e=>p (by cases e;rfl))⟩,?_⟩;rcases J with q | q
  ·cases q;exact .inl rfl
  ·cases q;exact .inr nL
 have k1:(R.length:Int)<=(cap:Int):=by have:=h.le;omega
 have k2:R.length<=cap:=h.le;clear h hr p H I own o i J k l C D E m K B;by_cases L:cap=R.length
 all_goals
  go_enter func148,ntmps148;go_wp2_with (at_builtin;refine aN rfl _ _ 166 rfl _ _ _ _ rfl rfl O ?_)
  go_ret;exact⟨a,c',f,rfl,F,G⟩
theorem Eb (w:World) (g a cap j k l o:Nat) (cur:Array Value) (r:List Value) (m:w.heap[g]? = some (.cells cur 216 (0,0))) (p:cur.size≠0) (f:w.heap[a]? = some (.cells r.toArray 216 (0,0))) (h:a≠g) :
  (callFunc 186 #[.slice (some (a,0)) k j,.slice (some (g,o)) l cap]).run prog w=.ok (.value (.bool false)) w:=by
 have i:∀w,(Go.sizeOf 216).run prog w=.ok 5 w:=fun w=>by kernel_rfl
 rw[run_callFunc_extern func186 kr kr kr (e:=Extern.SlicesOverlaps.overlaps #[166,166] #[4]) kr,
  Go.Lib.run_overlaps_apart w 166 4 216 Tryz.underlying166 5 i ⟨a,0,none⟩ ⟨g,o,none⟩ k j l cap h 216 216 r.toArray.size cur.size (by simp[World.shape?,f]) (by simp[World.shape?,m]) p (by simp[World.frozen?,f]) (by simp[World.frozen?,f])]
 rfl
theorem FI (g cap k:Nat) (R:List (List Value)) (r:List Value) (cur:Array Value) (w:World) (h:pX w g cap R cur) (hr:Five r) (y:k < R.length) (f:R.length+1<=cap) (x:cap<=maxLen) (s:Nat) (l:s≠g) (z:w.heap[s]? = some (.cells r.toArray 216 (0,0))) :
  Calls prog 148 #[.slice (some (g,0)) R.length cap,k,.slice (some (s,0)) 1 1] w fun e w'=>Y4 w g R.length k R r e w':=by
 have B:pX w.drew g cap R cur:=⟨h.h,h.sz,h.le,h.at',h.ok⟩;have m:=Eb w g s (cap - (k+1)) 1 1 (R.length - k) ((k+1) * 5) cur r h.h (by rw[h.sz];omega) z l;obtain⟨H,w2,A,C,⟨i,D⟩,E⟩:=afb B hr y f s l (fun j u I=>by rw[aP w.drew s _ _ _ _ z];simpa using I) 3 (cap - (k+1)) (cap - k) (cap - k) 1;have p:Hid (pX w2 g cap (R.insertIdx k r) i/\aC g w w2/\cap<=maxLen):=⟨D,(aC.of bD).trans E,x⟩;obtain⟨n,F⟩:∃n,n=R.length:=⟨_,rfl⟩;rw[<- F]at m A C y f ⊢;have Q:(0:Int)<=(k:Int):=by omega
 have k1:(k:Int)<=(n:Int):=by omega
 have k2:(k:Int)<=(cap:Int):=by omega
 have k3:((k:Int)==(n:Int))=false:=by rw[dG];omega
 have k4:¬(cap:Int) < (n:Int)+1:=by omega
 have k5:(0:Int)<=(n:Int)+1:=by omega
 have k6:(n:Int)+1<=(cap:Int):=by omega
 have k7:IntKind.i64.wrap ((k:Int)+1)=(k:Int)+1:=by unfold maxLen at x;rw[iI];omega
 have T:IntKind.i64.wrap ((n:Int)+1)=(n:Int)+1:=by unfold maxLen at x;rw[iI];omega
 have U:(0:Int)<=(k:Int)+1:=by omega
 have J:(k:Int)+1<=(n:Int)+1:=by omega
 have L:¬cap=k+1:=by omega
 have M:¬cap=k:=by omega
 have N:(k:Int)<=(n:Int)+1:=by omega
 have O:k<=n:=by omega
 have P:k<=n+1:=by omega
 clear h hr y f x z l B D E F;go_enter func148,ntmps148;go_wp2_with (simp only[m])
 refine TF ?_;refine Ih (S:=(fun w':World=>w'=w.drew\/w'=H)) kr (.inl rfl) (fun _=>?_);refine jq 0 (v:=?_) rfl (Or.inl ⟨by rfl,?_⟩) (.inl rfl) ?_;rotate_left
 ·intro q a;(try dsimp only at a);go_simp;try (with_reducible rfl)
 simp only[sP];refine jq 1 (v:=?_) rfl (Or.inl ⟨by rfl,?_⟩) (.inl rfl) ?_;rotate_left
 ·intro q a;(try dsimp only at a);go_simp;try (with_reducible rfl)
 simp only[sP];refine jq 2 (v:=?_) rfl (Or.inl ⟨by rfl,?_⟩) (.inl rfl) ?_;rotate_left
 ·intro q a;(try dsimp only at a);go_simp;try (with_reducible rfl)
 simp only[sP];refine jq 3 (v:=?_) rfl (Or.inl ⟨by rfl,?_⟩) (.inl rfl) ?_;rotate_left
 ·intro q a;(try dsimp only at a);go_simp;try (with_reducible rfl)
 simp only[sP];refine jq 4 (v:=?_) rfl (Or.inl ⟨by rfl,?_⟩) (.inl rfl) ?_;rotate_left
 ·intro q a;(try dsimp only at a);go_simp;try (with_reducible rfl)
 simp only[sP];refine jq 5 (v:=?_) rfl (Or.inl ⟨by rfl,?_⟩) (.inl rfl) ?_;rotate_left
 ·intro q a;(try dsimp only at a);go_simp;try (with_reducible rfl)
 simp only[sP];refine jq 6 (v:=?_) rfl (Or.inl ⟨by rfl,?_⟩) (.inl rfl) ?_;rotate_left
 ·intro q a;(try dsimp only at a);go_simp;try (with_reducible rfl)
 simp only[sP];refine jq 7 (v:=?_) rfl (Or.inl ⟨by rfl,?_⟩) (.inl rfl) ?_;rotate_left
 ·intro q a;(try dsimp only at a);go_simp;try (with_reducible rfl)
 simp only[sP];refine qF (rs:=[8]) kr sM ?_;refine sH (o:=_) rfl (fun K G=>?_) wu;refine Eq.mpr (aj kr) ?_;refine wU (Operand.tmp 73) (Operand.tmp 76) 166 rfl _ _ _ _ rfl rfl A ?_;refine G.out _ _ ?_ (fun _=>?_)
 ·exact .inr rfl
 clear G K;try simp only[sP]
 refine Ij kr ?_ _;refine TM ?_;clear A m;go_wp2_with (at_builtin;refine tZ rfl _ _ 166 rfl _ _ _ _ rfl rfl C ?_)
 go_ret;exact⟨g,cap,i,rfl,p.1,p.2.2,p.2.1,.inl rfl⟩
theorem I9 (g cap k:Nat) (R:List (List Value)) (r:List Value) (cur:Array Value) (w:World) (h:pX w g cap R cur) (hr:Five r) (hk:k < R.length) (y:R.length<=200) (z:cap < R.length+1) (vb:Nat) (hv:∀j u,r[j]? = some u->w.cell? ⟨vb,j,none⟩=some u) :
  Calls prog 148 #[.slice (some (g,0)) R.length cap,k,.slice (some (vb,0)) 1 1] w fun e w'=>Y4 w g R.length k R r e w':=by
 obtain⟨i0,hi,N,F,H⟩:=lu Tryz.xY;have O:=h.le;have Q:=h.lt;have p:∀x ∈ R.take k,Five x:=fun x C=>h.ok x (BU C);have D:(Builtin.firstCells i0.size k (.slice (some (g,0)) k cap)).run prog w.drew=.ok ((R.take k).flatten).toArray w.drew:=ab4 w.drew i0.size k (g,0) k cap ((R.take k).flatten) (by rw[F,lI p,qE];congr 1;omega) (fun j v L=>by
  have e:j=j / 5 * 5+j % 5:=by omega
  have T:j % 5 < 5:=TQ _ om;rw[e,flat_get p _ _ T]at L;obtain⟨x,C,hv⟩:=Option.bind_eq_some_iff.1 L;rw[kG]at C;split at C
  ·have:=h.cell C T;rw[hv]at this;rw[fM,fE,e];exact this
  ·cases C)
 obtain⟨c',B⟩:∃c',c'=grownCap w (R.length+1) cap 216:=⟨_,rfl⟩;have U:R.length+1<=c':=by rw[B];exact grownCap_ge _ _ _ _
 have V:c'<=maxLen:=by rw[B];exact grownCap_le_maxLen _ _ _ _ (by unfold maxLen;omega)
 have s:=fun ty=>Go.Lib.run_append_grow_zeros (P := prog) w 166 3 ty 216 i0 _ .i64 .i64 Tryz.underlying166 Tryz.underlying3 hi N (some (g,0)) k cap ((R.take k).flatten) D (R.length+1 - k) om (by rw[F];omega) om om (by rw[H];omega) (by rw[H];exact growslice_fits om om);rw[show k+(R.length+1 - k)=R.length+1 by omega,<- B]at s;obtain⟨l,m⟩:∃l:Array Value,l=((R.take k).flatten).toArray++Builtin.zeroCells (Value.cells (.agg #[.int .i64 0,.int .i64 0,.int .i64 0,.bool false,.slice none 0 0])) (R.length+1 - k)++Builtin.zeroCells (Value.cells (.agg #[.int .i64 0,.int .i64 0,.int .i64 0,.bool false,.slice none 0 0])) (c' - (R.length+1)):=⟨_,rfl⟩;rw[<- m]at s;have W:(Value.cells (.agg #[.int .i64 0,.int .i64 0,.int .i64 0,.bool false,.slice none 0 0])).size=5:=by kernel_rfl
 have X:l.size=c' * 5:=by
  rw[m,Oq,Oq,size_zeroCells,size_zeroCells,W,Fa,lI p,qE];omega
 have Y:∀i x j,i < k->R[i]? = some x->j < 5->l[i * 5+j]? = x[j]? := fun i x j Zg C L=>by
  have hl:i * 5+j < ((R.take k).flatten).toArray.size:=by rw[Fa,lI p,qE];omega
  rw[m,Array.append_assoc,Array.getElem?_append_left hl,vW,flat_get p _ _ L,kG,aj Zg,C];rfl
 obtain⟨W1,A⟩:∃W1,W1=w.drew.alloc (.cells l 216):=⟨_,rfl⟩;rw[<- A]at s;have f:Below w w W1:=by rw[A];exact t2 bD (aB _ _)
 have hG:W1.heap[w.heap.size]? = some (.cells l 216 (0,0)):=by rw[A];exact dh w.drew _
 have h1:pX W1 g cap R cur:=h.kept (f.block g Q);obtain⟨w2,w3,e1,e2,⟨E,R3⟩,M⟩:=afc h1 hG om hr hk X U Y vb (fun j u L=>tk f (hv j u L)) 3 (c' - k) 1 (c' - (k+1)) (cap - k);have I:Hid (pX w3 w c' (R.insertIdx k r) E/\aC g w w3/\c'<=maxLen):=by
  refine⟨R3,⟨M.os.trans f.os,M.tape.trans f.tape,M.output.trans f.output,dL f.size M.size,fun q hq _=>(M.block q (ji hq f.size) om).trans (f.block q hq)⟩,V⟩
 obtain⟨n,hn⟩:∃n,n=R.length:=⟨_,rfl⟩;rw[<- hn]at s e1 e2 hk z U O y ⊢;have Z:((n+1 - k:Nat):Int)=(n:Int)+1 - (k:Int):=by omega
 rw[Z]at s;have Zj:(n:Int)<=200:=by omega
 have Zk:0 < (n:Int)+1 - (k:Int):=by omega
 have k0:(0:Int)<=(k:Int):=by omega
 have k1:(k:Int)<=(n:Int):=by omega
 have k2:(k:Int)<=(cap:Int):=by omega
 have k3:((k:Int)==(n:Int))=false:=by rw[dG];omega
 have k4:(cap:Int) < (n:Int)+1:=by omega
 have k7:IntKind.i64.wrap ((k:Int)+1)=(k:Int)+1:=by rw[iI];omega
 have k8:IntKind.i64.wrap ((n:Int)+1)=(n:Int)+1:=by rw[iI];omega
 have k5:IntKind.i64.wrap ((n:Int)+1 - (k:Int))=(n:Int)+1 - (k:Int):=by rw[iI];omega
 have k9:(0:Int)<=(k:Int)+1:=by omega
 have Zl:(k:Int)+1<=(n:Int)+1:=by omega
 have Zm:¬c'=k+1:=by omega
 have Zn:¬c'=k:=by omega
 have Zp:¬cap=k:=by omega
 have Zq:(k:Int)<=(n:Int)+1:=by omega
 have Zr:k<=n:=by omega
 have Zt:k<=n+1:=by omega
 have HW:Hid (W1=w.drew.alloc (.cells l 216)):=A;generalize Zh:w.heap.size=G at *;have Zi:Hid (w.heap.size<=G):=(by omega:w.heap.size<=G);clear Zh Z h hr hk z hv p D B V m W X Y A f hG h1 R3 M hn Q O y hi N F H;go_enter func148,ntmps148;go_wp2_with (first
  | (at_builtin;refine Go.Lib.wpList_append_run _ rfl _ _ _ _ rfl _ _ rfl rfl _ _ (s _) ?_)
  | (at_builtin;refine tZ rfl _ _ 166 rfl _ _ _ _ rfl rfl e1 ?_))
 refine TF ?_;refine Ih (S:=(fun w':World=>w'=w2.drew\/w'=w3)) kr (.inl rfl) (fun _=>?_);refine jq 0 (v:=?_) rfl (Or.inl ⟨by rfl,?_⟩) (.inl rfl) ?_;rotate_left
 ·intro J a;(try dsimp only at a);go_simp;try (with_reducible rfl)
 simp only[sP];refine jq 1 (v:=?_) rfl (Or.inl ⟨by rfl,?_⟩) (.inl rfl) ?_;rotate_left
 ·intro J a;(try dsimp only at a);go_simp;try (with_reducible rfl)
 simp only[sP];refine jq 2 (v:=?_) rfl (Or.inl ⟨by rfl,?_⟩) (.inl rfl) ?_;rotate_left
 ·intro J a;(try dsimp only at a);go_simp;try (with_reducible rfl)
 simp only[sP];refine jq 3 (v:=?_) rfl (Or.inl ⟨by rfl,?_⟩) (.inl rfl) ?_;rotate_left
 ·intro J a;(try dsimp only at a);go_simp;try (with_reducible rfl)
 simp only[sP];refine jq 4 (v:=?_) rfl (Or.inl ⟨by rfl,?_⟩) (.inl rfl) ?_;rotate_left
 ·intro J a;(try dsimp only at a);go_simp;try (with_reducible rfl)
 simp only[sP];refine jq 5 (v:=?_) rfl (Or.inl ⟨by rfl,?_⟩) (.inl rfl) ?_;rotate_left
 ·intro J a;(try dsimp only at a);go_simp;try (with_reducible rfl)
 simp only[sP];refine jq 6 (v:=?_) rfl (Or.inl ⟨by rfl,?_⟩) (.inl rfl) ?_;rotate_left
 ·intro J a;(try dsimp only at a);go_simp;try (with_reducible rfl)
 simp only[sP];refine jq 7 (v:=?_) rfl (Or.inl ⟨by rfl,?_⟩) (.inl rfl) ?_;rotate_left
 ·intro J a;(try dsimp only at a);go_simp;try (with_reducible rfl)
 simp only[sP];refine qF (rs:=[8]) kr sM ?_;refine sH (o:=_) rfl (fun K hK=>?_) wu;refine Eq.mpr (aj kr) ?_;refine wU (Operand.tmp 50) (Operand.tmp 53) 166 rfl _ _ _ _ rfl rfl e2 ?_;refine hK.out _ _ ?_ (fun _=>?_)
 ·exact .inr rfl
 clear hK K;try simp only[sP]
 refine Ij kr ?_ _;refine TM ?_;go_wp2_with fail;go_ret;exact⟨G,c',E,rfl,I.1,I.2.2,I.2.1,.inr Zi⟩
end Go.Proofs.YtnogmjekhjldcaaGreatDoor
